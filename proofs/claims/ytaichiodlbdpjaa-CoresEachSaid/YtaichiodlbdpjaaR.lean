/- The document's Order. -/
import Derived.Test.YtaichiodlbdpjaaE
namespace Go.Proofs.Ytaichiodlbdpjaa
open Go.ChangeShapes Go.WideShapes Go.ChangeAt Go.RowKit Go.Deep
theorem vals_made1 {w : World} {b n : Nat} {e : TypeId} {z : Value} (hz : z.cells = #[z]) (h : w.ownsRow 0 e 1 (.slice (some ⟨b, 0, none⟩) n n) n (madeCells z.cells (n * 1)).toList) : Vals w b e n (fun _ => z) := by
  obtain ⟨h1, h2⟩ := h
  rcases h2 with ⟨h2, _⟩ | ⟨g, cap, cur, hv, _, hh, hn, hc, hs, ht⟩
  · cases h2
  · cases hv
    have e : cur = ((List.range n).map (fun _ => z)).toArray := by
      apply Array.ext'
      have e1 : cur.toList.take (n * 1) = cur.toList := List.take_of_length_le (by simp; omega)
      rw [e1] at ht
      rw [ht]
      apply List.ext_getElem?
      intro j
      by_cases hj : j < n
      · simp [madeCells, hj, hz, Nat.mod_one]
      · simp [madeCells, hj]
    show w.heap[b]? = _
    rw [hh, e]
theorem info4 : (Try.prog.info? 4).map (fun i => (i.zero, i.size, i.bytes)) = some (some (.bool false), 1, 1) := by kernel_rfl
def seenV (L : List Int) (j : Nat) : Value := .bool (decide ((j : Int) ∈ L))
theorem seenV_nil : seenV [] = fun _ => .bool false := by funext j; simp [seenV]
theorem seenV_add (L : List Int) (y : Nat) : (fun j => if j = y then Value.bool true else seenV L j) = seenV (L ++ [(y : Int)]) := by
  funext j
  unfold seenV
  by_cases h : j = y
  · subst h; simp
  · rw [if_neg h]
    congr 1
    rw [decide_eq_decide, List.mem_append]
    simp only [List.mem_singleton]
    constructor
    · exact .inl
    · rintro (e | e)
      · exact e
      · omega
/-- What the document's Order holds on its way. -/
structure Rf (w wr : World) (b n : Nat) (A : Option Addr) (len c : Nat) (L : List Int) : Prop where
  oo : Oo w wr A len c L
  sn : Vals wr b 4 n (seenV L)
  new : w.heap.size ≤ b
  ap : ∀ k, (Value.slice A len c).ownBlock = some k → k ≠ b
theorem Rf.set {w wr : World} {b n : Nat} {A : Option Addr} {len c : Nat} {L : List Int} (h : Rf w wr b n A len c L) (y : Nat) :
    Oo w (wr.setCell ⟨b, y, none⟩ (.bool true)) A len c L ∧ Vals (wr.setCell ⟨b, y, none⟩ (.bool true)) b 4 n (seenV (L ++ [(y : Int)])) := by
  refine ⟨⟨h.oo.ln, h.oo.but.setNew (p := ⟨b, y, none⟩) h.new _, ?_, h.oo.new⟩, by rw [← seenV_add]; exact h.sn.set _⟩
  refine owns_but (S := Just b) h.oo.row (But.setCell (S := Just b) (But.refl _ _) (p := ⟨b, y, none⟩) (just b) _) (fun k hk e => ?_)
  exact h.ap k hk e
theorem Rf.app {w wr w2 : World} {b n : Nat} {A A2 : Option Addr} {len c c2 : Nat} {L : List Int} {y : Nat} (h : Rf w wr b n A len c L) (wd : World) (hwd : wd = wr.setCell ⟨b, y, none⟩ (.bool true))
    (hown : w2.ownsRow 0 3 1 (.slice A2 (len + 1) c2) (len + 1) (L.map (Value.int .i64) ++ [.int .i64 (y : Int)])) (hg : (wd.alloc (.cells #[.int .i64 (y : Int)] 3)).grownBy w2 (Value.slice A len c).ownBlock)
    (hat : (Value.slice A2 (len + 1) c2).ownBlock = (Value.slice A len c).ownBlock ∨ (Value.slice A2 (len + 1) c2).ownBlock = some (wd.alloc (.cells #[.int .i64 (y : Int)] 3)).heap.size) : Rf w w2 b n A2 (len + 1) c2 (L ++ [(y : Int)]) := by
  subst hwd
  obtain ⟨h1, h2⟩ := h.set y
  have hb : But (fun k => (Value.slice A len c).ownBlock = some k) (wr.setCell ⟨b, y, none⟩ (.bool true)) w2 := ((But.refl _ _).alloc _).grown hg (fun k e => .inl e)
  refine ⟨h1.app hown hg hat, h2.but hb (fun e => h.ap b e rfl), h.new, fun k hk => ?_⟩
  rcases hat with e | e
  · exact h.ap k (by rw [← e]; exact hk)
  · rw [e] at hk
    cases hk
    have := h2.lt
    rw [size_alloc1]; omega
theorem refOrder_bad (n : Int) (v : Value) (w : World) (hn : n < 1 ∨ 8 < n) :
    Calls Try.prog 10 #[.int .i64 n, v] w fun r w' => r = .returned (.slice none 0 0) ∧ w = w' := by
  by_cases h : n < 1
  · have b1 : decide (n < 1) = true := by simpa using h
    go_enter Try.func10, Try.ntmps10
    go_wp2
    go_ret
    exact ⟨rfl, rfl⟩
  · have b1 : decide (n < 1) = false := by simpa using h
    have b2 : decide (8 < n) = true := by simp; omega
    go_enter Try.func10, Try.ntmps10
    go_wp2
    go_ret
    exact ⟨rfl, rfl⟩
theorem getD_left {zs ys : List Int} {k : Nat} (h : k < zs.length) : (zs ++ ys).getD k 0 = zs.getD k 0 := by
  simp [List.getD, List.getElem?_append_left h]
theorem getD_right {zs ys : List Int} {k : Nat} (h : zs.length ≤ k) : (zs ++ ys).getD k 0 = ys.getD (k - zs.length) 0 := by
  simp [List.getD, List.getElem?_append_right h]
set_option maxHeartbeats 4000000 in
set_option maxRecDepth 100000 in
theorem refOrder_ok (n : Nat) (A : Option Addr) (m c : Nat) (zs : List Int) (w : World) (hn : 1 ≤ n) (h8 : n ≤ 8) (hd : Rd w A m zs) (hm : m * 8 ≤ 140737488351232) :
    Calls Try.prog 10 #[.int .i64 n, .slice A m c] w fun r w' => ∃ v, r = .returned v ∧ OrderEnd w (ord n zs) v w' := by
  have b1 : decide ((n : Int) < 1) = false := by simp; omega
  have b2 : decide (8 < (n : Int)) = false := by simp; omega
  have HD := Lib.hid hd
  obtain ⟨i0, hi0, hz0, hz1, hz2⟩ := info_parts info3
  have I0 : Hid (Try.prog.info? 3 = some i0 ∧ i0.zero = some (.int .i64 0) ∧ i0.size = 1 ∧ i0.bytes = 8) := ⟨hi0, hz0, hz1, hz2⟩
  clear hi0 hz0 hz1 hz2 hd
  obtain ⟨i4, hi0, hz0, hz1, hz2⟩ := info_parts info4
  have I4 : Hid (Try.prog.info? 4 = some i4 ∧ i4.zero = some (.bool false) ∧ i4.size = 1 ∧ i4.bytes = 1) := ⟨hi0, hz0, hz1, hz2⟩
  have hmax : m ≤ 17592186043904 := by omega
  clear hi0 hz0 hz1 hz2 hm
  go_enter Try.func10, Try.ntmps10
  go_wp2_with (at_make; refine wpList_make_full _ rfl _ _ 39 rfl 0 4 i4 _ 1 Try.underlying39 I4.out.1 I4.out.2.1 I4.out.2.2.1 .i64 .i64 _ _ n rfl rfl (by omega) (by omega) (by rw [I4.out.2.2.2]; omega) (by unfold maxLen; omega) (Nat.zero_le _) ?_; intro w0 hown0 hgrow0; have HR0 : Hid (Rf w w0 w.heap.size n none 0 0 []) := ⟨⟨rfl, (But.refl No w).grown hgrow0 (fun k e => by cases e), World.ownsRow_nil _ _ _ _, fun k e => by cases e⟩, by rw [seenV_nil]; exact vals_made1 rfl hown0, Nat.le_refl _, fun k e => by cases e⟩; clear hown0 hgrow0)
  generalize w.heap.size = b at HR0 ⊢
  have HR1 : Hid (Rf w w0 b n none 0 0 (ordL n [] ((zs ++ all n).take 0))) := HR0.out
  clear HR0
  go_loopw [5, 7] (fun s5 s7 wr => ∃ (A5 : Option Addr) (len c5 k : Nat), s5 = .slice A5 len c5 ∧ s7 = .int .i64 k ∧ k ≤ m + n ∧ Hid (Rf w wr b n A5 len c5 (ordL n [] ((zs ++ all n).take k)))) (fun _ s7 _ => m + n - (intOf s7).toNat)
  case atStart => exact ⟨none, 0, 0, 0, rfl, rfl, by omega, HR1⟩
  case round =>
    obtain ⟨A5, len, c5, k, rfl, rfl, hk, hr⟩ := hrel
    clear HR1
    have HL8 : Hid (len ≤ 8) := by
      have := (Gd.fold (n := n) ((zs ++ all n).take k) (Gd.nil n)).len
      have := hr.out.oo.ln
      show _ ≤ _; omega
    have hl8 := HL8.out
    by_cases hlt : k < m + n
    · have HT : Hid (ordL n [] ((zs ++ all n).take (k + 1)) = stp n (ordL n [] ((zs ++ all n).take k)) ((zs ++ all n).getD k 0)) := ordL_take [] (by rw [List.length_append, all_len, HD.out.len]; omega)
      obtain ⟨L2, hL2⟩ : ∃ L2, ordL n [] ((zs ++ all n).take (k + 1)) = L2 := ⟨_, rfl⟩
      rw [hL2] at HT
      have HL2 := Lib.hid hL2
      clear hL2
      generalize ordL n [] ((zs ++ all n).take k) = L at HT hr
      have kM : (k : Int) < (m : Int) + (n : Int) := by omega
      by_cases hkm : k < m
      · have km : (k : Int) < (m : Int) := by omega
        obtain ⟨eb, eoff, rfl, hbl, hc⟩ := HD.out.at_ (by omega)
        replace hc := hc k hkm
        have hc2 : wr.cell? ⟨eb, eoff + k, none⟩ = some (.int .i64 (zs.getD k 0)) := by rw [hr.out.oo.but.cell hbl (fun f => f)]; exact hc
        rw [getD_left (by rw [HD.out.len]; exact hkm)] at HT
        clear hc hbl
        generalize zs.getD k 0 = x at hc2 HT
        by_cases x0 : 0 ≤ x
        · obtain ⟨y, rfl⟩ : ∃ y : Nat, x = y := ⟨x.toNat, by omega⟩
          by_cases yn : y < n
          · skip
            have b5 : decide ((0 : Int) ≤ (y : Int)) = true := by simp
            have b6 : decide ((y : Int) < (n : Int)) = true := by simpa using yn
            have c1 : wr.cell? ⟨b, y, none⟩ = some (seenV L y) := hr.out.sn.cell (by omega)
            have yn' : (y : Int) < (n : Int) := by omega
            by_cases hin : (y : Int) ∈ L
            · have HE : Hid (L2 = L) := by rw [HT.out]; exact stp_out (fun h => h.2.2 hin)
              rw [seenV, decide_eq_true hin] at c1
              clear hin HT
              go_wp2
              go_roundw
              case rel => exact ⟨A5, len, c5, k + 1, rfl, by go_num, by omega, by rw [HL2.out, HE.out]; exact hr.out⟩
              case measure => simp [intOf]; omega
            · have HE : Hid (L2 = L ++ [(y : Int)]) := by rw [HT.out]; exact stp_in ⟨by omega, yn', hin⟩
              rw [seenV, decide_eq_false hin] at c1
              have fz : wr.frozen? ⟨b, y, none⟩ = false := hr.out.sn.frozen y
              obtain ⟨wd, hwd⟩ : ∃ wd, wr.setCell ⟨b, y, none⟩ (.bool true) = wd := ⟨_, rfl⟩
              have HWD := Lib.hid hwd
              have HOW : Hid ((wd.alloc (.cells #[.int .i64 (y : Int)] 3)).ownsRow 0 3 1 (.slice A5 len c5) len (L.map (Value.int .i64))) := by rw [← hwd]; exact ((hr.out.set y).1.no ((But.refl No _).alloc _)).row
              have HRD : Hid (Reads (wd.alloc (.cells #[.int .i64 (y : Int)] 3)) (wr.heap.size + 1) 1 (some ⟨wr.heap.size, 0, none⟩) 1 [.int .i64 (y : Int)]) := by
                have := one_reads wd y
                rw [← hwd, show (wr.setCell ⟨b, y, none⟩ (.bool true)).heap.size = wr.heap.size by simp [World.setCell]] at this
                rw [← hwd]; exact this
              clear hin HT hwd
              go_wp2_with (at_builtin; rw [HWD.out]; refine wpList_append_sh _ rfl _ _ 22 rfl 3 i0 _ 1 8 Try.underlying22 I0.out.1 I0.out.2.1 I0.out.2.2.1 I0.out.2.2.2 rfl (by omega) (.slice A5 len c5) len _ rfl HOW.out (wr.heap.size + 1) (some ⟨wr.heap.size, 0, none⟩) 1 1 [.int .i64 (y : Int)] rfl HRD.out (one_cell y) (by unfold maxLen; omega) (by omega) ?_; intro A2 c2 w2 hown hgrow hat; have HO2 : Hid (Rf w w2 b n A2 (len + 1) c2 (L ++ [(y : Int)])) := (hr.out.app wd HWD.out.symm hown hgrow hat); clear hown hgrow hat)
              go_roundw
              case rel => exact ⟨_, len + 1, _, k + 1, rfl, by go_num, by omega, by rw [HL2.out, HE.out]; exact HO2.out⟩
              case measure => simp [intOf]; omega
          · have HE : Hid (L2 = L) := by rw [HT.out]; exact stp_out (fun h => yn (by omega))
            have b5 : decide ((0 : Int) ≤ (y : Int)) = true := by simp
            have b6 : decide ((y : Int) < (n : Int)) = false := by simpa using yn
            clear HT
            go_wp2
            go_roundw
            case rel => exact ⟨A5, len, c5, k + 1, rfl, by go_num, by omega, by rw [HL2.out, HE.out]; exact hr.out⟩
            case measure => simp [intOf]; omega
        · have HE : Hid (L2 = L) := by rw [HT.out]; exact stp_out (fun h => x0 h.1)
          have b5 : decide (0 ≤ x) = false := by simpa using x0
          clear HT
          go_wp2
          go_roundw
          case rel => exact ⟨A5, len, c5, k + 1, rfl, by go_num, by omega, by rw [HL2.out, HE.out]; exact hr.out⟩
          case measure => simp [intOf]; omega
      · have km : decide ((k : Int) < (m : Int)) = false := by simp; omega
        obtain ⟨y, hy⟩ : ∃ y, k = m + y := ⟨k - m, by omega⟩
        have yn : y < n := by omega
        have ey : (k : Int) - (m : Int) = (y : Int) := by omega
        rw [getD_right (by rw [HD.out.len]; omega), HD.out.len, show k - m = y by omega, all_getD yn] at HT
        clear hy
        have b5 : decide ((0 : Int) ≤ (y : Int)) = true := by simp
        have b6 : decide ((y : Int) < (n : Int)) = true := by simpa using yn
        have c1 : wr.cell? ⟨b, y, none⟩ = some (seenV L y) := hr.out.sn.cell (by omega)
        have yn' : (y : Int) < (n : Int) := by omega
        by_cases hin : (y : Int) ∈ L
        · have HE : Hid (L2 = L) := by rw [HT.out]; exact stp_out (fun h => h.2.2 hin)
          rw [seenV, decide_eq_true hin] at c1
          clear hin HT
          go_wp2
          go_roundw
          case rel => exact ⟨A5, len, c5, k + 1, rfl, by go_num, by omega, by rw [HL2.out, HE.out]; exact hr.out⟩
          case measure => simp [intOf]; omega
        · have HE : Hid (L2 = L ++ [(y : Int)]) := by rw [HT.out]; exact stp_in ⟨by omega, yn', hin⟩
          rw [seenV, decide_eq_false hin] at c1
          have fz : wr.frozen? ⟨b, y, none⟩ = false := hr.out.sn.frozen y
          obtain ⟨wd, hwd⟩ : ∃ wd, wr.setCell ⟨b, y, none⟩ (.bool true) = wd := ⟨_, rfl⟩
          have HWD := Lib.hid hwd
          have HOW : Hid ((wd.alloc (.cells #[.int .i64 (y : Int)] 3)).ownsRow 0 3 1 (.slice A5 len c5) len (L.map (Value.int .i64))) := by rw [← hwd]; exact ((hr.out.set y).1.no ((But.refl No _).alloc _)).row
          have HRD : Hid (Reads (wd.alloc (.cells #[.int .i64 (y : Int)] 3)) (wr.heap.size + 1) 1 (some ⟨wr.heap.size, 0, none⟩) 1 [.int .i64 (y : Int)]) := by
            have := one_reads wd y
            rw [← hwd, show (wr.setCell ⟨b, y, none⟩ (.bool true)).heap.size = wr.heap.size by simp [World.setCell]] at this
            rw [← hwd]; exact this
          clear hin HT hwd
          go_wp2_with (at_builtin; rw [HWD.out]; refine wpList_append_sh _ rfl _ _ 22 rfl 3 i0 _ 1 8 Try.underlying22 I0.out.1 I0.out.2.1 I0.out.2.2.1 I0.out.2.2.2 rfl (by omega) (.slice A5 len c5) len _ rfl HOW.out (wr.heap.size + 1) (some ⟨wr.heap.size, 0, none⟩) 1 1 [.int .i64 (y : Int)] rfl HRD.out (one_cell y) (by unfold maxLen; omega) (by omega) ?_; intro A2 c2 w2 hown hgrow hat; have HO2 : Hid (Rf w w2 b n A2 (len + 1) c2 (L ++ [(y : Int)])) := (hr.out.app wd HWD.out.symm hown hgrow hat); clear hown hgrow hat)
          go_roundw
          case rel => exact ⟨_, len + 1, _, k + 1, rfl, by go_num, by omega, by rw [HL2.out, HE.out]; exact HO2.out⟩
          case measure => simp [intOf]; omega
    · have kM : decide ((k : Int) < (m : Int) + (n : Int)) = false := by simp; omega
      have HE : Hid (ordL n [] ((zs ++ all n).take k) = ord n zs) := by
        show _ = _
        rw [List.take_of_length_le (by rw [List.length_append, all_len, HD.out.len]; omega)]
        rfl
      go_wp2
      go_ret
      exact ⟨_, rfl, A5, len, c5, rfl, by rw [← HE.out]; exact hr.out.oo⟩
end Go.Proofs.Ytaichiodlbdpjaa
