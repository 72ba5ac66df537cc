/- Order. -/
import Derived.Test.YtaichiodlbdpjaaM
namespace Go.Proofs.Ytaichiodlbdpjaa
open Go.ChangeShapes Go.WideShapes Go.ChangeAt Go.RowKit Go.Deep
/-- A row of the call's own that reads as L; but for it all is as it was at w. -/
structure Oo (w wr : World) (A : Option Addr) (len c : Nat) (L : List Int) : Prop where
  ln : L.length = len
  but : But No w wr
  row : wr.ownsRow 0 3 1 (.slice A len c) len (L.map (Value.int .i64))
  new : ∀ k, (Value.slice A len c).ownBlock = some k → w.heap.size ≤ k
theorem Oo.no {w wr w2 : World} {A : Option Addr} {len c : Nat} {L : List Int} (h : Oo w wr A len c L) (hb : But No wr w2) : Oo w w2 A len c L :=
  ⟨h.ln, h.but.trans hb, owns_but (S := No) h.row hb (fun _ _ f => f), h.new⟩
theorem Oo.app {w wr w2 : World} {A A2 : Option Addr} {len c c2 : Nat} {L : List Int} {x : Int} (h : Oo w wr A len c L)
    (hown : w2.ownsRow 0 3 1 (.slice A2 (len + 1) c2) (len + 1) (L.map (Value.int .i64) ++ [.int .i64 x])) (hg : (wr.alloc (.cells #[.int .i64 x] 3)).grownBy w2 (Value.slice A len c).ownBlock)
    (hat : (Value.slice A2 (len + 1) c2).ownBlock = (Value.slice A len c).ownBlock ∨ (Value.slice A2 (len + 1) c2).ownBlock = some (wr.alloc (.cells #[.int .i64 x] 3)).heap.size) : Oo w w2 A2 (len + 1) c2 (L ++ [x]) := by
  refine ⟨by simp [h.ln], (h.but.alloc _).grown hg (fun k e => .inr (h.new k e)), by rw [List.map_append]; exact hown, own_new h.new hat ?_⟩
  have := h.but.size
  rw [size_alloc1]; omega
def OrderEnd (w : World) (L : List Int) (v : Value) (w' : World) : Prop := ∃ A len c, v = .slice A len c ∧ Oo w w' A len c L
theorem order_bad (n : Int) (v : Value) (w : World) (hn : n < 1 ∨ 8 < n) :
    Calls Try.prog 9 #[.int .i64 n, v] w fun r w' => r = .returned (.slice none 0 0) ∧ w = w' := by
  have CO := Lib.hid (fun W => isCount_any n W)
  rw [decide_eq_false (by omega)] at CO
  clear hn
  go_enter Try.func9, Try.ntmps9
  go_wp2_with (go_at_call 20; refine (CO.out _).mono ?_; rintro e w1 ⟨rfl, rfl⟩)
  go_ret
  exact ⟨rfl, rfl⟩
set_option maxHeartbeats 4000000 in
set_option maxRecDepth 100000 in
theorem order_ok (n : Nat) (A : Option Addr) (m c : Nat) (zs : List Int) (w : World) (hn : 1 ≤ n) (h8 : n ≤ 8) (hd : Rd w A m zs) :
    Calls Try.prog 9 #[.int .i64 n, .slice A m c] w fun r w' => ∃ v, r = .returned v ∧ OrderEnd w (ord n zs) v w' := by
  have CO := Lib.hid (fun W => isCount_any n W)
  rw [decide_eq_true (by omega)] at CO
  have HD := Lib.hid hd
  have CB : Hid (∀ (k : Nat) (W : World), k < 8 → Calls Try.prog 21 #[.int .i64 k] W fun r w' => r = .returned (.int .u64 ((2 ^ k : Nat) : Int)) ∧ W = w') := fun k W hk => bitOf_any k W hk
  obtain ⟨i0, hi0, hz0, hz1, hz2⟩ := info_parts info3
  have I0 : Hid (Try.prog.info? 3 = some i0 ∧ i0.zero = some (.int .i64 0) ∧ i0.size = 1 ∧ i0.bytes = 8) := ⟨hi0, hz0, hz1, hz2⟩
  have hmax := hd.max
  clear hi0 hz0 hz1 hz2 hd
  go_enter Try.func9, Try.ntmps9
  go_wp2_with (first
    | (go_at_call 20; refine (CO.out _).mono ?_; rintro e w1 ⟨rfl, rfl⟩)
    | (at_make; refine wpList_make_own _ rfl _ _ 22 rfl 0 3 i0 _ 1 Try.underlying22 I0.out.1 I0.out.2.1 I0.out.2.2.1 .i64 .i64 _ n rfl rfl rfl (by rw [I0.out.2.2.2]; omega) (by unfold maxLen; omega) (Nat.zero_le _) ?_; intro w0 hown0 hgrow0; have HO0 : Hid (Oo w w0 (some ⟨w.heap.size, 0, none⟩) 0 n []) := ⟨rfl, (But.refl No w).grown hgrow0 (fun k e => by cases e), hown0, fun k e => by cases e; exact Nat.le_refl _⟩; clear hown0 hgrow0))
  have HR0 : Hid (Mks 0 (ordL n [] (zs.take 0)) ∧ Oo w w0 (some ⟨w.heap.size, 0, none⟩) 0 n (ordL n [] (zs.take 0))) := ⟨Mks.nil, HO0.out⟩
  clear HO0
  go_loopw [5, 6, 17] (fun s5 s6 s17 wr => ∃ (A5 : Option Addr) (len c5 ms k : Nat), s5 = .slice A5 len c5 ∧ s6 = .int .u64 ms ∧ s17 = .int .i64 k ∧ k ≤ m ∧ Hid (Mks ms (ordL n [] (zs.take k)) ∧ Oo w wr A5 len c5 (ordL n [] (zs.take k)))) (fun _ _ s17 _ => m - (intOf s17).toNat)
  case atStart => exact ⟨_, 0, n, 0, 0, rfl, rfl, rfl, by omega, HR0⟩
  case round =>
    obtain ⟨A5, len, c5, ms, k, rfl, rfl, rfl, hk, hr⟩ := hrel
    clear HR0
    have HL8 : Hid (len ≤ 8) := by
      have := (Gd.fold (n := n) (zs.take k) (Gd.nil n)).len
      have := hr.out.2.ln
      show _ ≤ _; omega
    have hl8 := HL8.out
    by_cases hlt : k < m
    · have kn' : (k : Int) < (m : Int) := by omega
      obtain ⟨eb, eoff, rfl, hbl, hc⟩ := HD.out.at_ (by omega)
      replace hc := hc k hlt
      have hc2 : wr.cell? ⟨eb, eoff + k, none⟩ = some (.int .i64 (zs.getD k 0)) := by rw [hr.out.2.but.cell hbl (fun f => f)]; exact hc
      have HT : Hid (ordL n [] (zs.take (k + 1)) = stp n (ordL n [] (zs.take k)) (zs.getD k 0)) := ordL_take [] (by rw [HD.out.len]; exact hlt)
      clear hc hbl
      obtain ⟨L2, hL2⟩ : ∃ L2, ordL n [] (zs.take (k + 1)) = L2 := ⟨_, rfl⟩
      rw [hL2] at HT
      have HL2 := Lib.hid hL2
      clear hL2
      generalize ordL n [] (zs.take k) = L at HT hr
      generalize zs.getD k 0 = x at hc2 HT
      by_cases hx : 0 ≤ x ∧ x < n
      · obtain ⟨x0, x1⟩ := hx
        obtain ⟨y, rfl⟩ : ∃ y : Nat, x = y := ⟨x.toNat, by omega⟩
        have hy : y < 8 := by omega
        have b1 : decide ((y : Int) < 0) = false := by simp
        have b2 : decide ((n : Int) ≤ (y : Int)) = false := by simp; omega
        have HTE := Lib.hid (mark_test hr.out.1 hy)
        have HOR := Lib.hid (mark_or (k := y) hr.out.1.lt hy)
        have HMA := Lib.hid (fun h => hr.out.1.add (k := y) h)
        have CY := Lib.hid (fun W => CB.out y W hy)
        have HBL : Hid (2 ^ y < 256) := pow_lt hy
        have HNY : Hid (∀ P : Prop, (((0 : Int) ≤ (y : Int) ∧ (y : Int) < n ∧ P) ↔ P)) := fun P => ⟨fun h => h.2.2, fun h => ⟨x0, x1, h⟩⟩
        generalize (2 ^ y : Nat) = B at CY HTE HOR HMA HBL
        by_cases hin : (y : Int) ∈ L
        · have b3 : (bits .and .u64 (ms : Int) (B : Int) == 0) = false := by rw [HTE.out]; exact decide_eq_false (by simpa using hin)
          have b4 : (bits .and .u64 (ms : Int) (B : Int) != 0) = true := by simp only [bne, b3]; rfl
          have HE : Hid (L2 = L) := by rw [HT.out]; exact stp_out (fun h => h.2.2 hin)
          clear hin HTE HOR HMA HT HNY
          go_wp2_with (go_at_call 21; refine (CY.out _).mono ?_; rintro e w1 ⟨rfl, rfl⟩)
          go_roundw
          case rel => exact ⟨_, len, c5, ms, k + 1, rfl, rfl, by go_num, by omega, by rw [HL2.out, HE.out]; exact hr.out⟩
          case measure => simp [intOf]; omega
        · have b3 : (bits .and .u64 (ms : Int) (B : Int) == 0) = true := by rw [HTE.out]; exact decide_eq_true hin
          have b4 : (bits .and .u64 (ms : Int) (B : Int) != 0) = false := by simp only [bne, b3]; rfl
          have HE : Hid (L2 = L ++ [(y : Int)]) := by rw [HT.out]; exact stp_in ((HNY.out _).2 hin)
          have b5 : bits .or .u64 (ms : Int) (B : Int) = ((ms ||| B : Nat) : Int) := HOR.out
          have HM2 : Hid (Mks (ms ||| B) (L ++ [(y : Int)])) := HMA.out hy
          generalize ms ||| B = ms2 at b5 HM2
          have HOW : Hid ((wr.alloc (.cells #[.int .i64 (y : Int)] 3)).ownsRow 0 3 1 (.slice A5 len c5) len (L.map (Value.int .i64))) := (hr.out.2.no ((But.refl No wr).alloc _)).row
          clear hin HTE HOR HMA HT HNY
          go_wp2_with (first
            | (go_at_call 21; refine (CY.out _).mono ?_; rintro e w1 ⟨rfl, rfl⟩)
            | (at_builtin; refine wpList_append_sh _ rfl _ _ 22 rfl 3 i0 _ 1 8 Try.underlying22 I0.out.1 I0.out.2.1 I0.out.2.2.1 I0.out.2.2.2 rfl (by omega) (.slice A5 len c5) len _ rfl HOW.out (wr.heap.size + 1) (some ⟨wr.heap.size, 0, none⟩) 1 1 [.int .i64 (y : Int)] rfl (one_reads wr y) (one_cell y) (by unfold maxLen; omega) (by omega) ?_; intro A2 c2 w2 hown hgrow hat; have HO2 : Hid (Oo w w2 A2 (len + 1) c2 (L ++ [(y : Int)])) := (hr.out.2.app hown hgrow hat); clear hown hgrow hat))
          go_roundw
          case rel => exact ⟨_, len + 1, _, ms2, k + 1, rfl, rfl, by go_num, by omega, by rw [HL2.out, HE.out]; exact ⟨HM2.out, HO2.out⟩⟩
          case measure => simp [intOf]; omega
      · have HE : Hid (L2 = L) := by rw [HT.out]; exact stp_out (fun h => hx ⟨h.1, h.2.1⟩)
        clear HT
        by_cases x0 : x < 0
        · have b1 : decide (x < 0) = true := by simpa using x0
          go_wp2
          go_roundw
          case rel => exact ⟨_, len, c5, ms, k + 1, rfl, rfl, by go_num, by omega, by rw [HL2.out, HE.out]; exact hr.out⟩
          case measure => simp [intOf]; omega
        · have b1 : decide (x < 0) = false := by simpa using x0
          have b2 : decide ((n : Int) ≤ x) = true := by simp; omega
          go_wp2
          go_roundw
          case rel => exact ⟨_, len, c5, ms, k + 1, rfl, rfl, by go_num, by omega, by rw [HL2.out, HE.out]; exact hr.out⟩
          case measure => simp [intOf]; omega
    · have b1 : decide ((k : Int) < (m : Int)) = false := by simp; omega
      have HT : Hid (ordL n [] (zs.take k) = ordL n (ordL n [] zs) ((all n).take 0)) := by
        have : zs.take k = zs := List.take_of_length_le (by rw [HD.out.len]; omega)
        show _ = _; rw [this]; rfl
      have HN : Hid (ordL n (ordL n [] zs) ((all n).take n) = ord n zs) := by
        show _ = _
        rw [List.take_of_length_le (by rw [all_len]; exact Nat.le_refl _)]
        exact (ordL_append n [] zs (all n)).symm
      have HR1 : Hid (Mks ms (ordL n [] zs) ∧ Oo w wr A5 len c5 (ordL n (ordL n [] zs) ((all n).take 0))) := by
        have h1 := hr.out
        have : zs.take k = zs := List.take_of_length_le (by rw [HD.out.len]; omega)
        rw [this] at h1; exact h1
      have HG : Hid (Gd n (ordL n [] zs)) := Gd.fold _ (Gd.nil n)
      generalize ordL n [] zs = L0 at HN HR1 HG
      clear hr HT HL8 hl8
      go_wp2_with fail
      go_loopw [5, 45] (fun s5 s45 wr => ∃ (A5 : Option Addr) (len c5 k : Nat), s5 = .slice A5 len c5 ∧ s45 = .int .i64 k ∧ k ≤ n ∧ Hid (Mks ms L0 ∧ Oo w wr A5 len c5 (ordL n L0 ((all n).take k)))) (fun _ s45 _ => n - (intOf s45).toNat)
      case atStart => exact ⟨A5, len, c5, 0, rfl, rfl, by omega, HR1⟩
      case round =>
        obtain ⟨A6, ln2, c6, y, rfl, rfl, hy, hr⟩ := hrel
        clear HR1
        by_cases hyn : y < n
        · have kn' : (y : Int) < (n : Int) := by omega
          have hy8 : y < 8 := by omega
          have HT : Hid (ordL n L0 ((all n).take (y + 1)) = stp n (ordL n L0 ((all n).take y)) y) := all_get hyn L0
          have HI : Hid ((y : Int) ∈ ordL n L0 ((all n).take y) ↔ (y : Int) ∈ L0) := all_mem
          have hl8 : ln2 ≤ 8 := by
            have := (Gd.fold (n := n) ((all n).take y) HG.out).len
            have := hr.out.2.ln
            omega
          obtain ⟨L2, hL2⟩ : ∃ L2, ordL n L0 ((all n).take (y + 1)) = L2 := ⟨_, rfl⟩
          rw [hL2] at HT
          have HL2 := Lib.hid hL2
          clear hL2
          generalize ordL n L0 ((all n).take y) = L at HT HI hr
          have HTE := Lib.hid (mark_test hr.out.1 hy8)
          have CY := Lib.hid (fun W => CB.out y W hy8)
          generalize (2 ^ y : Nat) = B at CY HTE
          by_cases hin : (y : Int) ∈ L0
          · have b3 : (bits .and .u64 (ms : Int) (B : Int) == 0) = false := by rw [HTE.out]; exact decide_eq_false (by simpa using hin)
            have HE : Hid (L2 = L) := by rw [HT.out]; exact stp_out (fun h => h.2.2 (HI.out.2 hin))
            clear hin HTE HT HI
            go_wp2_with (go_at_call 21; refine (CY.out _).mono ?_; rintro e w1 ⟨rfl, rfl⟩)
            go_roundw
            case rel => exact ⟨_, ln2, c6, y + 1, rfl, by go_num, by omega, by rw [HL2.out, HE.out]; exact hr.out⟩
            case measure => simp [intOf]; omega
          · have b3 : (bits .and .u64 (ms : Int) (B : Int) == 0) = true := by rw [HTE.out]; exact decide_eq_true hin
            have HE : Hid (L2 = L ++ [(y : Int)]) := by rw [HT.out]; exact stp_in ⟨by omega, kn', fun h => hin (HI.out.1 h)⟩
            have HOW : Hid ((wr.alloc (.cells #[.int .i64 (y : Int)] 3)).ownsRow 0 3 1 (.slice A6 ln2 c6) ln2 (L.map (Value.int .i64))) := (hr.out.2.no ((But.refl No wr).alloc _)).row
            clear hin HTE HT HI
            go_wp2_with (first
              | (go_at_call 21; refine (CY.out _).mono ?_; rintro e w1 ⟨rfl, rfl⟩)
              | (at_builtin; refine wpList_append_sh _ rfl _ _ 22 rfl 3 i0 _ 1 8 Try.underlying22 I0.out.1 I0.out.2.1 I0.out.2.2.1 I0.out.2.2.2 rfl (by omega) (.slice A6 ln2 c6) ln2 _ rfl HOW.out (wr.heap.size + 1) (some ⟨wr.heap.size, 0, none⟩) 1 1 [.int .i64 (y : Int)] rfl (one_reads wr y) (one_cell y) (by unfold maxLen; omega) (by omega) ?_; intro A2 c2 w2 hown hgrow hat; have HO2 : Hid (Oo w w2 A2 (ln2 + 1) c2 (L ++ [(y : Int)])) := (hr.out.2.app hown hgrow hat); clear hown hgrow hat))
            go_roundw
            case rel => exact ⟨_, ln2 + 1, _, y + 1, rfl, by go_num, by omega, by rw [HL2.out, HE.out]; exact ⟨hr.out.1, HO2.out⟩⟩
            case measure => simp [intOf]; omega
        · have b2 : decide ((y : Int) < (n : Int)) = false := by simp; omega
          obtain rfl : y = n := by omega
          go_wp2
          go_ret
          exact ⟨_, rfl, A6, ln2, c6, rfl, by rw [← HN.out]; exact hr.out.2⟩
end Go.Proofs.Ytaichiodlbdpjaa
