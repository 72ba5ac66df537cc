/- Whatever the list is, each core steps once, and those of the list in its order: CoresEach returns true. (The walk.) -/
import Derived.Test.YtaichiodlbdpjaaR
namespace Go.Proofs.Ytaichiodlbdpjaa.coresEach
open Go.ChangeShapes Go.WideShapes Go.ChangeAt Go.RowKit Go.Deep
/-- The order's row, and the block of the places. -/
structure Ea (w wr : World) (g ba n : Nat) (L : List Int) (f : Nat → Int) : Prop where
  but : But No w wr
  row : ∀ j, j < n → wr.cell? ⟨g, j, none⟩ = some (.int .i64 (L.getD j 0))
  at_ : Vals wr ba 3 n (fun j => .int .i64 (f j))
  new : w.heap.size ≤ ba
  ne : g ≠ ba
theorem Ea.no {w wr w2 : World} {g ba n : Nat} {L : List Int} {f : Nat → Int} (h : Ea w wr g ba n L f) (hb : But No wr w2) : Ea w w2 g ba n L f :=
  ⟨h.but.trans hb, fun j hj => cell_keep (h.row j hj) hb, h.at_.but hb (fun x => x), h.new, h.ne⟩
theorem cell_other {wr : World} {g b o k : Nat} {v u : Value} (h : wr.cell? ⟨g, o, none⟩ = some v) (hb : g ≠ b) : (wr.setCell ⟨b, k, none⟩ u).cell? ⟨g, o, none⟩ = some v := by
  rw [World.cell?_setCell_other wr ⟨b, k, none⟩ ⟨g, o, none⟩ u (fun e => hb (by injection e with e1; exact e1.symm))]; exact h
theorem Ea.set {w wr : World} {g ba n : Nat} {L : List Int} {f f' : Nat → Int} (h : Ea w wr g ba n L f) (y : Nat) (v : Int) (hf : f' = fun j => if j = y then v else f j) : Ea w (wr.setCell ⟨ba, y, none⟩ (.int .i64 v)) g ba n L f' := by
  subst hf
  refine ⟨h.but.setNew (p := ⟨ba, y, none⟩) h.new _, fun j hj => cell_other (h.row j hj) h.ne, ?_, h.new, h.ne⟩
  refine (h.at_.set (k := y) (.int .i64 v)).congr (fun j _ => ?_)
  by_cases e : j = y
  · simp [e]
  · simp [e]
/-- The marks beside them. -/
structure Eb (w wr : World) (g ba bs n : Nat) (L : List Int) (f : Nat → Int) (L' : List Int) : Prop where
  ea : Ea w wr g ba n L f
  sn : Vals wr bs 4 n (seenV L')
  new : w.heap.size ≤ bs
  na : ba ≠ bs
  ng : g ≠ bs
theorem Eb.set {w wr : World} {g ba bs n : Nat} {L L' : List Int} {f : Nat → Int} (h : Eb w wr g ba bs n L f L') (y : Nat) : Eb w (wr.setCell ⟨bs, y, none⟩ (.bool true)) g ba bs n L f (L' ++ [(y : Int)]) :=
  ⟨⟨h.ea.but.setNew (p := ⟨bs, y, none⟩) h.new _, fun j hj => cell_other (h.ea.row j hj) h.ng, h.ea.at_.but (S := Just bs) (But.setCell (But.refl _ _) (p := ⟨bs, y, none⟩) (just bs) _) h.na, h.ea.new, h.ea.ne⟩,
    by rw [← seenV_add]; exact h.sn.set _, h.new, h.na, h.ng⟩
/-- So many places are told: f tells them, and -1 of the others. -/
def Pl (n : Nat) (L : List Int) (i : Nat) (f : Nat → Int) : Prop := ∀ y : Nat, y < n → (f y = -1 ∧ ∀ j, j < i → L.getD j 0 ≠ y) ∨ (∃ j, j < i ∧ L.getD j 0 = y ∧ f y = j)
theorem nodup_at {L : List Int} (h : L.Nodup) {i j : Nat} (hi : i < L.length) (hj : j < L.length) (e : L.getD i 0 = L.getD j 0) : i = j := by
  simp only [List.getD, List.getElem?_eq_getElem hi, List.getElem?_eq_getElem hj, Option.getD_some] at e
  exact (List.getElem_inj h).1 e
theorem Pl.zero (n : Nat) (L : List Int) : Pl n L 0 (fun _ => -1) := fun y _ => .inl ⟨rfl, fun j hj => absurd hj (by omega)⟩
theorem Pl.free {n i : Nat} {L : List Int} {f : Nat → Int} (h : Pl n L i f) (hL : L.Nodup) (hi : i < L.length) {y : Nat} (hy : y < n) (e : L.getD i 0 = y) : f y = -1 := by
  rcases h y hy with h | ⟨j, hj, h1, h2⟩
  · exact h.1
  · exact absurd (nodup_at hL (by omega) hi (h1.trans e.symm)) (by omega)
theorem Pl.next {n i : Nat} {L : List Int} {f : Nat → Int} (h : Pl n L i f) {y : Nat} (e : L.getD i 0 = y) : Pl n L (i + 1) (fun j => if j = y then (i : Int) else f j) := by
  intro x hx
  by_cases hxy : x = y
  · subst hxy
    exact .inr ⟨i, by omega, e, by simp⟩
  · simp only [if_neg hxy]
    rcases h x hx with ⟨h1, h2⟩ | ⟨j, hj, h1, h2⟩
    · refine .inl ⟨h1, fun j hj => ?_⟩
      by_cases hji : j = i
      · subst hji; rw [e]; omega
      · exact h2 j (by omega)
    · exact .inr ⟨j, by omega, h1, h2⟩
/-- Where a beginning ends, there is what comes behind it. -/
theorem Pl.at_ {n : Nat} {L L' r : List Int} {f : Nat → Int} (h : Pl n L n f) (hL : L.Nodup) (hn : L.length = n) {y : Nat} (hy : y < n) (e : L = (L' ++ [(y : Int)]) ++ r) : f y = L'.length := by
  have hlen : L'.length < L.length := by rw [e]; simp
  have hg : L.getD L'.length 0 = y := by rw [e]; simp [List.getD]
  rcases h y hy with ⟨_, h2⟩ | ⟨j, hj, h1, h2⟩
  · exact absurd hg (h2 _ (by omega))
  · rw [h2, nodup_at hL (by omega) hlen (h1.trans hg.symm)]
theorem pre1 {m : Nat} {zs L : List Int} (h : ordL m (ordL m [] zs) (all m) = L) (k : Nat) : ∃ r, L = ordL m [] (zs.take k) ++ r := by
  obtain ⟨r1, e1⟩ := ordL_pre m (all m) (ordL m [] zs)
  obtain ⟨r2, e2⟩ := ordL_pre m (zs.drop k) (ordL m [] (zs.take k))
  have e3 : ordL m [] zs = ordL m (ordL m [] (zs.take k)) (zs.drop k) := by rw [← ordL_append, List.take_append_drop]
  exact ⟨r2 ++ r1, by rw [← h, e1, e3, e2, List.append_assoc]⟩
theorem pre2 {m : Nat} {zs L : List Int} (h : ordL m (ordL m [] zs) (all m) = L) (k : Nat) : ∃ r, L = ordL m (ordL m [] zs) ((all m).take k) ++ r := by
  obtain ⟨r2, e2⟩ := ordL_pre m ((all m).drop k) (ordL m (ordL m [] zs) ((all m).take k))
  refine ⟨r2, ?_⟩
  rw [← e2, ← ordL_append, List.take_append_drop]; exact h.symm
set_option maxHeartbeats 16000000 in
set_option maxRecDepth 100000 in
theorem walk (a0 : Int) (_w0 : (Lit.int .i64 a0).wf = true) (A : Option Addr) (n c : Nat) (zs : List Int) (_hnc : n ≤ c) (w : World) (hd : Rd w A n zs) :
    Calls Try.prog 5 #[.int .i64 a0, .slice A n c] w fun e w' => e = .returned (.bool true) ∧ But No w w' := by
  have HD := Lib.hid hd
  have hmax := hd.max
  clear hd
  by_cases h : 1 ≤ a0 ∧ a0 ≤ 8
  · obtain ⟨m, rfl⟩ : ∃ m : Nat, a0 = m := ⟨a0.toNat, by omega⟩
    have h1 : 1 ≤ m := by omega
    have h8 : m ≤ 8 := by omega
    have b1 : decide ((m : Int) < 1) = false := by simp; omega
    have b2 : decide (8 < (m : Int)) = false := by simp; omega
    have HC : Hid (∀ w', But No w w' → Calls Try.prog 9 #[.int .i64 m, .slice A n c] w' fun r w'' => ∃ v, r = .returned v ∧ OrderEnd w' (ord m zs) v w'') := fun w' hb => order_ok m A n c zs w' h1 h8 (HD.out.no hb)
    have HLN : Hid ((ord m zs).length = m) := ord_len m zs
    have HND : Hid (ord m zs).Nodup := (ord_gd m zs).nd
    have HRG : Hid (∀ x ∈ ord m zs, 0 ≤ x ∧ x < m) := (ord_gd m zs).rng
    have HPL : Hid (ordL m (ordL m [] zs) (all m) = ord m zs) := (ordL_append m [] zs (all m)).symm
    generalize ord m zs = L at HC HLN HND HRG HPL
    obtain ⟨i0, hi0, hz0, hz1, hz2⟩ := info_parts info3
    have I0 : Hid (Try.prog.info? 3 = some i0 ∧ i0.zero = some (.int .i64 0) ∧ i0.size = 1 ∧ i0.bytes = 8) := ⟨hi0, hz0, hz1, hz2⟩
    clear hi0 hz0 hz1 hz2
    obtain ⟨i4, hi0, hz0, hz1, hz2⟩ := info_parts info4
    have I4 : Hid (Try.prog.info? 4 = some i4 ∧ i4.zero = some (.bool false) ∧ i4.size = 1 ∧ i4.bytes = 1) := ⟨hi0, hz0, hz1, hz2⟩
    clear hi0 hz0 hz1 hz2 h
    go_enter Try.func5, Try.ntmps5
    go_wp2_with (first
      | (go_at_call 8; refine (examples_any _).mono ?_; rintro e w1 ⟨rfl, hb⟩; have HB := Lib.hid hb; clear hb)
      | (go_at_call 9; (with_reducible refine (HC.out _ HB.out).mono ?_); rintro e w2 ⟨v, rfl, A2, k, c2, rfl, ho⟩; obtain rfl : m = k := HLN.out.symm.trans ho.ln; have HO := Lib.hid ho; have HB2 := Lib.hid (HB.out.trans ho.but); clear ho)
      | (at_make; refine wpList_make_full _ rfl _ _ 22 rfl 0 3 i0 _ 1 Try.underlying22 I0.out.1 I0.out.2.1 I0.out.2.2.1 .i64 .i64 _ _ m rfl rfl (by omega) (by omega) (by rw [I0.out.2.2.2]; omega) (by unfold maxLen; omega) (Nat.zero_le _) ?_; intro w3 hown hgrow; have HB3 : Hid (But No w2 w3) := ((But.refl No w2).grown hgrow (fun k e => by cases e)); have HV3 : Hid (Vals w3 w2.heap.size 3 m (fun _ => .int .i64 0)) := vals_made1 rfl hown; clear hown hgrow))
    obtain ⟨g, hA2, _⟩ := HO.out.cell (k := 0) (by omega)
    subst hA2
    have hg : g < w2.heap.size := World.block_lt_of_cell? w2 _ (HO.out.cell' (k := 0) (by omega))
    have HE3 : Hid (Ea w w3 g w2.heap.size m L (fun j => if j < 0 then -1 else 0)) := ⟨HB2.out.trans HB3.out, fun j hj => cell_keep (HO.out.cell' hj) HB3.out, HV3.out, HB2.out.size, Nat.ne_of_lt hg⟩
    clear HO HB HB2 HB3 HV3 HC
    generalize w2.heap.size = ba at HE3 ⊢
    clear hg
    go_loopw [8] (fun s wr => ∃ k : Nat, s = .int .i64 k ∧ k ≤ m ∧ Hid (Ea w wr g ba m L (fun j => if j < k then -1 else 0))) (fun s _ => m - (intOf s).toNat)
    case atStart => exact ⟨0, rfl, by omega, HE3⟩
    case round =>
      obtain ⟨k, rfl, hk, he⟩ := hrel
      clear HE3
      by_cases hlt : k < m
      · have kn' : (k : Int) < (m : Int) := by omega
        have fz : wr.frozen? ⟨ba, k, none⟩ = false := he.out.at_.frozen k
        have c1 := he.out.at_.cell hlt
        go_wp2
        go_roundw
        case rel =>
          refine ⟨k + 1, by go_num, by omega, he.out.set k (-1) ?_⟩
          funext j
          by_cases e : j = k
          · subst e; simp
          · by_cases e2 : j < k
            · simp [e, e2, show j < k + 1 by omega]
            · simp [e, e2, show ¬ j < k + 1 by omega]
        case measure => simp [intOf]; omega
      · have b3 : decide ((k : Int) < (m : Int)) = false := by simp; omega
        have HE : Hid (∃ f, Ea w wr g ba m L f ∧ Pl m L 0 f) := ⟨fun _ => -1, ⟨he.out.but, he.out.row, he.out.at_.congr (fun j hj => by simp [show j < k by omega]), he.out.new, he.out.ne⟩, Pl.zero m L⟩
        clear he
        go_wp2_with fail
        go_loopw [9] (fun s wr => ∃ k : Nat, s = .int .i64 k ∧ k ≤ m ∧ Hid (∃ f, Ea w wr g ba m L f ∧ Pl m L k f)) (fun s _ => m - (intOf s).toNat)
        case atStart => exact ⟨0, rfl, by omega, HE⟩
        case round =>
          obtain ⟨i, rfl, hi, he⟩ := hrel
          clear HE b3 hlt hk
          obtain ⟨f, hea, hpl⟩ := he.out
          have HA := Lib.hid hea
          have HP := Lib.hid hpl
          clear hea hpl he
          by_cases hlt : i < m
          · have kn' : (i : Int) < (m : Int) := by omega
            have c1 := HA.out.row i hlt
            have HX : Hid (0 ≤ L.getD i 0 ∧ L.getD i 0 < m) := HRG.out _ (by
              have hl : i < L.length := by rw [HLN.out]; exact hlt
              simp only [List.getD, List.getElem?_eq_getElem hl, Option.getD_some]; exact List.getElem_mem hl)
            obtain ⟨y, hy⟩ : ∃ y : Nat, L.getD i 0 = y := ⟨(L.getD i 0).toNat, by have := HX.out.1; omega⟩
            have HY : Hid (L.getD i 0 = y) := hy
            have HY2 : Hid (y < m) := by show _ < _; have := HX.out.2; rw [hy] at this; omega
            have ym : (y : Int) < (m : Int) := by have := HY2.out; omega
            have b5 : decide ((y : Int) < 0) = false := by simp
            have b6 : decide ((m : Int) ≤ (y : Int)) = false := by simp; omega
            rw [hy] at c1
            have c2 := HA.out.at_.cell HY2.out
            have fz : wr.frozen? ⟨ba, y, none⟩ = false := HA.out.at_.frozen y
            simp only [HP.out.free HND.out (by rw [HLN.out]; exact hlt) HY2.out hy] at c2
            clear hy HX
            go_wp2
            go_roundw
            case rel => exact ⟨i + 1, by go_num, by omega, _, HA.out.set y i rfl, HP.out.next HY.out⟩
            case measure => simp [intOf]; omega
          · have b3 : decide ((i : Int) < (m : Int)) = false := by simp; omega
            obtain rfl : m = i := by omega
            clear hlt hi
            go_wp2_with (at_make; refine wpList_make_full _ rfl _ _ 39 rfl 0 4 i4 _ 1 Try.underlying39 I4.out.1 I4.out.2.1 I4.out.2.2.1 .i64 .i64 _ _ m rfl rfl (by omega) (by omega) (by rw [I4.out.2.2.2]; omega) (by unfold maxLen; omega) (Nat.zero_le _) ?_; intro w4 hown hgrow; have HB4 : Hid (But No wr w4) := ((But.refl No wr).grown hgrow (fun k e => by cases e)); have HV4 : Hid (Vals w4 wr.heap.size 4 m (seenV [])) := (by rw [seenV_nil]; exact vals_made1 rfl hown); clear hown hgrow)
            have HS : Hid (Eb w w4 g ba wr.heap.size m L f (ordL m [] (zs.take 0))) := ⟨HA.out.no HB4.out, HV4.out, HA.out.but.size, Nat.ne_of_lt HA.out.at_.lt, Nat.ne_of_lt (World.block_lt_of_cell? wr _ (HA.out.row 0 (by omega)))⟩
            generalize wr.heap.size = bs at HS ⊢
            clear HA HB4 HV4
            have HQ : Hid (∀ k y : Nat, y < m → (∃ r, L = (ordL m [] (zs.take k) ++ [(y : Int)]) ++ r) → f y = (ordL m [] (zs.take k)).length) := fun k y hy ⟨r, e⟩ => HP.out.at_ HND.out HLN.out hy e
            have HLE : Hid (∀ k, (ordL m [] (zs.take k)).length ≤ 8) := fun k => Nat.le_trans (Gd.fold (n := m) _ (Gd.nil m)).len h8
            go_loopw [11, 12] (fun s11 s12 wr => ∃ (t : Int) (k ln : Nat), s11 = .int .i64 t ∧ s12 = .int .i64 k ∧ k ≤ n ∧ t + 1 = (ln : Int) ∧ ln ≤ 8 ∧ Hid (ln = (ordL m [] (zs.take k)).length) ∧ Hid (Eb w wr g ba bs m L f (ordL m [] (zs.take k)))) (fun _ s12 _ => n - (intOf s12).toNat)
            case atStart => exact ⟨-1, 0, 0, rfl, rfl, by omega, by omega, by omega, rfl, HS⟩
            case round =>
              obtain ⟨t, k, ln, rfl, rfl, hk, htl, hl8, hln, hs⟩ := hrel
              clear HS
              by_cases hlt : k < n
              · have kn' : (k : Int) < (n : Int) := by omega
                obtain ⟨eb, eoff, rfl, hbl, hc⟩ := HD.out.at_ (by omega)
                replace hc := hc k hlt
                have hc2 : wr.cell? ⟨eb, eoff + k, none⟩ = some (.int .i64 (zs.getD k 0)) := by rw [hs.out.ea.but.cell hbl (fun f => f)]; exact hc
                have HT : Hid (ordL m [] (zs.take (k + 1)) = stp m (ordL m [] (zs.take k)) (zs.getD k 0)) := ordL_take [] (by rw [HD.out.len]; exact hlt)
                have HPR : Hid (∃ r, L = ordL m [] (zs.take (k + 1)) ++ r) := pre1 HPL.out (k + 1)
                have HQK := Lib.hid (HQ.out k)
                have HLK := Lib.hid (HLE.out (k + 1))
                obtain ⟨L2, hL2⟩ : ∃ L2, ordL m [] (zs.take (k + 1)) = L2 := ⟨_, rfl⟩
                rw [hL2] at HT HPR HLK
                have HL2 := Lib.hid hL2
                clear hL2 hc hbl
                generalize ordL m [] (zs.take k) = L1 at HT hs hln HQK
                generalize zs.getD k 0 = x at hc2 HT
                by_cases x0 : 0 ≤ x
                · obtain ⟨y, rfl⟩ : ∃ y : Nat, x = y := ⟨x.toNat, by omega⟩
                  have b5 : decide ((y : Int) < 0) = false := by simp
                  by_cases hy : y < m
                  · have b6 : decide ((m : Int) ≤ (y : Int)) = false := by simp; omega
                    have ym : (y : Int) < (m : Int) := by omega
                    have c3 := hs.out.sn.cell hy
                    by_cases hin : (y : Int) ∈ L1
                    · have HE : Hid (L2 = L1) := by rw [HT.out]; exact stp_out (fun h => h.2.2 hin)
                      rw [seenV, decide_eq_true hin] at c3
                      clear hin HT
                      go_wp2
                      go_roundw
                      case rel => exact ⟨t, k + 1, ln, rfl, by go_num, by omega, htl, hl8, by rw [HL2.out, HE.out]; exact hln.out, by rw [HL2.out, HE.out]; exact hs.out⟩
                      case measure => simp [intOf]; omega
                    · have HE : Hid (L2 = L1 ++ [(y : Int)]) := by rw [HT.out]; exact stp_in ⟨by omega, ym, hin⟩
                      rw [seenV, decide_eq_false hin] at c3
                      have hf : f y = (ln : Int) := by rw [hln.out]; exact HQK.out y hy (by rw [← HE.out]; exact HPR.out)
                      have c4 := hs.out.ea.at_.cell hy
                      have fz : wr.frozen? ⟨bs, y, none⟩ = false := hs.out.sn.frozen y
                      have nab : ba ≠ bs := hs.out.na
                      have hl9 : ln + 1 ≤ 8 := by have h1 := HLK.out; rw [HE.out, List.length_append, ← hln.out] at h1; exact h1
                      simp only [hf] at c4
                      have b7 : ((ln : Int) != (ln : Int)) = false := by simp
                      clear hin HT hf
                      go_wp2
                      go_roundw
                      case rel => exact ⟨(ln : Int), k + 1, ln + 1, rfl, by go_num, by omega, by omega, hl9, by rw [HL2.out, HE.out, List.length_append, ← hln.out]; rfl, by rw [HL2.out, HE.out]; exact hs.out.set y⟩
                      case measure => simp [intOf]; omega
                  · have b6 : decide ((m : Int) ≤ (y : Int)) = true := by simp; omega
                    have HE : Hid (L2 = L1) := by rw [HT.out]; exact stp_out (fun h => hy (by omega))
                    clear HT
                    go_wp2
                    go_roundw
                    case rel => exact ⟨t, k + 1, ln, rfl, by go_num, by omega, htl, hl8, by rw [HL2.out, HE.out]; exact hln.out, by rw [HL2.out, HE.out]; exact hs.out⟩
                    case measure => simp [intOf]; omega
                · have b5 : decide (x < 0) = true := by simp; omega
                  have HE : Hid (L2 = L1) := by rw [HT.out]; exact stp_out (fun h => x0 h.1)
                  clear HT
                  go_wp2
                  go_roundw
                  case rel => exact ⟨t, k + 1, ln, rfl, by go_num, by omega, htl, hl8, by rw [HL2.out, HE.out]; exact hln.out, by rw [HL2.out, HE.out]; exact hs.out⟩
                  case measure => simp [intOf]; omega
              · have b5 : decide ((k : Int) < (n : Int)) = false := by simp; omega
                have e0 : zs.take k = zs := List.take_of_length_le (by rw [HD.out.len]; omega)
                rw [e0] at hln hs
                have HS2 : Hid (Eb w wr g ba bs m L f (ordL m [] zs) ∧ ln = (ordL m (ordL m [] zs) ((all m).take 0)).length) := ⟨hs.out, hln.out⟩
                have HPR : Hid (∀ j, ∃ r, L = ordL m (ordL m [] zs) ((all m).take j) ++ r) := pre2 HPL.out
                have HG : Hid (Gd m (ordL m [] zs)) := Gd.fold _ (Gd.nil m)
                clear e0 hln hs HQ HLE
                generalize ordL m [] zs = L0 at HS2 HPR HG
                have HLE : Hid (∀ k, (ordL m L0 ((all m).take k)).length ≤ 8) := fun k => Nat.le_trans (Gd.fold (n := m) _ HG.out).len h8
                go_wp2_with fail
                go_loopw [11, 14] (fun s11 s14 wr => ∃ (t : Int) (j ln : Nat), s11 = .int .i64 t ∧ s14 = .int .i64 j ∧ j ≤ m ∧ t + 1 = (ln : Int) ∧ ln ≤ 8 ∧ Hid (Eb w wr g ba bs m L f L0 ∧ ln = (ordL m L0 ((all m).take j)).length)) (fun _ s14 _ => m - (intOf s14).toNat)
                case atStart => exact ⟨t, 0, ln, rfl, rfl, by omega, htl, hl8, HS2⟩
                case round =>
                  obtain ⟨t2, j, ln2, rfl, rfl, hj, htl2, hl82, hs⟩ := hrel
                  clear HS2
                  by_cases hjm : j < m
                  · have kj' : (j : Int) < (m : Int) := by omega
                    have HT : Hid (ordL m L0 ((all m).take (j + 1)) = stp m (ordL m L0 ((all m).take j)) j) := all_get hjm L0
                    have HI : Hid ((j : Int) ∈ ordL m L0 ((all m).take j) ↔ (j : Int) ∈ L0) := all_mem
                    have HPJ := Lib.hid (HPR.out (j + 1))
                    have HLK := Lib.hid (HLE.out (j + 1))
                    obtain ⟨L2, hL2⟩ : ∃ L2, ordL m L0 ((all m).take (j + 1)) = L2 := ⟨_, rfl⟩
                    rw [hL2] at HT HPJ HLK
                    have HL2 := Lib.hid hL2
                    clear hL2
                    generalize ordL m L0 ((all m).take j) = L1 at HT hs HI
                    have c3 := hs.out.1.sn.cell hjm
                    by_cases hin : (j : Int) ∈ L0
                    · have HE : Hid (L2 = L1) := by rw [HT.out]; exact stp_out (fun h => h.2.2 (HI.out.2 hin))
                      rw [seenV, decide_eq_true hin] at c3
                      clear hin HT HI
                      go_wp2
                      go_roundw
                      case rel => exact ⟨t2, j + 1, ln2, rfl, by go_num, by omega, htl2, hl82, by rw [HL2.out, HE.out]; exact hs.out⟩
                      case measure => simp [intOf]; omega
                    · have HE : Hid (L2 = L1 ++ [(j : Int)]) := by rw [HT.out]; exact stp_in ⟨by omega, kj', fun h => hin (HI.out.1 h)⟩
                      rw [seenV, decide_eq_false hin] at c3
                      have hf : f j = (ln2 : Int) := by
                        rw [hs.out.2]
                        obtain ⟨r, e⟩ := HPJ.out
                        exact HP.out.at_ HND.out HLN.out hjm (by rw [← HE.out]; exact e)
                      have c4 := hs.out.1.ea.at_.cell hjm
                      have hl9 : ln2 + 1 ≤ 8 := by have h1 := HLK.out; rw [HE.out, List.length_append, ← hs.out.2] at h1; exact h1
                      simp only [hf] at c4
                      have b7 : ((ln2 : Int) != (ln2 : Int)) = false := by simp
                      clear hin HT HI hf
                      go_wp2
                      go_roundw
                      case rel => exact ⟨(ln2 : Int), j + 1, ln2 + 1, rfl, by go_num, by omega, by omega, hl9, hs.out.1, by rw [HL2.out, HE.out, List.length_append, ← hs.out.2]; rfl⟩
                      case measure => simp [intOf]; omega
                  · have b6 : decide ((j : Int) < (m : Int)) = false := by simp; omega
                    go_wp2
                    go_ret
                    exact ⟨rfl, hs.out.1.ea.but⟩
  · have HC : Hid (∀ w', Calls Try.prog 9 #[.int .i64 a0, .slice A n c] w' fun r w'' => r = .returned (.slice none 0 0) ∧ w' = w'') := fun w' => order_bad a0 _ w' (by omega)
    by_cases h1 : a0 < 1
    · have b1 : decide (a0 < 1) = true := by simpa using h1
      clear HD h
      go_enter Try.func5, Try.ntmps5
      go_wp2_with (first
        | (go_at_call 8; refine (examples_any _).mono ?_; rintro e w1 ⟨rfl, hb⟩; have HB := Lib.hid hb; clear hb)
        | (go_at_call 9; (with_reducible refine (HC.out _).mono ?_); rintro e w2 ⟨rfl, rfl⟩))
      go_ret
      exact ⟨rfl, HB.out⟩
    · have b1 : decide (a0 < 1) = false := by simpa using h1
      have b2 : decide (8 < a0) = true := by simp; omega
      clear HD h
      go_enter Try.func5, Try.ntmps5
      go_wp2_with (first
        | (go_at_call 8; refine (examples_any _).mono ?_; rintro e w1 ⟨rfl, hb⟩; have HB := Lib.hid hb; clear hb)
        | (go_at_call 9; (with_reducible refine (HC.out _).mono ?_); rintro e w2 ⟨rfl, rfl⟩))
      go_ret
      exact ⟨rfl, HB.out⟩
end Go.Proofs.Ytaichiodlbdpjaa.coresEach
