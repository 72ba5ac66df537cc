/- The walk of DemandLess. -/
import Derived.Test.YtfpcnilcbaiojaaDemandRisesW
import Derived.Test.YtfpcnilcbaiojaaDeO
namespace Go.Proofs.Ytfpcnilcbaiojaa
open Go.ChangeShapes Go.WideShapes Go.ChangeAt Go.RowKit Go.Deep dem
namespace demandLess
open demandRises
set_option maxRecDepth 100000 in
theorem fine_any (e : Int) (h : e = 0 ∨ e = 11) (w : World) : Calls Try.prog 18 #[.int .i64 e] w fun r w' => r = .returned (.bool true) ∧ w' = w := by
  rcases h with rfl | rfl
  · go_enter Try.func18, Try.ntmps18
    go_wp2
    go_ret
    exact ⟨rfl, rfl⟩
  · go_enter Try.func18, Try.ntmps18
    go_wp2
    go_ret
    exact ⟨rfl, rfl⟩
set_option maxRecDepth 100000 in
set_option maxHeartbeats 8000000 in
theorem walk (A : Option Addr) (n c : Nat) (l : List Wk) (hnc : n ≤ c) (hk : n * 32 ≤ 140737488351232) (bl : Int) (hb : (Lit.int .i64 bl).wf = true) (rl : Int) (hr : (Lit.int .i64 rl).wf = true) (which : Int) (hw : (Lit.int .i64 which).wf = true) (less : Int) (hs : (Lit.int .i64 less).wf = true) (w : World) (h : RWk w A n l) :
    Calls Try.prog 6 #[.slice A n c, .int .i64 bl, .int .i64 rl, .int .i64 which, .int .i64 less] w fun e w' => e = .returned (.bool true) ∧ But No w w' := by
  have HN := Lib.hid h.len
  have HL := Lib.hid h
  have CX : Hid (∀ W, Calls Try.prog 10 #[] W fun e w' => e = .returned (.bool true) ∧ But No W w') := examples_ok
  have CT : Hid (∀ W, But No w W → Calls Try.prog 16 #[.slice A n c, .int .i64 bl, .int .i64 rl] W fun e w' => e = .returned (.int .i64 (testV l bl rl)) ∧ But No W w') := fun W hh => test_any A n c l bl rl W (h.no hh) (inR_of hb) (inR_of hr)
  have HB := Lib.hid (And.intro (inR_of hb) (inR_of hr))
  have CT2 : Hid (∀ A' n' c' l' bl' W, RWk W A' n' l' → inR bl' → Calls Try.prog 16 #[.slice A' n' c', .int .i64 bl', .int .i64 rl] W fun e w' => e = .returned (.int .i64 (testV l' bl' rl)) ∧ But No W w') := Lib.hid (fun A' n' c' l' bl' W h' hb' => test_any A' n' c' l' bl' rl W h' hb' HB.out.2)
  have CF : Hid (∀ e W, e = 0 ∨ e = 11 → Calls Try.prog 18 #[.int .i64 e] W fun r w' => r = .returned (.bool true) ∧ w' = W) := Lib.hid (fun e W h => fine_any e h W)
  have hwr := inR_of hw
  have hsr := inR_of hs
  unfold inR at hwr hsr
  clear hb hr hw hs h
  by_cases htest : testV l bl rl = 0
  · have HT := Lib.hid htest
    have HRT := Lib.hid (test_ok htest).1
    rw [htest] at CT
    clear htest
    rcases (show n = 0 ∨ 0 < n by omega) with hn0 | hn0
    · subst hn0
      go_enter Try.func6, Try.ntmps6
      go_wp2_with (first | (go_at_call 10; (with_reducible refine (CX.out _).mono ?_); rintro e w0 ⟨rfl, h1⟩; have H1 := Lib.hid h1; clear h1) | (go_at_call 16; (with_reducible refine (CT.out _ H1.out).mono ?_); rintro e w1 ⟨rfl, h2⟩; have H2 := Lib.hid (H1.out.trans h2); clear h2))
      go_ret
      exact ⟨rfl, H2.out⟩
    · have hn72 : n ≤ 72 := by have := (right_iff.1 HRT.out).1; have := HN.out; omega
      obtain ⟨hbl0, hbl1⟩ := (right_iff.1 HRT.out).2.1
      have HWW := Lib.hid (ab_bd hwr)
      have HSS := Lib.hid (ab_bd hsr)
      have bn0 : ((n : Int) == 0) = false := by simp; omega
      have hn0i : (n : Int) ≠ 0 := by omega
      obtain ⟨i0, hi0, hz0, hz1, hz2⟩ := info_parts infoD
      have I0 : Hid (Try.prog.info? 38 = some i0 ∧ i0.zero = some (.agg #[.int .i64 0, .int .i64 0, .int .i64 0, .bool false]) ∧ i0.size = 4 ∧ i0.bytes = 32) := ⟨hi0, hz0, hz1, hz2⟩
      clear hi0 hz0 hz1 hz2
      go_enter Try.func6, Try.ntmps6
      go_upto_if 33 with (first | (go_at_call 10; (with_reducible refine (CX.out _).mono ?_); rintro e w0 ⟨rfl, h1⟩; have H1 := Lib.hid h1; clear h1) | (go_at_call 16; (with_reducible refine (CT.out _ H1.out).mono ?_); rintro e w1 ⟨rfl, h2⟩; have H2 := Lib.hid (H1.out.trans h2); clear h2))
      go_cut [3] (fun u wx => u = .int .i64 (ab which) ∧ Hid (wx = w1))
      case first =>
        by_cases hs : which < 0
        · have HS := Lib.hid (ab_neg hs)
          go_wp2
          all_goals (go_meet; exact ⟨by rw [HS.out], rfl⟩)
        · have HS := Lib.hid (ab_pos hs)
          go_wp2
          all_goals (go_meet; exact ⟨by rw [← HS.out], rfl⟩)
      case rest =>
      obtain ⟨rfl, HWX⟩ := hcut
      rw [HWX.out]
      clear HWX
      go_upto_if 38 with fail
      go_cut [4] (fun u wx => u = .int .i64 (ab less) ∧ Hid (wx = w1))
      case first =>
        by_cases hs : less < 0
        · have HS := Lib.hid (ab_neg hs)
          go_wp2
          all_goals (go_meet; exact ⟨by rw [HS.out], rfl⟩)
        · have HS := Lib.hid (ab_pos hs)
          go_wp2
          all_goals (go_meet; exact ⟨by rw [← HS.out], rfl⟩)
      case rest =>
      obtain ⟨rfl, HWX⟩ := hcut
      rw [HWX.out]
      clear HWX
      obtain ⟨hM0, hM1⟩ := HWW.out
      obtain ⟨hT0, hT1⟩ := HSS.out
      generalize ab which = M at hM0 hM1 ⊢
      generalize ab less = T at hT0 hT1 ⊢
      clear HWW HSS hwr hsr
      have e1 : M.tmod (n : Int) = M % (n : Int) := Int.tmod_eq_emod_of_nonneg hM0
      have e2 := Int.emod_nonneg M hn0i
      have e3 := Int.emod_lt_of_pos M (show 0 < (n : Int) by omega)
      obtain ⟨i, hi⟩ : ∃ i : Nat, M % (n : Int) = (i : Int) := ⟨(M % (n : Int)).toNat, by omega⟩
      rw [hi] at e1 e2 e3
      clear hi
      have hin : i < n := by omega
      have HL1 := Lib.hid (HL.out.no H2.out)
      obtain ⟨x, hx⟩ : ∃ x, l[i]? = some x := ⟨_, List.getElem?_eq_getElem (by rw [HN.out]; exact hin)⟩
      obtain ⟨b, off, rfl, hbl9, g0, g1, g2, g3⟩ := HL1.out.at1 hx
      have HX := Lib.hid hx
      obtain ⟨⟨hw0, hw1⟩, ⟨hp0, hp1⟩, hd0, hd1⟩ := okW_iff.1 ((right_iff.1 HRT.out).2.2.2 x (List.mem_of_getElem? hx))
      clear hx hbl9 g1 g2 g3
      obtain ⟨x0, x1, x2, x3⟩ := x
      dsimp only at g0 hw0 hw1 hp0 hp1 hd0 hd1
      have b1 : decide (x0 < 0) = false := by simp; omega
      have b2 : decide (bl < 0) = false := by simp; omega
      go_upto_region 11 with fail
      clear g0 e1
      obtain ⟨i1, hi1⟩ : ∃ i1, i + 1 = i1 := ⟨_, rfl⟩
      obtain ⟨A2, hA2⟩ : ∃ A2, (if c = i1 then some (⟨b, off, none⟩ : Addr) else some ⟨b, off + i1 * 4, none⟩) = A2 := ⟨_, rfl⟩
      have hi1n : i1 ≤ n := by omega
      have R1 : Hid (∀ W, But No w1 W → Reads W W.heap.size 4 (some ⟨b, off, none⟩) i ((l.take i).flatMap wkC)) := Lib.hid (fun W hh => ((HL1.out.no hh).take (by omega)).reads)
      have R2 : Hid (∀ W, But No w1 W → Reads W W.heap.size 4 A2 (n - i1) ((l.drop i1).flatMap wkC)) := Lib.hid (fun W hh => by
        rw [← hA2]
        by_cases hc : c = i1
        · rw [if_pos hc, show n - i1 = 0 by omega, List.drop_eq_nil_of_le (by rw [HN.out]; omega)]
          exact ⟨rfl, fun h => absurd h (by omega)⟩
        · rw [if_neg hc]
          exact ((HL1.out.no hh).drop hi1n).reads)
      have O1 := Lib.hid (all_cells (l.take i))
      have O2 := Lib.hid (all_cells (l.drop i1))
      have OC := Lib.hid (all_cells l)
      have y1 : IntKind.i64.wrap ((i : Int) + 1) = (i1 : Int) := by rw [IntKind.wrap_i64]; omega
      have y2 : IntKind.i64.wrap (i1 : Int) = (i1 : Int) := by rw [IntKind.wrap_i64]; omega
      have HI1 := Lib.hid hi1
      have z1 : (i : Int) ≤ (c : Int) := by omega
      have z2 : (i1 : Int) ≤ (n : Int) := by omega
      have z3 : (n : Int) ≤ (c : Int) := by omega
      clear hi1
      go_region_held3 (fun w' => But No w1 w')
        (first | exact (But.refl No w1).drew | exact HB5.out | exact HB6.out)
        (first | (refine step_append_sh rfl _ _ 22 rfl 38 i0 _ 4 32 Try.underlying22 I0.out.1 I0.out.2.1 I0.out.2.2.1 I0.out.2.2.2 rfl (by omega) (.slice none 0 0) 0 [] (by simp [Act.eval]) (World.ownsRow_nil _ _ _ _) w1.drew.heap.size (some ⟨b, off, none⟩) i c ((l.take i).flatMap wkC) (by simp [Act.eval]) (R1.out _ (But.refl No w1).drew) O1.out (by unfold maxLen; omega) (by omega) ?_; intro A5 c5 w5 hown5 hgrow5 hat5; have HB5 : Hid (But No w1 w5) := ((But.refl No w1).drew).grown hgrow5.out (fun k e => by simp [Value.ownBlock] at e)) | (refine step_append_sh rfl _ _ 22 rfl 38 i0 _ 4 32 Try.underlying22 I0.out.1 I0.out.2.1 I0.out.2.2.1 I0.out.2.2.2 rfl (by omega) (.slice A5 (0 + i) c5) (0 + i) _ (by simp [Act.eval]) hown5.out w5.heap.size A2 (n - i1) (c - i1) ((l.drop i1).flatMap wkC) (by simp [Act.eval]) (R2.out _ HB5.out) O2.out (by unfold maxLen; omega) (by omega) ?_; intro A6 c6 w6 hown6 hgrow6 hat6; have HB6 : Hid (But No w1 w6) := HB5.out.grown hgrow6.out (fun j e => .inr (own_new own_none hat5.out (Nat.le_refl _) j e))))
      rename_i hHeld
      clear hHeld
      have HRR : Hid (RWk w6 A6 (i + (n - i1)) (l.take i ++ l.drop i1)) := Lib.hid (by
        have hll : (l.take i ++ l.drop i1).length = 0 + i + (n - i1) := by rw [List.length_append, List.length_take, List.length_drop, HN.out]; omega
        have ho : OWk w6 38 (.slice A6 (0 + i + (n - i1)) c6) (l.take i ++ l.drop i1) := by
          unfold OWk
          rw [hll, List.flatMap_append]
          simpa using hown6.out
        obtain ⟨A', c', hv, hr⟩ := ho.rd (by rw [hll]; omega) (fun z hz => HL1.out.fit z (by
          rcases List.mem_append.1 hz with hz | hz
          · exact List.mem_of_mem_take hz
          · exact List.mem_of_mem_drop hz))
        rw [hll] at hv hr
        cases hv
        rwa [show 0 + i + (n - i1) = i + (n - i1) by omega] at hr)
      clear hown5 hgrow5 hat5 hown6 hgrow6 hat6 R1 R2 O1 O2 y1 y2 z1 z2 hA2
      have RD6 := Lib.hid (HL1.out.no HB6.out).reads
      obtain ⟨v, hv⟩ : ∃ v, T % (x0 + 1) = v := ⟨_, rfl⟩
      have hv0 : 0 ≤ v := by rw [← hv]; exact Int.emod_nonneg _ (by omega)
      have hv1 : v ≤ x0 := by have := Int.emod_lt_of_pos T (show 0 < x0 + 1 by omega); omega
      have e5 : T.tmod (x0 + 1) = v := by rw [Int.tmod_eq_emod_of_nonneg hT0]; exact hv
      have hx1 : x0 + 1 ≠ 0 := by omega
      clear hv
      go_upto_region 14 with (at_builtin; refine wpList_append_sh _ rfl _ _ 22 rfl 38 i0 _ 4 32 Try.underlying22 I0.out.1 I0.out.2.1 I0.out.2.2.1 I0.out.2.2.2 rfl (by omega) (.slice none 0 0) 0 [] rfl (World.ownsRow_nil _ _ _ _) w6.heap.size (some ⟨b, off, none⟩) n c (l.flatMap wkC) rfl RD6.out OC.out (by unfold maxLen; omega) (by omega) ?_; intro A9 c9 w7 hown9 hgrow9 hat9; simp only [Nat.zero_add, List.nil_append] at hown9 hat9 ⊢; obtain ⟨rfl, how9, _⟩ := oww_of hown9 hn0 hat9; have j0 := (how9.cells HX.out).1; have j1 := how9.frozen (i * 4); have HO7 := Lib.hid how9; have HB7 := Lib.hid (HB6.out.trans ((But.refl No w6).grown hgrow9 (fun k e => by simp [Value.ownBlock] at e))); have HC7 := Lib.hid ((But.refl No w6).grown hgrow9 (fun k e => by simp [Value.ownBlock] at e)); clear hown9 hgrow9 hat9 how9)
      have ho8 : OwW (w7.setCell ⟨w6.heap.size, i * 4, none⟩ (.int .i64 v)) w6.heap.size (l.set i ⟨v, x1, x2, x3⟩) := by
        have h9 := HO7.out.set (r := 0) (y := ⟨v, x1, x2, x3⟩) (v := .int .i64 v) HX.out (by omega) (fun r u hu => by
          match r, hu with
          | 0, hu => simpa [wkC] using hu.symm
          | 1, hu => simpa [wkC] using hu
          | 2, hu => simpa [wkC] using hu
          | 3, hu => simpa [wkC] using hu
          | r + 4, hu => simp [wkC] at hu)
        rwa [Nat.add_zero] at h9
      have hb8 : But No w1 (w7.setCell ⟨w6.heap.size, i * 4, none⟩ (.int .i64 v)) := HB7.out.setNew (p := ⟨w6.heap.size, i * 4, none⟩) HB6.out.size _
      have hc8 : But No w6 (w7.setCell ⟨w6.heap.size, i * 4, none⟩ (.int .i64 v)) := HC7.out.setNew (p := ⟨w6.heap.size, i * 4, none⟩) (Nat.le_refl _) _
      clear j0 j1 HO7 HB7 HC7 e5
      generalize w7.setCell ⟨w6.heap.size, i * 4, none⟩ (.int .i64 v) = w8 at ho8 hb8 hc8 ⊢
      generalize w6.heap.size = p2 at ho8 ⊢
      have HO8 := Lib.hid ho8
      have HB8 := Lib.hid hb8
      have HC8 := Lib.hid hc8
      have RD8 := Lib.hid (HL1.out.no hb8).reads
      clear ho8 hb8 hc8 RD6
      obtain ⟨q, hq⟩ : ∃ q, T % 1000 = q := ⟨_, rfl⟩
      have hq0 : 0 ≤ q ∧ q < 1000 := by omega
      have e6 : T.tmod 1000 = q := by rw [Int.tmod_eq_emod_of_nonneg hT0]; exact hq
      clear hq
      go_upto_region 16 with (at_builtin; refine wpList_append_sh _ rfl _ _ 22 rfl 38 i0 _ 4 32 Try.underlying22 I0.out.1 I0.out.2.1 I0.out.2.2.1 I0.out.2.2.2 rfl (by omega) (.slice none 0 0) 0 [] rfl (World.ownsRow_nil _ _ _ _) w8.heap.size (some ⟨b, off, none⟩) n c (l.flatMap wkC) rfl RD8.out OC.out (by unfold maxLen; omega) (by omega) ?_; intro A9 c9 w9 hown9 hgrow9 hat9; simp only [Nat.zero_add, List.nil_append] at hown9 hat9 ⊢; obtain ⟨rfl, how9, _⟩ := oww_of hown9 hn0 hat9; have j0 := (how9.cells HX.out).2.2.1; have j1 := how9.frozen (i * 4 + 2); have HO9 := Lib.hid how9; have HB9 := Lib.hid (HB8.out.trans ((But.refl No w8).grown hgrow9 (fun k e => by simp [Value.ownBlock] at e))); have HC9 := Lib.hid ((But.refl No w8).grown hgrow9 (fun k e => by simp [Value.ownBlock] at e)); clear hown9 hgrow9 hat9 how9)
      obtain ⟨d9, hd9⟩ : ∃ d9, (if 1099511627776 < x2 + q then 1099511627776 else x2 + q) = d9 := ⟨_, rfl⟩
      have hd90 : x2 ≤ d9 := by rw [← hd9]; split <;> omega
      have hd91 : d9 ≤ 1099511627776 := by rw [← hd9]; split <;> omega
      rw [hd9]
      clear hd9
      have ho10 : OwW (w9.setCell ⟨w8.heap.size, i * 4 + 2, none⟩ (.int .i64 d9)) w8.heap.size (l.set i ⟨x0, x1, d9, x3⟩) := HO9.out.set (r := 2) (y := ⟨x0, x1, d9, x3⟩) (v := .int .i64 d9) HX.out (by omega) (fun r u hu => by
        match r, hu with
        | 0, hu => simpa [wkC] using hu
        | 1, hu => simpa [wkC] using hu
        | 2, hu => simpa [wkC] using hu.symm
        | 3, hu => simpa [wkC] using hu
        | r + 4, hu => simp [wkC] at hu)
      have hb10 : But No w1 (w9.setCell ⟨w8.heap.size, i * 4 + 2, none⟩ (.int .i64 d9)) := HB9.out.setNew (p := ⟨w8.heap.size, i * 4 + 2, none⟩) HB8.out.size _
      have hc10 : But No w8 (w9.setCell ⟨w8.heap.size, i * 4 + 2, none⟩ (.int .i64 d9)) := HC9.out.setNew (p := ⟨w8.heap.size, i * 4 + 2, none⟩) (Nat.le_refl _) _
      clear j0 j1 HO9 HB9 HC9 e6
      generalize w9.setCell ⟨w8.heap.size, i * 4 + 2, none⟩ (.int .i64 d9) = w10 at ho10 hb10 hc10 ⊢
      generalize w8.heap.size = p3 at ho10 ⊢
      have hin1 : ∀ y ∈ l, inR y.w ∧ inR y.p ∧ inR y.d := HL1.out.fit
      have hset : ∀ y : Wk, (inR y.w ∧ inR y.p ∧ inR y.d) → ∀ z ∈ l.set i y, inR z.w ∧ inR z.p ∧ inR z.d := fun y hy z hz => by
        rcases List.mem_or_eq_of_mem_set hz with hz | rfl
        · exact hin1 z hz
        · exact hy
      have hsl : ∀ y : Wk, (l.set i y).length = n := fun y => by rw [List.length_set]; exact HN.out
      obtain ⟨bd, hbd⟩ : ∃ bd, T % (bl + 1) = bd := ⟨_, rfl⟩
      have hbd0 : 0 ≤ bd := by rw [← hbd]; exact Int.emod_nonneg _ (by omega)
      have hbd1 : bd ≤ bl := by have := Int.emod_lt_of_pos T (show 0 < bl + 1 by omega); omega
      have e7 : T.tmod (bl + 1) = bd := by rw [Int.tmod_eq_emod_of_nonneg hT0]; exact hbd
      have hbl9 : bl + 1 ≠ 0 := by omega
      have Ca : Hid (∀ cap W, But No w10 W → Calls Try.prog 16 #[.slice A6 (i + (n - i1)) cap, .int .i64 bl, .int .i64 rl] W fun e w' => e = .returned (.int .i64 (testV (l.take i ++ l.drop i1) bl rl)) ∧ But No W w') := Lib.hid (fun cap W hh => CT2.out A6 _ cap _ bl W (HRR.out.no ((HC8.out.trans hc10).trans hh)) HB.out.1)
      have Cb : Hid (∀ cap W, But No w10 W → Calls Try.prog 16 #[.slice (some ⟨p2, 0, none⟩) n cap, .int .i64 bl, .int .i64 rl] W fun e w' => e = .returned (.int .i64 (testV (l.set i ⟨v, x1, x2, x3⟩) bl rl)) ∧ But No W w') := Lib.hid (fun cap W hh => by
        have h9 := (HO8.out.but (hc10.trans hh) (fun f => f)).rd (by rw [hsl]; omega) (hset _ ⟨by unfold inR; dsimp only; omega, by unfold inR; dsimp only; omega, by unfold inR; dsimp only; omega⟩)
        rw [hsl] at h9
        exact CT2.out _ n cap _ bl W h9 HB.out.1)
      have Cc : Hid (∀ cap W, But No w10 W → Calls Try.prog 16 #[.slice (some ⟨p3, 0, none⟩) n cap, .int .i64 bl, .int .i64 rl] W fun e w' => e = .returned (.int .i64 (testV (l.set i ⟨x0, x1, d9, x3⟩) bl rl)) ∧ But No W w') := Lib.hid (fun cap W hh => by
        have h9 := (ho10.but hh (fun f => f)).rd (by rw [hsl]; omega) (hset _ ⟨by unfold inR; dsimp only; omega, by unfold inR; dsimp only; omega, by unfold inR; dsimp only; omega⟩)
        rw [hsl] at h9
        exact CT2.out _ n cap _ bl W h9 HB.out.1)
      have Cd : Hid (∀ cap W, But No w10 W → Calls Try.prog 16 #[.slice (some ⟨b, off, none⟩) n cap, .int .i64 bd, .int .i64 rl] W fun e w' => e = .returned (.int .i64 (testV l bd rl)) ∧ But No W w') := Lib.hid (fun cap W hh => CT2.out _ n cap l bd W (HL1.out.no (hb10.trans hh)) (by unfold inR; omega))
      have HA1 : Hid (testV (l.take i ++ l.drop i1) bl rl = 0 ∨ testV (l.take i ++ l.drop i1) bl rl = 11) := Lib.hid (by rw [← HI1.out]; exact (less_rest HRT.out HX.out).test HT.out)
      have HA2 : Hid (testV (l.set i ⟨v, x1, x2, x3⟩) bl rl = 0 ∨ testV (l.set i ⟨v, x1, x2, x3⟩) bl rl = 11) := Lib.hid ((less_part HRT.out HX.out hv0 hv1).test HT.out)
      have HA3 : Hid (testV (l.set i ⟨x0, x1, d9, x3⟩) bl rl = 0 ∨ testV (l.set i ⟨x0, x1, d9, x3⟩) bl rl = 11) := Lib.hid ((less_late HRT.out HX.out hd90 hd91).test HT.out)
      have HA4 : Hid (testV l bd rl = 0 ∨ testV l bd rl = 11) := Lib.hid ((less_block HRT.out hbd0 hbd1).test HT.out)
      generalize testV (l.take i ++ l.drop i1) bl rl = a1 at Ca HA1
      generalize testV (l.set i ⟨v, x1, x2, x3⟩) bl rl = a2 at Cb HA2
      generalize testV (l.set i ⟨x0, x1, d9, x3⟩) bl rl = a3 at Cc HA3
      generalize testV l bd rl = a4 at Cd HA4
      have HB10 := Lib.hid (H2.out.trans hb10)
      clear ho10 hb10 hc10 HO8 HB8 HC8 HRR hin1 hset hsl hbd HX RD8
      go_wp2_with (first | (go_at_call 16; (with_reducible refine (Ca.out _ _ (But.refl No w10)).mono ?_); rintro e wa ⟨rfl, h9⟩; have G1 := Lib.hid ((But.refl No w10).trans h9); clear h9) | (go_at_call 16; (with_reducible refine (Cb.out _ _ G1.out).mono ?_); rintro e wb ⟨rfl, h9⟩; have G2 := Lib.hid ((G1.out).trans h9); clear h9) | (go_at_call 16; (with_reducible refine (Cc.out _ _ G2.out).mono ?_); rintro e wc ⟨rfl, h9⟩; have G3 := Lib.hid ((G2.out).trans h9); clear h9) | (go_at_call 16; (with_reducible refine (Cd.out _ _ G3.out).mono ?_); rintro e wd ⟨rfl, h9⟩; have G4 := Lib.hid ((G3.out).trans h9); clear h9) | (go_at_call 18; (with_reducible refine (CF.out _ _ HA1.out).mono ?_); rintro e wf1 ⟨rfl, rfl⟩) | (go_at_call 18; (with_reducible refine (CF.out _ _ HA2.out).mono ?_); rintro e wf2 ⟨rfl, rfl⟩) | (go_at_call 18; (with_reducible refine (CF.out _ _ HA3.out).mono ?_); rintro e wf3 ⟨rfl, rfl⟩) | (go_at_call 18; (with_reducible refine (CF.out _ _ HA4.out).mono ?_); rintro e wf4 ⟨rfl, rfl⟩))
      go_ret
      exact ⟨rfl, HB10.out.trans G4.out⟩
  · generalize testV l bl rl = tv at CT htest
    have b1 : (tv != 0) = true := by simp [htest]
    clear htest
    go_enter Try.func6, Try.ntmps6
    go_wp2_with (first | (go_at_call 10; (with_reducible refine (CX.out _).mono ?_); rintro e w0 ⟨rfl, h1⟩; have H1 := Lib.hid h1; clear h1) | (go_at_call 16; (with_reducible refine (CT.out _ H1.out).mono ?_); rintro e w1 ⟨rfl, h2⟩; have H2 := Lib.hid (H1.out.trans h2); clear h2))
    go_ret
    exact ⟨rfl, H2.out⟩
end demandLess
end Go.Proofs.Ytfpcnilcbaiojaa
