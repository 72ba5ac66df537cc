/- The walk of DemandTops. -/
import Derived.Test.YtfpcnilcbaiojaaDeE
import Derived.Test.YtfpcnilcbaiojaaDeO
namespace Go.Proofs.Ytfpcnilcbaiojaa
open Go.ChangeShapes Go.WideShapes Go.ChangeAt Go.RowKit Go.Deep dem
namespace demandTops
set_option maxRecDepth 100000 in
set_option maxHeartbeats 8000000 in
theorem walk (A : Option Addr) (n c : Nat) (l : List Wk) (_ : n ≤ c) (hk : n * 32 ≤ 140737488351232) (bl : Int) (hb : (Lit.int .i64 bl).wf = true) (rl : Int) (hr : (Lit.int .i64 rl).wf = true) (t : Int) (ht : (Lit.int .i64 t).wf = true) (w : World) (h : RWk w A n l) :
    Calls Try.prog 9 #[.slice A n c, .int .i64 bl, .int .i64 rl, .int .i64 t] w fun e w' => e = .returned (.bool true) ∧ But No w w' := by
  have HN := Lib.hid h.len
  have HL := Lib.hid h
  have HB := Lib.hid (And.intro (inR_of hb) (And.intro (inR_of hr) (inR_of ht)))
  have CX : Hid (∀ W, Calls Try.prog 10 #[] W fun e w' => e = .returned (.bool true) ∧ But No W w') := examples_ok
  obtain ⟨i0, hi0, hz0, hz1, hz2⟩ := info_parts infoD
  have I0 : Hid (Try.prog.info? 38 = some i0 ∧ i0.zero = some (.agg #[.int .i64 0, .int .i64 0, .int .i64 0, .bool false]) ∧ i0.size = 4 ∧ i0.bytes = 32) := ⟨hi0, hz0, hz1, hz2⟩
  have HLT := Lib.hid (show (tops l).length = n by unfold tops; rw [List.length_map, h.len])
  have HTF := Lib.hid (tpq_fit h.fit l.length)
  clear h hb hr ht hi0 hz0 hz1 hz2
  go_enter Try.func9, Try.ntmps9
  go_upto_region 2 with (go_at_call 10; (with_reducible refine (CX.out _).mono ?_); rintro e w0 ⟨rfl, h1⟩; have HW0 := Lib.hid h1; clear h1)
  have HL0 := Lib.hid (HL.out.no HW0.out)
  have RD := Lib.hid HL0.out.reads
  have OC := Lib.hid (all_cells l)
  go_upto_region 3 with (at_builtin; refine wpList_append_sh _ rfl _ _ 22 rfl 38 i0 _ 4 32 Try.underlying22 I0.out.1 I0.out.2.1 I0.out.2.2.1 I0.out.2.2.2 rfl (by omega) (.slice none 0 0) 0 [] rfl (World.ownsRow_nil _ _ _ _) w0.heap.size A n c (l.flatMap wkC) rfl RD.out OC.out (by unfold maxLen; omega) (by omega) ?_; intro A4 c4 w4 hown4 hgrow4 hat4; simp only [Nat.zero_add, List.nil_append] at hown4 hat4 ⊢; have hb4 : But No w0 w4 := (But.refl No w0).grown hgrow4 (fun k e => by simp [Value.ownBlock] at e); have HB4 := Lib.hid hb4; have HO4 := Lib.hid hown4; have HAT := Lib.hid hat4; clear hown4 hgrow4 hat4 hb4)
  have CA : Hid (∀ W, But No w0 W → Calls Try.prog 11 #[.slice A n c, .int .i64 bl, .int .i64 rl, .int .i64 t] W fun e w' => e = .returned (.tuple #[.int .i64 (askV l bl rl t), .int .i64 (askE l bl rl t)]) ∧ But No W w') := Lib.hid (fun W hw => ask_any A n c l bl rl t W (HL0.out.no hw) HB.out.1 HB.out.2.1 HB.out.2.2)
  rcases (show n = 0 ∨ 0 < n by omega) with hn0 | hn0
  · subst hn0
    obtain rfl : l = [] := List.length_eq_zero_iff.1 HN.out
    have CT : Hid (∀ c W, But No w0 W → Calls Try.prog 16 #[.slice A4 0 c, .int .i64 bl, .int .i64 rl] W fun e w' => e = .returned (.int .i64 (testV (tops []) bl rl)) ∧ But No W w') := Lib.hid (fun c W _ => test_any A4 0 c (tops []) bl rl W ⟨rfl, by omega, fun h => absurd h (by omega), fun x hx => by cases hx⟩ HB.out.1 HB.out.2.1)
    have CA2 : Hid (∀ c W, But No w0 W → Calls Try.prog 11 #[.slice A4 0 c, .int .i64 bl, .int .i64 rl, .int .i64 t] W fun e w' => e = .returned (.tuple #[.int .i64 (askV (tops []) bl rl t), .int .i64 (askE (tops []) bl rl t)]) ∧ But No W w') := Lib.hid (fun c W _ => ask_any A4 0 c (tops []) bl rl t W ⟨rfl, by omega, fun h => absurd h (by omega), fun x hx => by cases hx⟩ HB.out.1 HB.out.2.1 HB.out.2.2)
    clear HO4 HAT RD OC HL HL0 HN
    obtain ⟨l, hl⟩ : ∃ l : List Wk, l = [] := ⟨_, rfl⟩
    rw [← hl] at CA CT CA2
    clear hl
    go_wp2_with fail
    go_loopw [11] (fun i wr => ∃ q : Nat, i = .int .i64 (q : Int) ∧ q ≤ 0 ∧ Hid (But No w0 wr)) (fun i _ => 0 - (intOf i).toNat)
    case atStart => exact ⟨0, rfl, by omega, HB4⟩
    case round =>
      obtain ⟨q, rfl, hq, HBZ⟩ := hrel
      have b0 : decide ((q : Int) < 0) = false := by simp
      cases hrt : right l bl rl with
      | false =>
        have hE : testV (tops l) bl rl = 1 := by rw [tops_test, hrt]; rfl
        obtain ⟨e1, v1⟩ := ask_bad (l := l) (bl := bl) (rl := rl) (t := t) (by rw [hrt]; simp)
        obtain ⟨e2, v2⟩ := ask_bad (l := tops l) (bl := bl) (rl := rl) (t := t) (by rw [tops_right, hrt]; simp)
        rw [hE] at CT
        rw [e1, v1] at CA
        rw [e2, v2] at CA2
        clear hrt hE e1 v1 e2 v2
        go_wp2_with (first | (go_at_call 16; (with_reducible refine (CT.out _ _ HBZ.out).mono ?_); rintro e w5 ⟨rfl, h5⟩; have H5 := Lib.hid (HBZ.out.trans h5); clear h5) | (go_at_call 11; (with_reducible refine (CA.out _ H5.out).mono ?_); rintro e w6 ⟨rfl, h6⟩; have H6 := Lib.hid (H5.out.trans h6); clear h6) | (go_at_call 11; (with_reducible refine (CA2.out _ _ H6.out).mono ?_); rintro e w7 ⟨rfl, h7⟩; have H7 := Lib.hid (H6.out.trans h7); clear h7))
        go_ret
        exact ⟨rfl, HW0.out.trans H7.out⟩
      | true =>
        have hE : testV (tops l) bl rl = 0 := by rw [tops_test, hrt]; rfl
        rw [hE] at CT
        have HTA : askE l bl rl t = 0 → askE (tops l) bl rl t = 0 → askV l bl rl t ≤ askV (tops l) bl rl t := fun h h' => tops_ask h h'
        clear hrt hE
        generalize askE l bl rl t = e1 at CA HTA
        generalize askV l bl rl t = v1 at CA HTA
        generalize askE (tops l) bl rl t = e2 at CA2 HTA
        generalize askV (tops l) bl rl t = v2 at CA2 HTA
        by_cases he1 : e1 = 0
        · have b1 : (e1 != 0) = false := by simp [he1]
          by_cases he2 : e2 = 0
          · have b2 : (e2 != 0) = false := by simp [he2]
            have b3 : decide (v1 ≤ v2) = true := by simp [HTA he1 he2]
            clear he1 he2 HTA
            go_wp2_with (first | (go_at_call 16; (with_reducible refine (CT.out _ _ HBZ.out).mono ?_); rintro e w5 ⟨rfl, h5⟩; have H5 := Lib.hid (HBZ.out.trans h5); clear h5) | (go_at_call 11; (with_reducible refine (CA.out _ H5.out).mono ?_); rintro e w6 ⟨rfl, h6⟩; have H6 := Lib.hid (H5.out.trans h6); clear h6) | (go_at_call 11; (with_reducible refine (CA2.out _ _ H6.out).mono ?_); rintro e w7 ⟨rfl, h7⟩; have H7 := Lib.hid (H6.out.trans h7); clear h7))
            go_ret
            exact ⟨rfl, HW0.out.trans H7.out⟩
          · have b2 : (e2 != 0) = true := by simp [he2]
            clear he1 he2 HTA
            go_wp2_with (first | (go_at_call 16; (with_reducible refine (CT.out _ _ HBZ.out).mono ?_); rintro e w5 ⟨rfl, h5⟩; have H5 := Lib.hid (HBZ.out.trans h5); clear h5) | (go_at_call 11; (with_reducible refine (CA.out _ H5.out).mono ?_); rintro e w6 ⟨rfl, h6⟩; have H6 := Lib.hid (H5.out.trans h6); clear h6) | (go_at_call 11; (with_reducible refine (CA2.out _ _ H6.out).mono ?_); rintro e w7 ⟨rfl, h7⟩; have H7 := Lib.hid (H6.out.trans h7); clear h7))
            go_ret
            exact ⟨rfl, HW0.out.trans H7.out⟩
        · have b1 : (e1 != 0) = true := by simp [he1]
          clear he1 HTA
          go_wp2_with (first | (go_at_call 16; (with_reducible refine (CT.out _ _ HBZ.out).mono ?_); rintro e w5 ⟨rfl, h5⟩; have H5 := Lib.hid (HBZ.out.trans h5); clear h5) | (go_at_call 11; (with_reducible refine (CA.out _ H5.out).mono ?_); rintro e w6 ⟨rfl, h6⟩; have H6 := Lib.hid (H5.out.trans h6); clear h6) | (go_at_call 11; (with_reducible refine (CA2.out _ _ H6.out).mono ?_); rintro e w7 ⟨rfl, h7⟩; have H7 := Lib.hid (H6.out.trans h7); clear h7))
          go_ret
          exact ⟨rfl, HW0.out.trans H7.out⟩
  · obtain ⟨rfl, hO, _⟩ := oww_of HO4.out hn0 HAT.out
    generalize hg9 : w0.heap.size = g at hO ⊢
    have HG : Hid (w0.heap.size ≤ g) := Lib.hid (by omega)
    have HOO := Lib.hid hO
    have CT : Hid (∀ c W, OwW W g (tops l) → Calls Try.prog 16 #[.slice (some ⟨g, 0, none⟩) n c, .int .i64 bl, .int .i64 rl] W fun e w' => e = .returned (.int .i64 (testV (tops l) bl rl)) ∧ But No W w') := Lib.hid (fun c W ho => by
      have hrd := ho.rd (by rw [HLT.out]; omega) (by have h9 := HTF.out; rw [tpq_all] at h9; exact h9)
      rw [HLT.out] at hrd
      exact test_any _ n c (tops l) bl rl W hrd HB.out.1 HB.out.2.1)
    have CA2 : Hid (∀ c W, OwW W g (tops l) → Calls Try.prog 11 #[.slice (some ⟨g, 0, none⟩) n c, .int .i64 bl, .int .i64 rl, .int .i64 t] W fun e w' => e = .returned (.tuple #[.int .i64 (askV (tops l) bl rl t), .int .i64 (askE (tops l) bl rl t)]) ∧ But No W w') := Lib.hid (fun c W ho => by
      have hrd := ho.rd (by rw [HLT.out]; omega) (by have h9 := HTF.out; rw [tpq_all] at h9; exact h9)
      rw [HLT.out] at hrd
      exact ask_any _ n c (tops l) bl rl t W hrd HB.out.1 HB.out.2.1 HB.out.2.2)
    clear HO4 HAT RD OC HL HL0 hO hg9
    go_wp2_with fail
    go_loopw [11] (fun i wr => ∃ q : Nat, i = .int .i64 (q : Int) ∧ q ≤ n ∧ Hid (OwW wr g (tpq l q)) ∧ Hid (But No w0 wr)) (fun i _ => n - (intOf i).toNat)
    case atStart => exact ⟨0, rfl, by omega, by rw [tpq_zero]; exact HOO.out, HB4⟩
    case round =>
      obtain ⟨q, rfl, hq, HOQ, HBQ⟩ := hrel
      clear HOO
      by_cases hqn : q < n
      · have hqn2 : (q : Int) < (n : Int) := by omega
        have hq0 : (0 : Int) ≤ (q : Int) := Int.natCast_nonneg q
        obtain ⟨x, hx⟩ : ∃ x, l[q]? = some x := ⟨_, List.getElem?_eq_getElem (by rw [HN.out]; exact hqn)⟩
        have j0 := (HOQ.out.cells (tpq_at hx)).2.2.2
        have j1 := HOQ.out.frozen (q * 4 + 3)
        have HO2 : Hid (OwW (wr.setCell ⟨g, q * 4 + 3, none⟩ (.bool true)) g (tpq l (q + 1))) := Lib.hid (by
          rw [← tpq_set hx]
          exact HOQ.out.set (tpq_at hx) (by omega) (fun r u hu => by
            match r, hu with
            | 0, hu => simpa [wkC] using hu
            | 1, hu => simpa [wkC] using hu
            | 2, hu => simpa [wkC] using hu
            | 3, hu => simpa [wkC] using hu.symm
            | r + 4, hu => simp [wkC] at hu))
        have HB2 : Hid (But No w0 (wr.setCell ⟨g, q * 4 + 3, none⟩ (.bool true))) := Lib.hid (HBQ.out.setNew (p := ⟨g, q * 4 + 3, none⟩) HG.out _)
        clear hx
        go_wp2
        go_roundw
        case rel => exact ⟨q + 1, by go_num, by omega, HO2, HB2⟩
        case measure => simp [intOf]; omega
      · have b0 : decide ((q : Int) < (n : Int)) = false := by simp; omega
        have HOZ : Hid (OwW wr g (tops l)) := Lib.hid (by rw [← tpq_all, HN.out, show n = q by omega]; exact HOQ.out)
        have HBZ : Hid (But No wr wr) := Lib.hid (But.refl No wr)
        have CT : Hid (∀ c W, But No wr W → Calls Try.prog 16 #[.slice (some ⟨g, 0, none⟩) n c, .int .i64 bl, .int .i64 rl] W fun e w' => e = .returned (.int .i64 (testV (tops l) bl rl)) ∧ But No W w') := Lib.hid (fun c W hw => CT.out c W (HOZ.out.but hw (fun f => f)))
        have CA2 : Hid (∀ c W, But No wr W → Calls Try.prog 11 #[.slice (some ⟨g, 0, none⟩) n c, .int .i64 bl, .int .i64 rl, .int .i64 t] W fun e w' => e = .returned (.tuple #[.int .i64 (askV (tops l) bl rl t), .int .i64 (askE (tops l) bl rl t)]) ∧ But No W w') := Lib.hid (fun c W hw => CA2.out c W (HOZ.out.but hw (fun f => f)))
        have CA : Hid (∀ W, But No wr W → Calls Try.prog 11 #[.slice A n c, .int .i64 bl, .int .i64 rl, .int .i64 t] W fun e w' => e = .returned (.tuple #[.int .i64 (askV l bl rl t), .int .i64 (askE l bl rl t)]) ∧ But No W w') := Lib.hid (fun W hw => CA.out W (HBQ.out.trans hw))
        have HW0 : Hid (But No w wr) := Lib.hid (HW0.out.trans HBQ.out)
        cases hrt : right l bl rl with
        | false =>
          have hE : testV (tops l) bl rl = 1 := by rw [tops_test, hrt]; rfl
          obtain ⟨e1, v1⟩ := ask_bad (l := l) (bl := bl) (rl := rl) (t := t) (by rw [hrt]; simp)
          obtain ⟨e2, v2⟩ := ask_bad (l := tops l) (bl := bl) (rl := rl) (t := t) (by rw [tops_right, hrt]; simp)
          rw [hE] at CT
          rw [e1, v1] at CA
          rw [e2, v2] at CA2
          clear hrt hE e1 v1 e2 v2
          go_wp2_with (first | (go_at_call 16; (with_reducible refine (CT.out _ _ HBZ.out).mono ?_); rintro e w5 ⟨rfl, h5⟩; have H5 := Lib.hid (HBZ.out.trans h5); clear h5) | (go_at_call 11; (with_reducible refine (CA.out _ H5.out).mono ?_); rintro e w6 ⟨rfl, h6⟩; have H6 := Lib.hid (H5.out.trans h6); clear h6) | (go_at_call 11; (with_reducible refine (CA2.out _ _ H6.out).mono ?_); rintro e w7 ⟨rfl, h7⟩; have H7 := Lib.hid (H6.out.trans h7); clear h7))
          go_ret
          exact ⟨rfl, HW0.out.trans H7.out⟩
        | true =>
          have hE : testV (tops l) bl rl = 0 := by rw [tops_test, hrt]; rfl
          rw [hE] at CT
          have HTA : askE l bl rl t = 0 → askE (tops l) bl rl t = 0 → askV l bl rl t ≤ askV (tops l) bl rl t := fun h h' => tops_ask h h'
          clear hrt hE
          generalize askE l bl rl t = e1 at CA HTA
          generalize askV l bl rl t = v1 at CA HTA
          generalize askE (tops l) bl rl t = e2 at CA2 HTA
          generalize askV (tops l) bl rl t = v2 at CA2 HTA
          by_cases he1 : e1 = 0
          · have b1 : (e1 != 0) = false := by simp [he1]
            by_cases he2 : e2 = 0
            · have b2 : (e2 != 0) = false := by simp [he2]
              have b3 : decide (v1 ≤ v2) = true := by simp [HTA he1 he2]
              clear he1 he2 HTA
              go_wp2_with (first | (go_at_call 16; (with_reducible refine (CT.out _ _ HBZ.out).mono ?_); rintro e w5 ⟨rfl, h5⟩; have H5 := Lib.hid (HBZ.out.trans h5); clear h5) | (go_at_call 11; (with_reducible refine (CA.out _ H5.out).mono ?_); rintro e w6 ⟨rfl, h6⟩; have H6 := Lib.hid (H5.out.trans h6); clear h6) | (go_at_call 11; (with_reducible refine (CA2.out _ _ H6.out).mono ?_); rintro e w7 ⟨rfl, h7⟩; have H7 := Lib.hid (H6.out.trans h7); clear h7))
              go_ret
              exact ⟨rfl, HW0.out.trans H7.out⟩
            · have b2 : (e2 != 0) = true := by simp [he2]
              clear he1 he2 HTA
              go_wp2_with (first | (go_at_call 16; (with_reducible refine (CT.out _ _ HBZ.out).mono ?_); rintro e w5 ⟨rfl, h5⟩; have H5 := Lib.hid (HBZ.out.trans h5); clear h5) | (go_at_call 11; (with_reducible refine (CA.out _ H5.out).mono ?_); rintro e w6 ⟨rfl, h6⟩; have H6 := Lib.hid (H5.out.trans h6); clear h6) | (go_at_call 11; (with_reducible refine (CA2.out _ _ H6.out).mono ?_); rintro e w7 ⟨rfl, h7⟩; have H7 := Lib.hid (H6.out.trans h7); clear h7))
              go_ret
              exact ⟨rfl, HW0.out.trans H7.out⟩
          · have b1 : (e1 != 0) = true := by simp [he1]
            clear he1 HTA
            go_wp2_with (first | (go_at_call 16; (with_reducible refine (CT.out _ _ HBZ.out).mono ?_); rintro e w5 ⟨rfl, h5⟩; have H5 := Lib.hid (HBZ.out.trans h5); clear h5) | (go_at_call 11; (with_reducible refine (CA.out _ H5.out).mono ?_); rintro e w6 ⟨rfl, h6⟩; have H6 := Lib.hid (H5.out.trans h6); clear h6) | (go_at_call 11; (with_reducible refine (CA2.out _ _ H6.out).mono ?_); rintro e w7 ⟨rfl, h7⟩; have H7 := Lib.hid (H6.out.trans h7); clear h7))
            go_ret
            exact ⟨rfl, HW0.out.trans H7.out⟩
end demandTops
end Go.Proofs.Ytfpcnilcbaiojaa
