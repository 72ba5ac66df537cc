/- The walk of ResponseRises. -/
import Derived.Test.YtnjkgalbbhmgjaaReE
import Derived.Test.YtnjkgalbbhmgjaaReP
namespace Go.Proofs.Ytnjkgalbbhmgjaa
open Go.ChangeShapes Go.WideShapes Go.ChangeAt Go.RowKit Go.Deep rsp
namespace responseRises
/-- A tick more of one's own. -/
theorem one_more {own bl rl : Int} {a b : List Ld} {n : Int} (h : right own bl rl a b = true) (hn : 0 ≤ n ∧ n ≤ 4611686018427387904) (hs : wiS own bl rl a b n ≤ 4611686018427387904) :
    (own = 1099511627776 ∧ wiE (own + 1) bl rl a b n = 1 ∧ wiV (own + 1) bl rl a b n = 0) ∨ (own ≠ 1099511627776 ∧ wiS own bl rl a b n = 4611686018427387904 ∧ wiE (own + 1) bl rl a b n = 2 ∧ wiV (own + 1) bl rl a b n = 0) ∨
    (own ≠ 1099511627776 ∧ wiS own bl rl a b n ≠ 4611686018427387904 ∧ wiE (own + 1) bl rl a b n = 0 ∧ wiV (own + 1) bl rl a b n = wiS own bl rl a b n + 1) := by
  have e1 : wiS (own + 1) bl rl a b n = wiS own bl rl a b n + 1 := by rw [wiS_L, wiS_L]; omega
  obtain ⟨h1, h2, h3, h4, h5⟩ := right_iff.1 h
  rcases wi_cases (own + 1) bl rl a b n with ⟨e, v, x⟩ | ⟨⟨x, _⟩, o, e, v⟩ | ⟨⟨x, _⟩, o, e, v⟩
  · refine .inl ⟨?_, e, v⟩
    by_cases g : own = 1099511627776
    · exact g
    · exact absurd ⟨right_iff.2 ⟨h1, h2, by omega, h4, h5⟩, hn⟩ x
  · have := (right_iff.1 x).2.2.1
    exact .inr (.inl ⟨by omega, by omega, e, v⟩)
  · have := (right_iff.1 x).2.2.1
    exact .inr (.inr ⟨by omega, by omega, e, by rw [v, e1]⟩)
set_option maxRecDepth 100000 in
set_option maxHeartbeats 4000000 in
theorem walk (own : Int) (ho : (Lit.int .i64 own).wf = true) (bl : Int) (hb : (Lit.int .i64 bl).wf = true) (rl : Int) (hr : (Lit.int .i64 rl).wf = true) (A : Option Addr) (n c : Nat) (a : List Ld) (_ : n ≤ c) (_ : n * 24 ≤ 140737488351232) (B : Option Addr) (m d : Nat) (b : List Ld) (_ : m ≤ d) (_ : m * 24 ≤ 140737488351232) (t : Int) (ht : (Lit.int .i64 t).wf = true) (u : Int) (hu : (Lit.int .i64 u).wf = true) (w : World) (h : RLd w A n a) (h' : RLd w B m b) :
    Calls Try.prog 6 #[.int .i64 own, .int .i64 bl, .int .i64 rl, .slice A n c, .slice B m d, .int .i64 t, .int .i64 u] w fun e w' => e = .returned (.bool true) ∧ But No w w' := by
  have CX : Hid (∀ W, Calls Try.prog 9 #[] W fun e w' => e = .returned (.bool true) ∧ But No W w') := examples_ok
  have CW : Hid (∀ o t, inR o → inR t → ∀ W, But No w W → Calls Try.prog 10 #[.int .i64 o, .int .i64 bl, .int .i64 rl, .slice A n c, .slice B m d, .int .i64 t] W fun e w' => e = .returned (.tuple #[.int .i64 (wiV o bl rl a b t), .int .i64 (wiE o bl rl a b t)]) ∧ But No W w') := fun o t ho ht W hw => within_any A n c a B m d b o bl rl t W (h.no hw) (h'.no hw) ho (inR_of hb) (inR_of hr) ht
  have htr := inR_of ht
  have hur := inR_of hu
  have hor := inR_of ho
  have CA : Hid (∀ W, But No w W → Calls Try.prog 10 #[.int .i64 own, .int .i64 bl, .int .i64 rl, .slice A n c, .slice B m d, .int .i64 t] W fun e w' => e = .returned (.tuple #[.int .i64 (wiV own bl rl a b t), .int .i64 (wiE own bl rl a b t)]) ∧ But No W w') := Lib.hid (CW.out own t hor htr)
  unfold inR at htr hur hor
  clear h h' ho hb hr ht hu
  have HC := Lib.hid (wi_cases own bl rl a b t)
  rcases HC.out with ⟨he, hv, _⟩ | ⟨_, _, he, hv⟩ | ⟨⟨hR, ht0⟩, hS, he, hv⟩
  · rw [he, hv] at CA
    clear he hv HC CW
    go_enter Try.func6, Try.ntmps6
    go_wp2_with (first | (go_at_call 9; (with_reducible refine (CX.out _).mono ?_); rintro e w1 ⟨rfl, h1⟩; have H1 := Lib.hid h1; clear h1) | (go_at_call 10; (with_reducible refine (CA.out _ H1.out).mono ?_); rintro e w2 ⟨rfl, h2⟩; have H2 := Lib.hid (H1.out.trans h2); clear h2))
    go_ret
    exact ⟨ret_bool (by simp), H2.out⟩
  · rw [he, hv] at CA
    clear he hv HC CW
    go_enter Try.func6, Try.ntmps6
    go_wp2_with (first | (go_at_call 9; (with_reducible refine (CX.out _).mono ?_); rintro e w1 ⟨rfl, h1⟩; have H1 := Lib.hid h1; clear h1) | (go_at_call 10; (with_reducible refine (CA.out _ H1.out).mono ?_); rintro e w2 ⟨rfl, h2⟩; have H2 := Lib.hid (H1.out.trans h2); clear h2))
    go_ret
    exact ⟨ret_bool (by simp), H2.out⟩
  · rw [he, hv] at CA
    obtain ⟨⟨o0, o1⟩, _⟩ := (right_iff.1 hR).2.2
    have CO : Hid (∀ W, But No w W → Calls Try.prog 10 #[.int .i64 (own + 1), .int .i64 bl, .int .i64 rl, .slice A n c, .slice B m d, .int .i64 t] W fun e w' => e = .returned (.tuple #[.int .i64 (wiV (own + 1) bl rl a b t), .int .i64 (wiE (own + 1) bl rl a b t)]) ∧ But No W w') := Lib.hid (CW.out (own + 1) t (by unfold inR; omega) (by unfold inR; omega))
    have HO := Lib.hid (one_more hR ht0 hS)
    have HR := Lib.hid hR
    have HM := Lib.hid (fun (x : Int) (hx : t ≤ x) => wi_mono hR ht0.1 hx)
    have hS0 := wi_pos hR ht0.1
    generalize wiV (own + 1) bl rl a b t = VO at CO HO
    generalize wiE (own + 1) bl rl a b t = EO at CO HO
    generalize wiS own bl rl a b t = S at CA HO hS HM hS0
    clear he hv HC hR
    obtain ⟨ht0, ht2⟩ := ht0
    by_cases u0 : u < 0
    · have b3 : decide (u < 0) = true := by simp [u0]
      by_cases t1 : t ≤ 1099511627776
      · have b4 : decide (t ≤ 1099511627776) = true := by simp [t1]
        have h0N : 0 ≤ (-(u + 1)) := by omega
        have q1 : (-(u + 1)).tmod 1000000 = (-(u + 1)) % 1000000 := Int.tmod_eq_emod_of_nonneg h0N
        have q2 := Int.emod_nonneg (-(u + 1)) (show (1000000 : Int) ≠ 0 by omega)
        have q3 := Int.emod_lt_of_pos (-(u + 1)) (show (0 : Int) < 1000000 by omega)
        obtain ⟨r, hr⟩ : ∃ r, (-(u + 1)) % 1000000 = r := ⟨_, rfl⟩
        rw [hr] at q1 q2 q3
        clear hr
        have CV : Hid (∀ W, But No w W → Calls Try.prog 10 #[.int .i64 own, .int .i64 bl, .int .i64 rl, .slice A n c, .slice B m d, .int .i64 (t + r)] W fun e w' => e = .returned (.tuple #[.int .i64 (wiV own bl rl a b (t + r)), .int .i64 (wiE own bl rl a b (t + r))]) ∧ But No W w') := Lib.hid (CW.out own (t + r) (by unfold inR; omega) (by unfold inR; omega))
        rcases wi_cases own bl rl a b (t + r) with ⟨_, _, x⟩ | ⟨_, _, e1, v1⟩ | ⟨_, _, e1, v1⟩
        · exact absurd ⟨HR.out, by omega, by omega⟩ x
        · rw [e1, v1] at CV
          clear e1 v1
          rcases HO.out with ⟨g1, g2, g3⟩ | ⟨g1, g2, g3, g4⟩ | ⟨g1, g2, g3, g4⟩
          · have c1 : (own == 1099511627776) = true := by simp [g1]
            rw [g2, g3] at CO
            clear g1 g2 g3 HO CW HM HR
            go_enter Try.func6, Try.ntmps6
            go_wp2_with (first | (go_at_call 9; (with_reducible refine (CX.out _).mono ?_); rintro e w1 ⟨rfl, h1⟩; have H1 := Lib.hid h1; clear h1) | (go_at_call 10; (with_reducible refine (CA.out _ H1.out).mono ?_); rintro e w2 ⟨rfl, h2⟩; have H2 := Lib.hid (H1.out.trans h2); clear h2) | (go_at_call 10; (with_reducible refine (CV.out _ H2.out).mono ?_); rintro e w3 ⟨rfl, h2⟩; have H3 := Lib.hid (H2.out.trans h2); clear h2) | (go_at_call 10; (with_reducible refine (CO.out _ (by first | exact H3.out | exact H2.out)).mono ?_); rintro e w4 ⟨rfl, h2⟩; first | have H4 := Lib.hid (H3.out.trans h2) | have H4 := Lib.hid (H2.out.trans h2); clear h2))
            go_ret
            exact ⟨ret_bool (by simp), H4.out⟩
          · have c1 : (own == 1099511627776) = false := by simp [g1]
            have c2 : (S == 4611686018427387904) = true := by simp [g2]
            rw [g3, g4] at CO
            clear g1 g2 g3 g4 HO CW HM HR
            go_enter Try.func6, Try.ntmps6
            go_wp2_with (first | (go_at_call 9; (with_reducible refine (CX.out _).mono ?_); rintro e w1 ⟨rfl, h1⟩; have H1 := Lib.hid h1; clear h1) | (go_at_call 10; (with_reducible refine (CA.out _ H1.out).mono ?_); rintro e w2 ⟨rfl, h2⟩; have H2 := Lib.hid (H1.out.trans h2); clear h2) | (go_at_call 10; (with_reducible refine (CV.out _ H2.out).mono ?_); rintro e w3 ⟨rfl, h2⟩; have H3 := Lib.hid (H2.out.trans h2); clear h2) | (go_at_call 10; (with_reducible refine (CO.out _ (by first | exact H3.out | exact H2.out)).mono ?_); rintro e w4 ⟨rfl, h2⟩; first | have H4 := Lib.hid (H3.out.trans h2) | have H4 := Lib.hid (H2.out.trans h2); clear h2))
            go_ret
            exact ⟨ret_bool (by simp), H4.out⟩
          · have c1 : (own == 1099511627776) = false := by simp [g1]
            have c2 : (S == 4611686018427387904) = false := by simp [g2]
            have c3 : ((S + 1) == (S + 1)) = true := by simp
            have g5 : S + 1 ≤ 4611686018427387904 := by omega
            rw [g3, g4] at CO
            clear g1 g2 g3 g4 HO CW HM HR
            go_enter Try.func6, Try.ntmps6
            go_wp2_with (first | (go_at_call 9; (with_reducible refine (CX.out _).mono ?_); rintro e w1 ⟨rfl, h1⟩; have H1 := Lib.hid h1; clear h1) | (go_at_call 10; (with_reducible refine (CA.out _ H1.out).mono ?_); rintro e w2 ⟨rfl, h2⟩; have H2 := Lib.hid (H1.out.trans h2); clear h2) | (go_at_call 10; (with_reducible refine (CV.out _ H2.out).mono ?_); rintro e w3 ⟨rfl, h2⟩; have H3 := Lib.hid (H2.out.trans h2); clear h2) | (go_at_call 10; (with_reducible refine (CO.out _ (by first | exact H3.out | exact H2.out)).mono ?_); rintro e w4 ⟨rfl, h2⟩; first | have H4 := Lib.hid (H3.out.trans h2) | have H4 := Lib.hid (H2.out.trans h2); clear h2))
            go_ret
            exact ⟨ret_bool (by simp), H4.out⟩
        · rw [e1, v1] at CV
          have hm := HM.out (t + r) (by omega)
          clear e1 v1
          generalize wiS own bl rl a b (t + r) = V at CV hm
          have b5 : decide (V < S) = false := by simp; omega
          rcases HO.out with ⟨g1, g2, g3⟩ | ⟨g1, g2, g3, g4⟩ | ⟨g1, g2, g3, g4⟩
          · have c1 : (own == 1099511627776) = true := by simp [g1]
            rw [g2, g3] at CO
            clear g1 g2 g3 HO CW HM HR
            go_enter Try.func6, Try.ntmps6
            go_wp2_with (first | (go_at_call 9; (with_reducible refine (CX.out _).mono ?_); rintro e w1 ⟨rfl, h1⟩; have H1 := Lib.hid h1; clear h1) | (go_at_call 10; (with_reducible refine (CA.out _ H1.out).mono ?_); rintro e w2 ⟨rfl, h2⟩; have H2 := Lib.hid (H1.out.trans h2); clear h2) | (go_at_call 10; (with_reducible refine (CV.out _ H2.out).mono ?_); rintro e w3 ⟨rfl, h2⟩; have H3 := Lib.hid (H2.out.trans h2); clear h2) | (go_at_call 10; (with_reducible refine (CO.out _ (by first | exact H3.out | exact H2.out)).mono ?_); rintro e w4 ⟨rfl, h2⟩; first | have H4 := Lib.hid (H3.out.trans h2) | have H4 := Lib.hid (H2.out.trans h2); clear h2))
            go_ret
            exact ⟨ret_bool (by simp), H4.out⟩
          · have c1 : (own == 1099511627776) = false := by simp [g1]
            have c2 : (S == 4611686018427387904) = true := by simp [g2]
            rw [g3, g4] at CO
            clear g1 g2 g3 g4 HO CW HM HR
            go_enter Try.func6, Try.ntmps6
            go_wp2_with (first | (go_at_call 9; (with_reducible refine (CX.out _).mono ?_); rintro e w1 ⟨rfl, h1⟩; have H1 := Lib.hid h1; clear h1) | (go_at_call 10; (with_reducible refine (CA.out _ H1.out).mono ?_); rintro e w2 ⟨rfl, h2⟩; have H2 := Lib.hid (H1.out.trans h2); clear h2) | (go_at_call 10; (with_reducible refine (CV.out _ H2.out).mono ?_); rintro e w3 ⟨rfl, h2⟩; have H3 := Lib.hid (H2.out.trans h2); clear h2) | (go_at_call 10; (with_reducible refine (CO.out _ (by first | exact H3.out | exact H2.out)).mono ?_); rintro e w4 ⟨rfl, h2⟩; first | have H4 := Lib.hid (H3.out.trans h2) | have H4 := Lib.hid (H2.out.trans h2); clear h2))
            go_ret
            exact ⟨ret_bool (by simp), H4.out⟩
          · have c1 : (own == 1099511627776) = false := by simp [g1]
            have c2 : (S == 4611686018427387904) = false := by simp [g2]
            have c3 : ((S + 1) == (S + 1)) = true := by simp
            have g5 : S + 1 ≤ 4611686018427387904 := by omega
            rw [g3, g4] at CO
            clear g1 g2 g3 g4 HO CW HM HR
            go_enter Try.func6, Try.ntmps6
            go_wp2_with (first | (go_at_call 9; (with_reducible refine (CX.out _).mono ?_); rintro e w1 ⟨rfl, h1⟩; have H1 := Lib.hid h1; clear h1) | (go_at_call 10; (with_reducible refine (CA.out _ H1.out).mono ?_); rintro e w2 ⟨rfl, h2⟩; have H2 := Lib.hid (H1.out.trans h2); clear h2) | (go_at_call 10; (with_reducible refine (CV.out _ H2.out).mono ?_); rintro e w3 ⟨rfl, h2⟩; have H3 := Lib.hid (H2.out.trans h2); clear h2) | (go_at_call 10; (with_reducible refine (CO.out _ (by first | exact H3.out | exact H2.out)).mono ?_); rintro e w4 ⟨rfl, h2⟩; first | have H4 := Lib.hid (H3.out.trans h2) | have H4 := Lib.hid (H2.out.trans h2); clear h2))
            go_ret
            exact ⟨ret_bool (by simp), H4.out⟩
      · have b4 : decide (t ≤ 1099511627776) = false := by simp; omega
        rcases HO.out with ⟨g1, g2, g3⟩ | ⟨g1, g2, g3, g4⟩ | ⟨g1, g2, g3, g4⟩
        · have c1 : (own == 1099511627776) = true := by simp [g1]
          rw [g2, g3] at CO
          clear g1 g2 g3 HO CW HM HR
          go_enter Try.func6, Try.ntmps6
          go_wp2_with (first | (go_at_call 9; (with_reducible refine (CX.out _).mono ?_); rintro e w1 ⟨rfl, h1⟩; have H1 := Lib.hid h1; clear h1) | (go_at_call 10; (with_reducible refine (CA.out _ H1.out).mono ?_); rintro e w2 ⟨rfl, h2⟩; have H2 := Lib.hid (H1.out.trans h2); clear h2) | (go_at_call 10; (with_reducible refine (CO.out _ (by first | exact H3.out | exact H2.out)).mono ?_); rintro e w4 ⟨rfl, h2⟩; first | have H4 := Lib.hid (H3.out.trans h2) | have H4 := Lib.hid (H2.out.trans h2); clear h2))
          go_ret
          exact ⟨ret_bool (by simp), H4.out⟩
        · have c1 : (own == 1099511627776) = false := by simp [g1]
          have c2 : (S == 4611686018427387904) = true := by simp [g2]
          rw [g3, g4] at CO
          clear g1 g2 g3 g4 HO CW HM HR
          go_enter Try.func6, Try.ntmps6
          go_wp2_with (first | (go_at_call 9; (with_reducible refine (CX.out _).mono ?_); rintro e w1 ⟨rfl, h1⟩; have H1 := Lib.hid h1; clear h1) | (go_at_call 10; (with_reducible refine (CA.out _ H1.out).mono ?_); rintro e w2 ⟨rfl, h2⟩; have H2 := Lib.hid (H1.out.trans h2); clear h2) | (go_at_call 10; (with_reducible refine (CO.out _ (by first | exact H3.out | exact H2.out)).mono ?_); rintro e w4 ⟨rfl, h2⟩; first | have H4 := Lib.hid (H3.out.trans h2) | have H4 := Lib.hid (H2.out.trans h2); clear h2))
          go_ret
          exact ⟨ret_bool (by simp), H4.out⟩
        · have c1 : (own == 1099511627776) = false := by simp [g1]
          have c2 : (S == 4611686018427387904) = false := by simp [g2]
          have c3 : ((S + 1) == (S + 1)) = true := by simp
          have g5 : S + 1 ≤ 4611686018427387904 := by omega
          rw [g3, g4] at CO
          clear g1 g2 g3 g4 HO CW HM HR
          go_enter Try.func6, Try.ntmps6
          go_wp2_with (first | (go_at_call 9; (with_reducible refine (CX.out _).mono ?_); rintro e w1 ⟨rfl, h1⟩; have H1 := Lib.hid h1; clear h1) | (go_at_call 10; (with_reducible refine (CA.out _ H1.out).mono ?_); rintro e w2 ⟨rfl, h2⟩; have H2 := Lib.hid (H1.out.trans h2); clear h2) | (go_at_call 10; (with_reducible refine (CO.out _ (by first | exact H3.out | exact H2.out)).mono ?_); rintro e w4 ⟨rfl, h2⟩; first | have H4 := Lib.hid (H3.out.trans h2) | have H4 := Lib.hid (H2.out.trans h2); clear h2))
          go_ret
          exact ⟨ret_bool (by simp), H4.out⟩
    · have b3 : decide (u < 0) = false := by simp; omega
      by_cases t1 : t ≤ 1099511627776
      · have b4 : decide (t ≤ 1099511627776) = true := by simp [t1]
        have h0N : 0 ≤ u := by omega
        have q1 : u.tmod 1000000 = u % 1000000 := Int.tmod_eq_emod_of_nonneg h0N
        have q2 := Int.emod_nonneg u (show (1000000 : Int) ≠ 0 by omega)
        have q3 := Int.emod_lt_of_pos u (show (0 : Int) < 1000000 by omega)
        obtain ⟨r, hr⟩ : ∃ r, u % 1000000 = r := ⟨_, rfl⟩
        rw [hr] at q1 q2 q3
        clear hr
        have CV : Hid (∀ W, But No w W → Calls Try.prog 10 #[.int .i64 own, .int .i64 bl, .int .i64 rl, .slice A n c, .slice B m d, .int .i64 (t + r)] W fun e w' => e = .returned (.tuple #[.int .i64 (wiV own bl rl a b (t + r)), .int .i64 (wiE own bl rl a b (t + r))]) ∧ But No W w') := Lib.hid (CW.out own (t + r) (by unfold inR; omega) (by unfold inR; omega))
        rcases wi_cases own bl rl a b (t + r) with ⟨_, _, x⟩ | ⟨_, _, e1, v1⟩ | ⟨_, _, e1, v1⟩
        · exact absurd ⟨HR.out, by omega, by omega⟩ x
        · rw [e1, v1] at CV
          clear e1 v1
          rcases HO.out with ⟨g1, g2, g3⟩ | ⟨g1, g2, g3, g4⟩ | ⟨g1, g2, g3, g4⟩
          · have c1 : (own == 1099511627776) = true := by simp [g1]
            rw [g2, g3] at CO
            clear g1 g2 g3 HO CW HM HR
            go_enter Try.func6, Try.ntmps6
            go_wp2_with (first | (go_at_call 9; (with_reducible refine (CX.out _).mono ?_); rintro e w1 ⟨rfl, h1⟩; have H1 := Lib.hid h1; clear h1) | (go_at_call 10; (with_reducible refine (CA.out _ H1.out).mono ?_); rintro e w2 ⟨rfl, h2⟩; have H2 := Lib.hid (H1.out.trans h2); clear h2) | (go_at_call 10; (with_reducible refine (CV.out _ H2.out).mono ?_); rintro e w3 ⟨rfl, h2⟩; have H3 := Lib.hid (H2.out.trans h2); clear h2) | (go_at_call 10; (with_reducible refine (CO.out _ (by first | exact H3.out | exact H2.out)).mono ?_); rintro e w4 ⟨rfl, h2⟩; first | have H4 := Lib.hid (H3.out.trans h2) | have H4 := Lib.hid (H2.out.trans h2); clear h2))
            go_ret
            exact ⟨ret_bool (by simp), H4.out⟩
          · have c1 : (own == 1099511627776) = false := by simp [g1]
            have c2 : (S == 4611686018427387904) = true := by simp [g2]
            rw [g3, g4] at CO
            clear g1 g2 g3 g4 HO CW HM HR
            go_enter Try.func6, Try.ntmps6
            go_wp2_with (first | (go_at_call 9; (with_reducible refine (CX.out _).mono ?_); rintro e w1 ⟨rfl, h1⟩; have H1 := Lib.hid h1; clear h1) | (go_at_call 10; (with_reducible refine (CA.out _ H1.out).mono ?_); rintro e w2 ⟨rfl, h2⟩; have H2 := Lib.hid (H1.out.trans h2); clear h2) | (go_at_call 10; (with_reducible refine (CV.out _ H2.out).mono ?_); rintro e w3 ⟨rfl, h2⟩; have H3 := Lib.hid (H2.out.trans h2); clear h2) | (go_at_call 10; (with_reducible refine (CO.out _ (by first | exact H3.out | exact H2.out)).mono ?_); rintro e w4 ⟨rfl, h2⟩; first | have H4 := Lib.hid (H3.out.trans h2) | have H4 := Lib.hid (H2.out.trans h2); clear h2))
            go_ret
            exact ⟨ret_bool (by simp), H4.out⟩
          · have c1 : (own == 1099511627776) = false := by simp [g1]
            have c2 : (S == 4611686018427387904) = false := by simp [g2]
            have c3 : ((S + 1) == (S + 1)) = true := by simp
            have g5 : S + 1 ≤ 4611686018427387904 := by omega
            rw [g3, g4] at CO
            clear g1 g2 g3 g4 HO CW HM HR
            go_enter Try.func6, Try.ntmps6
            go_wp2_with (first | (go_at_call 9; (with_reducible refine (CX.out _).mono ?_); rintro e w1 ⟨rfl, h1⟩; have H1 := Lib.hid h1; clear h1) | (go_at_call 10; (with_reducible refine (CA.out _ H1.out).mono ?_); rintro e w2 ⟨rfl, h2⟩; have H2 := Lib.hid (H1.out.trans h2); clear h2) | (go_at_call 10; (with_reducible refine (CV.out _ H2.out).mono ?_); rintro e w3 ⟨rfl, h2⟩; have H3 := Lib.hid (H2.out.trans h2); clear h2) | (go_at_call 10; (with_reducible refine (CO.out _ (by first | exact H3.out | exact H2.out)).mono ?_); rintro e w4 ⟨rfl, h2⟩; first | have H4 := Lib.hid (H3.out.trans h2) | have H4 := Lib.hid (H2.out.trans h2); clear h2))
            go_ret
            exact ⟨ret_bool (by simp), H4.out⟩
        · rw [e1, v1] at CV
          have hm := HM.out (t + r) (by omega)
          clear e1 v1
          generalize wiS own bl rl a b (t + r) = V at CV hm
          have b5 : decide (V < S) = false := by simp; omega
          rcases HO.out with ⟨g1, g2, g3⟩ | ⟨g1, g2, g3, g4⟩ | ⟨g1, g2, g3, g4⟩
          · have c1 : (own == 1099511627776) = true := by simp [g1]
            rw [g2, g3] at CO
            clear g1 g2 g3 HO CW HM HR
            go_enter Try.func6, Try.ntmps6
            go_wp2_with (first | (go_at_call 9; (with_reducible refine (CX.out _).mono ?_); rintro e w1 ⟨rfl, h1⟩; have H1 := Lib.hid h1; clear h1) | (go_at_call 10; (with_reducible refine (CA.out _ H1.out).mono ?_); rintro e w2 ⟨rfl, h2⟩; have H2 := Lib.hid (H1.out.trans h2); clear h2) | (go_at_call 10; (with_reducible refine (CV.out _ H2.out).mono ?_); rintro e w3 ⟨rfl, h2⟩; have H3 := Lib.hid (H2.out.trans h2); clear h2) | (go_at_call 10; (with_reducible refine (CO.out _ (by first | exact H3.out | exact H2.out)).mono ?_); rintro e w4 ⟨rfl, h2⟩; first | have H4 := Lib.hid (H3.out.trans h2) | have H4 := Lib.hid (H2.out.trans h2); clear h2))
            go_ret
            exact ⟨ret_bool (by simp), H4.out⟩
          · have c1 : (own == 1099511627776) = false := by simp [g1]
            have c2 : (S == 4611686018427387904) = true := by simp [g2]
            rw [g3, g4] at CO
            clear g1 g2 g3 g4 HO CW HM HR
            go_enter Try.func6, Try.ntmps6
            go_wp2_with (first | (go_at_call 9; (with_reducible refine (CX.out _).mono ?_); rintro e w1 ⟨rfl, h1⟩; have H1 := Lib.hid h1; clear h1) | (go_at_call 10; (with_reducible refine (CA.out _ H1.out).mono ?_); rintro e w2 ⟨rfl, h2⟩; have H2 := Lib.hid (H1.out.trans h2); clear h2) | (go_at_call 10; (with_reducible refine (CV.out _ H2.out).mono ?_); rintro e w3 ⟨rfl, h2⟩; have H3 := Lib.hid (H2.out.trans h2); clear h2) | (go_at_call 10; (with_reducible refine (CO.out _ (by first | exact H3.out | exact H2.out)).mono ?_); rintro e w4 ⟨rfl, h2⟩; first | have H4 := Lib.hid (H3.out.trans h2) | have H4 := Lib.hid (H2.out.trans h2); clear h2))
            go_ret
            exact ⟨ret_bool (by simp), H4.out⟩
          · have c1 : (own == 1099511627776) = false := by simp [g1]
            have c2 : (S == 4611686018427387904) = false := by simp [g2]
            have c3 : ((S + 1) == (S + 1)) = true := by simp
            have g5 : S + 1 ≤ 4611686018427387904 := by omega
            rw [g3, g4] at CO
            clear g1 g2 g3 g4 HO CW HM HR
            go_enter Try.func6, Try.ntmps6
            go_wp2_with (first | (go_at_call 9; (with_reducible refine (CX.out _).mono ?_); rintro e w1 ⟨rfl, h1⟩; have H1 := Lib.hid h1; clear h1) | (go_at_call 10; (with_reducible refine (CA.out _ H1.out).mono ?_); rintro e w2 ⟨rfl, h2⟩; have H2 := Lib.hid (H1.out.trans h2); clear h2) | (go_at_call 10; (with_reducible refine (CV.out _ H2.out).mono ?_); rintro e w3 ⟨rfl, h2⟩; have H3 := Lib.hid (H2.out.trans h2); clear h2) | (go_at_call 10; (with_reducible refine (CO.out _ (by first | exact H3.out | exact H2.out)).mono ?_); rintro e w4 ⟨rfl, h2⟩; first | have H4 := Lib.hid (H3.out.trans h2) | have H4 := Lib.hid (H2.out.trans h2); clear h2))
            go_ret
            exact ⟨ret_bool (by simp), H4.out⟩
      · have b4 : decide (t ≤ 1099511627776) = false := by simp; omega
        rcases HO.out with ⟨g1, g2, g3⟩ | ⟨g1, g2, g3, g4⟩ | ⟨g1, g2, g3, g4⟩
        · have c1 : (own == 1099511627776) = true := by simp [g1]
          rw [g2, g3] at CO
          clear g1 g2 g3 HO CW HM HR
          go_enter Try.func6, Try.ntmps6
          go_wp2_with (first | (go_at_call 9; (with_reducible refine (CX.out _).mono ?_); rintro e w1 ⟨rfl, h1⟩; have H1 := Lib.hid h1; clear h1) | (go_at_call 10; (with_reducible refine (CA.out _ H1.out).mono ?_); rintro e w2 ⟨rfl, h2⟩; have H2 := Lib.hid (H1.out.trans h2); clear h2) | (go_at_call 10; (with_reducible refine (CO.out _ (by first | exact H3.out | exact H2.out)).mono ?_); rintro e w4 ⟨rfl, h2⟩; first | have H4 := Lib.hid (H3.out.trans h2) | have H4 := Lib.hid (H2.out.trans h2); clear h2))
          go_ret
          exact ⟨ret_bool (by simp), H4.out⟩
        · have c1 : (own == 1099511627776) = false := by simp [g1]
          have c2 : (S == 4611686018427387904) = true := by simp [g2]
          rw [g3, g4] at CO
          clear g1 g2 g3 g4 HO CW HM HR
          go_enter Try.func6, Try.ntmps6
          go_wp2_with (first | (go_at_call 9; (with_reducible refine (CX.out _).mono ?_); rintro e w1 ⟨rfl, h1⟩; have H1 := Lib.hid h1; clear h1) | (go_at_call 10; (with_reducible refine (CA.out _ H1.out).mono ?_); rintro e w2 ⟨rfl, h2⟩; have H2 := Lib.hid (H1.out.trans h2); clear h2) | (go_at_call 10; (with_reducible refine (CO.out _ (by first | exact H3.out | exact H2.out)).mono ?_); rintro e w4 ⟨rfl, h2⟩; first | have H4 := Lib.hid (H3.out.trans h2) | have H4 := Lib.hid (H2.out.trans h2); clear h2))
          go_ret
          exact ⟨ret_bool (by simp), H4.out⟩
        · have c1 : (own == 1099511627776) = false := by simp [g1]
          have c2 : (S == 4611686018427387904) = false := by simp [g2]
          have c3 : ((S + 1) == (S + 1)) = true := by simp
          have g5 : S + 1 ≤ 4611686018427387904 := by omega
          rw [g3, g4] at CO
          clear g1 g2 g3 g4 HO CW HM HR
          go_enter Try.func6, Try.ntmps6
          go_wp2_with (first | (go_at_call 9; (with_reducible refine (CX.out _).mono ?_); rintro e w1 ⟨rfl, h1⟩; have H1 := Lib.hid h1; clear h1) | (go_at_call 10; (with_reducible refine (CA.out _ H1.out).mono ?_); rintro e w2 ⟨rfl, h2⟩; have H2 := Lib.hid (H1.out.trans h2); clear h2) | (go_at_call 10; (with_reducible refine (CO.out _ (by first | exact H3.out | exact H2.out)).mono ?_); rintro e w4 ⟨rfl, h2⟩; first | have H4 := Lib.hid (H3.out.trans h2) | have H4 := Lib.hid (H2.out.trans h2); clear h2))
          go_ret
          exact ⟨ret_bool (by simp), H4.out⟩
end responseRises
end Go.Proofs.Ytnjkgalbbhmgjaa
