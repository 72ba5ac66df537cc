/- The contracts of the document's up, times and right (chapter 15). -/
import Derived.Test.YtfpcnilcbaiojaaDeW
import Derived.Test.YtfpcnilcbaiojaaQaC7
namespace Go.Proofs.Ytfpcnilcbaiojaa.dem
open Go.ChangeShapes Go.WideShapes Go.ChangeAt Go.RowKit Go.Deep
theorem retp {a b c d : Int} (h : a = c) (k : b = d) : Ending.returned (.tuple #[.int .i64 a, .int .i64 b]) = .returned (.tuple #[.int .i64 c, .int .i64 d]) := by rw [h, k]
set_option maxRecDepth 100000 in
theorem rup_any (n d : Int) (hn : 1 ≤ n) (hd : 1 ≤ d) (hr : n ≤ 9223372036854775807) (hr2 : d ≤ 9223372036854775807) (w : World) : Calls Try.prog 24 #[.int .i64 n, .int .i64 d] w fun e w' => e = .returned (.int .i64 (up n d)) ∧ w' = w := by
  have hb := up_bd hn hd
  have q1 : n.tdiv d = n / d := Int.tdiv_eq_ediv_of_nonneg (by omega)
  have q2 : n.tmod d = n % d := Int.tmod_eq_emod_of_nonneg (by omega)
  have hq0 : 0 ≤ n / d := Int.ediv_nonneg (by omega) (by omega)
  have hq1 : n / d ≤ n := Int.ediv_le_self _ (by omega)
  by_cases h : 0 < n % d
  · have HU : Hid (up n d = n / d + 1) := Lib.hid (by unfold up; rw [if_pos h])
    have hu : n / d + 1 ≤ n := by have := HU.out; omega
    have b1 : decide (0 < n % d) = true := by simp [h]
    have hd0 : d ≠ 0 := by omega
    obtain ⟨q, hq⟩ : ∃ q, n / d = q := ⟨_, rfl⟩
    obtain ⟨r, hrr⟩ : ∃ r, n % d = r := ⟨_, rfl⟩
    rw [hq] at q1 hq0 hq1 HU hu
    rw [hrr] at q2 h b1
    clear hb hq hrr
    go_enter Try.func24, Try.ntmps24
    go_wp2
    go_ret
    exact ⟨ret1 HU.out.symm, rfl⟩
  · have HU : Hid (up n d = n / d) := Lib.hid (by unfold up; rw [if_neg h]; omega)
    have b1 : decide (0 < n % d) = false := by simp; omega
    have hd0 : d ≠ 0 := by omega
    obtain ⟨q, hq⟩ : ∃ q, n / d = q := ⟨_, rfl⟩
    obtain ⟨r, hrr⟩ : ∃ r, n % d = r := ⟨_, rfl⟩
    rw [hq] at q1 hq0 hq1 HU
    rw [hrr] at q2 h b1
    clear hb hq hrr
    go_enter Try.func24, Try.ntmps24
    go_wp2
    go_ret
    exact ⟨ret1 HU.out.symm, rfl⟩
theorem radd_good (a b : Int) (ha : 0 ≤ a) (hb : 0 ≤ b) (h : a + b ≤ 9223372036854775807) (w : World) : Calls Try.prog 23 #[.int .i64 a, .int .i64 b] w fun e w' => e = .returned (.tuple #[.int .i64 (a + b), .int .i64 0]) ∧ w' = w :=
  (qar.radd_any a b (by unfold inR; omega) (by unfold inR; omega) w).mono fun e w' ⟨h1, h2⟩ => ⟨by rw [h1, qar.exV_in (by unfold inR; omega), qar.exE_in (by unfold inR; omega)], h2.symm⟩
theorem radd_bad (a b : Int) (ha : 0 ≤ a) (hb : 0 ≤ b) (ha' : a ≤ 9223372036854775807) (hb' : b ≤ 9223372036854775807) (h : 9223372036854775807 < a + b) (w : World) : Calls Try.prog 23 #[.int .i64 a, .int .i64 b] w fun e w' => e = .returned (.tuple #[.int .i64 0, .int .i64 2]) ∧ w' = w :=
  (qar.radd_any a b (by unfold inR; omega) (by unfold inR; omega) w).mono fun e w' ⟨h1, h2⟩ => ⟨by rw [h1, qar.exV_out (by unfold inR; omega), qar.exE_out (by unfold inR; omega)], h2.symm⟩
set_option maxRecDepth 100000 in
theorem rtimes_good (s m k : Int) (hs : 0 ≤ s) (hm : 0 ≤ m) (hk : 0 ≤ k) (hm' : m ≤ 9223372036854775807) (hk' : k ≤ 9223372036854775807) (h : s + m * k ≤ 9223372036854775807) (w : World) : Calls Try.prog 25 #[.int .i64 s, .int .i64 m, .int .i64 k] w fun e w' => e = .returned (.tuple #[.int .i64 (s + m * k), .int .i64 0]) ∧ w' = w := by
  have h0 : 0 ≤ m * k := Int.mul_nonneg hm hk
  have CM : Hid (∀ W, Calls Try.prog 38 #[.int .i64 m, .int .i64 k] W fun e w' => e = .returned (.tuple #[.int .i64 (m * k), .int .i64 0]) ∧ w' = W) := fun W =>
    (qar.rmul_any m k (by unfold inR; omega) (by unfold inR; omega) W).mono fun e w' ⟨h1, h2⟩ => ⟨by rw [h1, qar.exV_in (by unfold inR; omega), qar.exE_in (by unfold inR; omega)], h2.symm⟩
  have CA : Hid (∀ W, Calls Try.prog 23 #[.int .i64 s, .int .i64 (m * k)] W fun e w' => e = .returned (.tuple #[.int .i64 (s + m * k), .int .i64 0]) ∧ w' = W) := fun W => radd_good s (m * k) hs h0 h W
  generalize m * k = z at *
  clear h h0 hm hk hm' hk' hs
  go_enter Try.func25, Try.ntmps25
  go_wp2_with (first | (go_at_call 38; (with_reducible refine (CM.out _).mono ?_); rintro e w1 ⟨rfl, rfl⟩) | (go_at_call 23; (with_reducible refine (CA.out _).mono ?_); rintro e w2 ⟨rfl, rfl⟩))
  go_ret2
  exact ⟨rfl, rfl⟩
set_option maxRecDepth 100000 in
theorem rtimes_bad (s m k : Int) (hs : 0 ≤ s) (hm : 0 ≤ m) (hk : 0 ≤ k) (hs' : s ≤ 9223372036854775807) (hm' : m ≤ 9223372036854775807) (hk' : k ≤ 9223372036854775807) (h : 9223372036854775807 < s + m * k) (w : World) : Calls Try.prog 25 #[.int .i64 s, .int .i64 m, .int .i64 k] w fun e w' => e = .returned (.tuple #[.int .i64 0, .int .i64 2]) ∧ w' = w := by
  have h0 : 0 ≤ m * k := Int.mul_nonneg hm hk
  by_cases hz : m * k ≤ 9223372036854775807
  · have CM : Hid (∀ W, Calls Try.prog 38 #[.int .i64 m, .int .i64 k] W fun e w' => e = .returned (.tuple #[.int .i64 (m * k), .int .i64 0]) ∧ w' = W) := fun W =>
      (qar.rmul_any m k (by unfold inR; omega) (by unfold inR; omega) W).mono fun e w' ⟨h1, h2⟩ => ⟨by rw [h1, qar.exV_in (by unfold inR; omega), qar.exE_in (by unfold inR; omega)], h2.symm⟩
    have CA : Hid (∀ W, Calls Try.prog 23 #[.int .i64 s, .int .i64 (m * k)] W fun e w' => e = .returned (.tuple #[.int .i64 0, .int .i64 2]) ∧ w' = W) := fun W => radd_bad s (m * k) hs h0 hs' hz h W
    generalize m * k = z at *
    clear h h0 hm hk hm' hk' hs hs' hz
    go_enter Try.func25, Try.ntmps25
    go_wp2_with (first | (go_at_call 38; (with_reducible refine (CM.out _).mono ?_); rintro e w1 ⟨rfl, rfl⟩) | (go_at_call 23; (with_reducible refine (CA.out _).mono ?_); rintro e w2 ⟨rfl, rfl⟩))
    go_ret2
    exact ⟨rfl, rfl⟩
  · have CM : Hid (∀ W, Calls Try.prog 38 #[.int .i64 m, .int .i64 k] W fun e w' => e = .returned (.tuple #[.int .i64 0, .int .i64 2]) ∧ w' = W) := fun W =>
      (qar.rmul_any m k (by unfold inR; omega) (by unfold inR; omega) W).mono fun e w' ⟨h1, h2⟩ => ⟨by rw [h1, qar.exV_out (by unfold inR; omega), qar.exE_out (by unfold inR; omega)], h2.symm⟩
    clear h h0 hm hk hm' hk' hs hs' hz
    go_enter Try.func25, Try.ntmps25
    go_wp2_with (go_at_call 38; (with_reducible refine (CM.out _).mono ?_); rintro e w1 ⟨rfl, rfl⟩)
    go_ret2
    exact ⟨rfl, rfl⟩
set_option maxRecDepth 100000 in
set_option maxHeartbeats 4000000 in
theorem rright_any (A : Option Addr) (n c : Nat) (l : List Wk) (bl rl : Int) (w : World) (h : RWk w A n l) : Calls Try.prog 22 #[.slice A n c, .int .i64 bl, .int .i64 rl] w fun e w' => e = .returned (.bool (right l bl rl)) ∧ But No w w' := by
  have HN := Lib.hid h.len
  have HL := Lib.hid h
  have hmax := h.max
  clear h
  by_cases h1 : n ≤ 72
  · have a1 : decide (72 < n) = false := by simp; omega
    have a1' : decide ((72 : Int) < (n : Int)) = false := by simp; omega
    by_cases h2 : bl < 0
    · have HV : Hid (right l bl rl = false) := Lib.hid (by cases e : right l bl rl with | false => rfl | true => have := (right_iff.1 e).2.1; omega)
      have a2 : decide (bl < 0) = true := by simp [h2]
      go_enter Try.func22, Try.ntmps22
      go_wp2
      go_ret
      exact ⟨ret_bool HV.out.symm, But.refl No w⟩
    · have a2 : decide (bl < 0) = false := by simp; omega
      by_cases h3 : 1099511627776 < bl
      · have HV : Hid (right l bl rl = false) := Lib.hid (by cases e : right l bl rl with | false => rfl | true => have := (right_iff.1 e).2.1; omega)
        have a3 : decide (1099511627776 < bl) = true := by simp [h3]
        go_enter Try.func22, Try.ntmps22
        go_wp2
        go_ret
        exact ⟨ret_bool HV.out.symm, But.refl No w⟩
      · have a3 : decide (1099511627776 < bl) = false := by simp; omega
        by_cases h4 : rl < 0
        · have HV : Hid (right l bl rl = false) := Lib.hid (by cases e : right l bl rl with | false => rfl | true => have := (right_iff.1 e).2.2.1; omega)
          have a4 : decide (rl < 0) = true := by simp [h4]
          go_enter Try.func22, Try.ntmps22
          go_wp2
          go_ret
          exact ⟨ret_bool HV.out.symm, But.refl No w⟩
        · have a4 : decide (rl < 0) = false := by simp; omega
          by_cases h5 : 1099511627776 < rl
          · have HV : Hid (right l bl rl = false) := Lib.hid (by cases e : right l bl rl with | false => rfl | true => have := (right_iff.1 e).2.2.1; omega)
            have a5 : decide (1099511627776 < rl) = true := by simp [h5]
            go_enter Try.func22, Try.ntmps22
            go_wp2
            go_ret
            exact ⟨ret_bool HV.out.symm, But.refl No w⟩
          · have a5 : decide (1099511627776 < rl) = false := by simp; omega
            have HH := Lib.hid (And.intro h1 (And.intro (show 0 ≤ bl ∧ bl ≤ 1099511627776 by omega) (show 0 ≤ rl ∧ rl ≤ 1099511627776 by omega)))
            clear h2 h3 h4 h5
            go_enter Try.func22, Try.ntmps22
            go_wp2_with fail
            go_loopw [7] (fun i wr => ∃ q : Nat, i = .int .i64 (q : Int) ∧ q ≤ n ∧ Hid (∀ j x, j < q → l[j]? = some x → okW x = true) ∧ Hid (But No w wr)) (fun i _ => n - (intOf i).toNat)
            case atStart => exact ⟨0, rfl, by omega, fun j x hj => absurd hj (by omega), But.refl No w⟩
            case round =>
              obtain ⟨q, rfl, hq, HG, HBR⟩ := hrel
              by_cases hqn : q < n
              · have hqn2 : (q : Int) < (n : Int) := by omega
                have hq0 : (0 : Int) ≤ (q : Int) := Int.natCast_nonneg q
                obtain ⟨x, hx⟩ : ∃ x, l[q]? = some x := ⟨_, List.getElem?_eq_getElem (by rw [HN.out]; exact hqn)⟩
                obtain ⟨b, off, rfl, _, e0, e1, e2, e3⟩ := (HL.out.no HBR.out).at1 hx
                have HX := Lib.hid hx
                clear hx
                obtain ⟨x0, x1, x2, x3⟩ := x
                simp only at e0 e1 e2 e3
                by_cases g0 : x0 < 0
                · have HV : Hid (right l bl rl = false) := Lib.hid (by
                    cases e : right l bl rl with
                    | false => rfl
                    | true =>
                      have := okW_iff.1 ((right_iff.1 e).2.2.2 _ (List.mem_of_getElem? HX.out))
                      dsimp only at this
                      omega)
                  have k0 : decide (x0 < 0) = true := by simp [g0]
                  go_wp2
                  go_ret
                  exact ⟨ret_bool HV.out.symm, HBR.out.alloc _⟩
                · have k0 : decide (x0 < 0) = false := by simp; omega
                  by_cases g1 : 1099511627776 < x0
                  · have HV : Hid (right l bl rl = false) := Lib.hid (by
                      cases e : right l bl rl with
                      | false => rfl
                      | true =>
                        have := okW_iff.1 ((right_iff.1 e).2.2.2 _ (List.mem_of_getElem? HX.out))
                        dsimp only at this
                        omega)
                    have k1 : decide (1099511627776 < x0) = true := by simp [g1]
                    go_wp2
                    go_ret
                    exact ⟨ret_bool HV.out.symm, HBR.out.alloc _⟩
                  · have k1 : decide (1099511627776 < x0) = false := by simp; omega
                    by_cases g2 : x1 < 1
                    · have HV : Hid (right l bl rl = false) := Lib.hid (by
                        cases e : right l bl rl with
                        | false => rfl
                        | true =>
                          have := okW_iff.1 ((right_iff.1 e).2.2.2 _ (List.mem_of_getElem? HX.out))
                          dsimp only at this
                          omega)
                      have k2 : decide (x1 < 1) = true := by simp [g2]
                      go_wp2
                      go_ret
                      exact ⟨ret_bool HV.out.symm, HBR.out.alloc _⟩
                    · have k2 : decide (x1 < 1) = false := by simp; omega
                      by_cases g3 : 1099511627776 < x1
                      · have HV : Hid (right l bl rl = false) := Lib.hid (by
                          cases e : right l bl rl with
                          | false => rfl
                          | true =>
                            have := okW_iff.1 ((right_iff.1 e).2.2.2 _ (List.mem_of_getElem? HX.out))
                            dsimp only at this
                            omega)
                        have k3 : decide (1099511627776 < x1) = true := by simp [g3]
                        go_wp2
                        go_ret
                        exact ⟨ret_bool HV.out.symm, HBR.out.alloc _⟩
                      · have k3 : decide (1099511627776 < x1) = false := by simp; omega
                        by_cases g4 : x2 < 1
                        · have HV : Hid (right l bl rl = false) := Lib.hid (by
                            cases e : right l bl rl with
                            | false => rfl
                            | true =>
                              have := okW_iff.1 ((right_iff.1 e).2.2.2 _ (List.mem_of_getElem? HX.out))
                              dsimp only at this
                              omega)
                          have k4 : decide (x2 < 1) = true := by simp [g4]
                          go_wp2
                          go_ret
                          exact ⟨ret_bool HV.out.symm, HBR.out.alloc _⟩
                        · have k4 : decide (x2 < 1) = false := by simp; omega
                          by_cases g5 : 1099511627776 < x2
                          · have HV : Hid (right l bl rl = false) := Lib.hid (by
                              cases e : right l bl rl with
                              | false => rfl
                              | true =>
                                have := okW_iff.1 ((right_iff.1 e).2.2.2 _ (List.mem_of_getElem? HX.out))
                                dsimp only at this
                                omega)
                            have k5 : decide (1099511627776 < x2) = true := by simp [g5]
                            go_wp2
                            go_ret
                            exact ⟨ret_bool HV.out.symm, HBR.out.alloc _⟩
                          · have k5 : decide (1099511627776 < x2) = false := by simp; omega
                            have HG1 : Hid (∀ j x, j < q + 1 → l[j]? = some x → okW x = true) := Lib.hid (fun j y hj hy => by
                              by_cases e : j = q
                              · subst e; rw [HX.out] at hy; cases hy
                                exact okW_iff.2 (by dsimp only; omega)
                              · exact HG.out j y (by omega) hy)
                            go_wp2
                            go_roundw
                            case rel => exact ⟨q + 1, by go_num, by omega, HG1, HBR.out.alloc _⟩
                            case measure => simp [intOf]; omega
              · have b3 : decide ((q : Int) < (n : Int)) = false := by simp; omega
                have HV : Hid (right l bl rl = true) := Lib.hid (right_iff.2 ⟨by rw [HN.out]; exact HH.out.1, HH.out.2.1, HH.out.2.2, fun x hx => by
                  obtain ⟨j, hj⟩ := List.mem_iff_getElem?.1 hx
                  have hjl := (List.getElem?_eq_some_iff.1 hj).1
                  rw [HN.out] at hjl
                  exact HG.out j x (by omega) hj⟩)
                go_wp2
                go_ret
                exact ⟨ret_bool HV.out.symm, HBR.out⟩
  · have a1 : decide (72 < n) = true := by simp; omega
    have a1' : decide ((72 : Int) < (n : Int)) = true := by simp; omega
    have HV : Hid (right l bl rl = false) := Lib.hid (by cases e : right l bl rl with | false => rfl | true => have := (right_iff.1 e).1; have := HN.out; omega)
    go_enter Try.func22, Try.ntmps22
    go_wp2
    go_ret
    exact ⟨ret_bool HV.out.symm, But.refl No w⟩
end Go.Proofs.Ytfpcnilcbaiojaa.dem
