/- Rounded up is as much as rounded down, or one more, and a quotient times the divisor is near the dividend: QarithRounds returns true for every three numbers. No condition. (The walk.) -/
import Derived.Test.YtjonlpoiiffalaaRows
import Derived.WalkKit
import Derived.ProofKit
import Derived.OpenShut
import Derived.Test.YtjonlpoiiffalaaB3
namespace Go.Proofs.Ytjonlpoiiffalaa.qarithRounds
open Go.ChangeShapes Go.WideShapes Go.ChangeAt Go.RowKit
set_option linter.unusedVariables false
theorem q_false {a b c : Int} : mdQ a b c false = a * b / c := by unfold mdQ; rw [if_neg (by simp)]
theorem q_zero {a b c : Int} {up : Bool} (h : a * b % c = 0) : mdQ a b c up = a * b / c := by unfold mdQ; rw [if_neg (by simp [h])]
theorem q_more {a b c : Int} (h : a * b % c ≠ 0) : mdQ a b c true = a * b / c + 1 := by unfold mdQ; rw [if_pos ⟨rfl, h⟩]
theorem two_cd {a c : Int} (ha : inR a) (a0 : 0 ≤ a) (c0 : 0 < c) : ∃ n, (n = mdV a 1 c true ∧ 0 = mdE a 1 c true) ∧ (n = cdV a c ∧ 0 = cdE a c) := by
  have hi := ha
  unfold inR at hi
  by_cases h : a % c = 0
  · have hq : mdQ a 1 c true = a / c := by rw [q_zero (by rw [Int.mul_one]; exact h), Int.mul_one]
    have q0 : 0 ≤ a / c := Int.ediv_nonneg a0 (by omega)
    have q2 : a / c ≤ a := Int.ediv_le_self _ a0
    exact ⟨a / c, md_in a0 (by omega) c0 hq (by unfold inR; omega), cd_zero a0 c0 h⟩
  · have hq : mdQ a 1 c true = a / c + 1 := by rw [q_more (by rw [Int.mul_one]; exact h), Int.mul_one]
    have q := cd_small ha a0 c0 h
    exact ⟨a / c + 1, md_in a0 (by omega) c0 hq (by unfold inR; omega), cd_more a0 c0 h⟩
set_option maxHeartbeats 2000000 in
theorem walk (a0 : Int) (a1 : Int) (a2 : Int) (w0 : (Lit.int .i64 a0).wf = true) (w1 : (Lit.int .i64 a1).wf = true) (w2 : (Lit.int .i64 a2).wf = true) (w : World) :
    Calls Try.prog 8 #[.int .i64 a0, .int .i64 a1, .int .i64 a2] w fun e w' => e = .returned (.bool true) ∧ Grown w w' := by
  have h0 := inR_of w0
  have h1 := inR_of w1
  have h2 := inR_of w2
  have h0' := h0
  have h1' := h1
  have h2' := h2
  unfold inR at h0' h1' h2'
  have hone : inR 1 := by decide
  by_cases n0 : a0 < 0
  · go_enter Try.func8, Try.ntmps8
    go_wp2_with (first | (go_at_call 15; refine (examples_any _).mono ?_; rintro e we ⟨rfl, hg⟩))
    go_ret
    exact ⟨rfl, hg.grown⟩
  · by_cases n1 : a1 < 0
    · go_enter Try.func8, Try.ntmps8
      go_wp2_with (first | (go_at_call 15; refine (examples_any _).mono ?_; rintro e we ⟨rfl, hg⟩))
      go_ret
      exact ⟨rfl, hg.grown⟩
    · by_cases n2 : a2 ≤ 0
      · go_enter Try.func8, Try.ntmps8
        go_wp2_with (first | (go_at_call 15; refine (examples_any _).mono ?_; rintro e we ⟨rfl, hg⟩))
        go_ret
        exact ⟨rfl, hg.grown⟩
      · have p0 : 0 ≤ a0 := by omega
        have p1 : 0 ≤ a1 := by omega
        have p2 : 0 < a2 := by omega
        obtain ⟨Q, hQ⟩ : ∃ Q, Q = a0 * a1 / a2 := ⟨_, rfl⟩
        have hq0 : 0 ≤ Q := by rw [hQ]; exact Int.ediv_nonneg (Int.mul_nonneg p0 p1) (by omega)
        obtain ⟨U, hU, hUQ⟩ : ∃ U, U = mdQ a0 a1 a2 true ∧ (U = Q ∨ U = Q + 1) := by
          refine ⟨_, rfl, ?_⟩
          by_cases h : a0 * a1 % a2 = 0
          · left; rw [q_zero h, hQ]
          · right; rw [q_more h, hQ]
        have hD : mdQ a0 a1 a2 false = Q := by rw [q_false, hQ]
        by_cases b1 : Q ≤ 9223372036854775807
        · have cD := Lib.hid (md_in p0 p1 p2 hD (by unfold inR; omega))
          by_cases b2 : U ≤ 9223372036854775807
          · have cU := Lib.hid (md_in p0 p1 p2 hU.symm (by unfold inR; omega))
            obtain ⟨n, hn1, hn2⟩ := two_cd h0 p0 p2
            have cT := Lib.hid hn1
            have cC := Lib.hid hn2
            have q0 : 0 ≤ a0 / a2 := Int.ediv_nonneg p0 (by omega)
            have q2 : a0 / a2 ≤ a0 := Int.ediv_le_self _ p0
            have hO : mdQ a0 1 a2 false = a0 / a2 := by rw [q_false, Int.mul_one]
            have cO := Lib.hid (md_in p0 (by omega) p2 hO (by unfold inR; omega))
            have last : (a1 == 0) = false → decide (1 < a1) = false → (Q == a0 / a2) = true := by
              intro g1 g2
              have g1' : a1 ≠ 0 := by simpa using g1
              have g2' : ¬ 1 < a1 := by simpa using g2
              have g3 : a1 = 1 := by omega
              rw [hQ, g3, Int.mul_one]; simp
            obtain ⟨x, hx⟩ : ∃ x, x = (U == Q) := ⟨_, rfl⟩
            obtain ⟨y, hy⟩ : ∃ y, y = (a1 == 0) := ⟨_, rfl⟩
            obtain ⟨z, hz⟩ : ∃ z, z = decide (1 < a1) := ⟨_, rfl⟩
            have ux : x = false → U = Q + 1 := by
              intro g; rw [hx] at g
              have g' : U ≠ Q := by simpa using g
              omega
            have r1 : decide (0 < a2) = true := by simpa using p2
            have LAST := Lib.hid last
            have UX := Lib.hid ux
            clear hQ hU hD hO last ux n0 n1 n2 hn1 hn2 hUQ
            rcases x with _ | _
            · obtain rfl := UX.out rfl
              clear UX
              rcases z with _ | _
              · rcases y with _ | _
                · have hl := LAST.out hy.symm hz.symm
                  have hx' := hx.symm; have hy' := hy.symm; have hz' := hz.symm
                  clear hx hy hz LAST
                  go_enter Try.func8, Try.ntmps8
                  go_wp2_with (first | (go_at_call 15; refine (examples_any _).mono ?_; rintro e we ⟨rfl, hg⟩) | (go_at_call 24; ((with_reducible refine (md_as a0 a1 a2 Q 0 false h0 h1 h2 cD _).mono ?_); rintro e w2 ⟨rfl, hg2⟩; have hg := hg.trans hg2)) | (go_at_call 24; ((with_reducible refine (md_as a0 a1 a2 _ 0 true h0 h1 h2 cU _).mono ?_); rintro e w2 ⟨rfl, hg2⟩; have hg := hg.trans hg2)) | (go_at_call 24; ((with_reducible refine (md_as a0 1 a2 (a0 / a2) 0 false h0 hone h2 cO _).mono ?_); rintro e w2 ⟨rfl, hg2⟩; have hg := hg.trans hg2)) | (go_at_call 24; ((with_reducible refine (md_as a0 1 a2 n 0 true h0 hone h2 cT _).mono ?_); rintro e w2 ⟨rfl, hg2⟩; have hg := hg.trans hg2)) | (go_at_call 23; ((with_reducible refine (cd_as a0 a2 n 0 h0 h2 cC _).mono ?_); rintro e w' ⟨rfl, rfl⟩)))
                  go_ret
                  exact ⟨rfl, hg.grown⟩
                · have hx' := hx.symm; have hy' := hy.symm; have hz' := hz.symm
                  clear hx hy hz LAST
                  go_enter Try.func8, Try.ntmps8
                  go_wp2_with (first | (go_at_call 15; refine (examples_any _).mono ?_; rintro e we ⟨rfl, hg⟩) | (go_at_call 24; ((with_reducible refine (md_as a0 a1 a2 Q 0 false h0 h1 h2 cD _).mono ?_); rintro e w2 ⟨rfl, hg2⟩; have hg := hg.trans hg2)) | (go_at_call 24; ((with_reducible refine (md_as a0 a1 a2 _ 0 true h0 h1 h2 cU _).mono ?_); rintro e w2 ⟨rfl, hg2⟩; have hg := hg.trans hg2)) | (go_at_call 24; ((with_reducible refine (md_as a0 1 a2 (a0 / a2) 0 false h0 hone h2 cO _).mono ?_); rintro e w2 ⟨rfl, hg2⟩; have hg := hg.trans hg2)) | (go_at_call 24; ((with_reducible refine (md_as a0 1 a2 n 0 true h0 hone h2 cT _).mono ?_); rintro e w2 ⟨rfl, hg2⟩; have hg := hg.trans hg2)) | (go_at_call 23; ((with_reducible refine (cd_as a0 a2 n 0 h0 h2 cC _).mono ?_); rintro e w' ⟨rfl, rfl⟩)))
                  go_ret
                  exact ⟨rfl, hg.grown⟩
              · have hx' := hx.symm; have hy' := hy.symm; have hz' := hz.symm
                clear hx hy hz LAST
                go_enter Try.func8, Try.ntmps8
                go_wp2_with (first | (go_at_call 15; refine (examples_any _).mono ?_; rintro e we ⟨rfl, hg⟩) | (go_at_call 24; ((with_reducible refine (md_as a0 a1 a2 Q 0 false h0 h1 h2 cD _).mono ?_); rintro e w2 ⟨rfl, hg2⟩; have hg := hg.trans hg2)) | (go_at_call 24; ((with_reducible refine (md_as a0 a1 a2 _ 0 true h0 h1 h2 cU _).mono ?_); rintro e w2 ⟨rfl, hg2⟩; have hg := hg.trans hg2)) | (go_at_call 24; ((with_reducible refine (md_as a0 1 a2 (a0 / a2) 0 false h0 hone h2 cO _).mono ?_); rintro e w2 ⟨rfl, hg2⟩; have hg := hg.trans hg2)) | (go_at_call 24; ((with_reducible refine (md_as a0 1 a2 n 0 true h0 hone h2 cT _).mono ?_); rintro e w2 ⟨rfl, hg2⟩; have hg := hg.trans hg2)) | (go_at_call 23; ((with_reducible refine (cd_as a0 a2 n 0 h0 h2 cC _).mono ?_); rintro e w' ⟨rfl, rfl⟩)))
                go_ret
                exact ⟨rfl, hg.grown⟩
            · clear UX
              rcases z with _ | _
              · rcases y with _ | _
                · have hl := LAST.out hy.symm hz.symm
                  have hx' := hx.symm; have hy' := hy.symm; have hz' := hz.symm
                  clear hx hy hz LAST
                  go_enter Try.func8, Try.ntmps8
                  go_wp2_with (first | (go_at_call 15; refine (examples_any _).mono ?_; rintro e we ⟨rfl, hg⟩) | (go_at_call 24; ((with_reducible refine (md_as a0 a1 a2 Q 0 false h0 h1 h2 cD _).mono ?_); rintro e w2 ⟨rfl, hg2⟩; have hg := hg.trans hg2)) | (go_at_call 24; ((with_reducible refine (md_as a0 a1 a2 _ 0 true h0 h1 h2 cU _).mono ?_); rintro e w2 ⟨rfl, hg2⟩; have hg := hg.trans hg2)) | (go_at_call 24; ((with_reducible refine (md_as a0 1 a2 (a0 / a2) 0 false h0 hone h2 cO _).mono ?_); rintro e w2 ⟨rfl, hg2⟩; have hg := hg.trans hg2)) | (go_at_call 24; ((with_reducible refine (md_as a0 1 a2 n 0 true h0 hone h2 cT _).mono ?_); rintro e w2 ⟨rfl, hg2⟩; have hg := hg.trans hg2)) | (go_at_call 23; ((with_reducible refine (cd_as a0 a2 n 0 h0 h2 cC _).mono ?_); rintro e w' ⟨rfl, rfl⟩)))
                  go_ret
                  exact ⟨rfl, hg.grown⟩
                · have hx' := hx.symm; have hy' := hy.symm; have hz' := hz.symm
                  clear hx hy hz LAST
                  go_enter Try.func8, Try.ntmps8
                  go_wp2_with (first | (go_at_call 15; refine (examples_any _).mono ?_; rintro e we ⟨rfl, hg⟩) | (go_at_call 24; ((with_reducible refine (md_as a0 a1 a2 Q 0 false h0 h1 h2 cD _).mono ?_); rintro e w2 ⟨rfl, hg2⟩; have hg := hg.trans hg2)) | (go_at_call 24; ((with_reducible refine (md_as a0 a1 a2 _ 0 true h0 h1 h2 cU _).mono ?_); rintro e w2 ⟨rfl, hg2⟩; have hg := hg.trans hg2)) | (go_at_call 24; ((with_reducible refine (md_as a0 1 a2 (a0 / a2) 0 false h0 hone h2 cO _).mono ?_); rintro e w2 ⟨rfl, hg2⟩; have hg := hg.trans hg2)) | (go_at_call 24; ((with_reducible refine (md_as a0 1 a2 n 0 true h0 hone h2 cT _).mono ?_); rintro e w2 ⟨rfl, hg2⟩; have hg := hg.trans hg2)) | (go_at_call 23; ((with_reducible refine (cd_as a0 a2 n 0 h0 h2 cC _).mono ?_); rintro e w' ⟨rfl, rfl⟩)))
                  go_ret
                  exact ⟨rfl, hg.grown⟩
              · have hx' := hx.symm; have hy' := hy.symm; have hz' := hz.symm
                clear hx hy hz LAST
                go_enter Try.func8, Try.ntmps8
                go_wp2_with (first | (go_at_call 15; refine (examples_any _).mono ?_; rintro e we ⟨rfl, hg⟩) | (go_at_call 24; ((with_reducible refine (md_as a0 a1 a2 Q 0 false h0 h1 h2 cD _).mono ?_); rintro e w2 ⟨rfl, hg2⟩; have hg := hg.trans hg2)) | (go_at_call 24; ((with_reducible refine (md_as a0 a1 a2 _ 0 true h0 h1 h2 cU _).mono ?_); rintro e w2 ⟨rfl, hg2⟩; have hg := hg.trans hg2)) | (go_at_call 24; ((with_reducible refine (md_as a0 1 a2 (a0 / a2) 0 false h0 hone h2 cO _).mono ?_); rintro e w2 ⟨rfl, hg2⟩; have hg := hg.trans hg2)) | (go_at_call 24; ((with_reducible refine (md_as a0 1 a2 n 0 true h0 hone h2 cT _).mono ?_); rintro e w2 ⟨rfl, hg2⟩; have hg := hg.trans hg2)) | (go_at_call 23; ((with_reducible refine (cd_as a0 a2 n 0 h0 h2 cC _).mono ?_); rintro e w' ⟨rfl, rfl⟩)))
                go_ret
                exact ⟨rfl, hg.grown⟩
          · have cU := Lib.hid (md_out p0 p1 p2 hU.symm (by unfold inR; omega))
            have e1 : (Q == 9223372036854775807) = true := by simp; omega
            clear hQ hU hD n0 n1 n2 hUQ
            go_enter Try.func8, Try.ntmps8
            go_wp2_with (first | (go_at_call 15; refine (examples_any _).mono ?_; rintro e we ⟨rfl, hg⟩) | (go_at_call 24; ((with_reducible refine (md_as a0 a1 a2 Q 0 false h0 h1 h2 cD _).mono ?_); rintro e w2 ⟨rfl, hg2⟩; have hg := hg.trans hg2)) | (go_at_call 24; ((with_reducible refine (md_as a0 a1 a2 0 2 true h0 h1 h2 cU _).mono ?_); rintro e w2 ⟨rfl, hg2⟩; have hg := hg.trans hg2)))
            go_ret
            exact ⟨rfl, hg.grown⟩
        · have cD := Lib.hid (md_out p0 p1 p2 hD (by unfold inR; omega))
          have cU := Lib.hid (md_out p0 p1 p2 hU.symm (by unfold inR; omega))
          clear hQ hU hD n0 n1 n2 hUQ
          go_enter Try.func8, Try.ntmps8
          go_wp2_with (first | (go_at_call 15; refine (examples_any _).mono ?_; rintro e we ⟨rfl, hg⟩) | (go_at_call 24; ((with_reducible refine (md_as a0 a1 a2 0 2 false h0 h1 h2 cD _).mono ?_); rintro e w2 ⟨rfl, hg2⟩; have hg := hg.trans hg2)) | (go_at_call 24; ((with_reducible refine (md_as a0 a1 a2 0 2 true h0 h1 h2 cU _).mono ?_); rintro e w2 ⟨rfl, hg2⟩; have hg := hg.trans hg2)))
          go_ret
          exact ⟨rfl, hg.grown⟩
end Go.Proofs.Ytjonlpoiiffalaa.qarithRounds
