/- The common divisor divides both, the common multiple is divided by both, and together they make the product: QarithGcd returns true for every two numbers. No condition. (The walk.) -/
import Derived.Test.YtjonlpoiiffalaaRows
import Derived.WalkKit
import Derived.ProofKit
import Derived.OpenShut
import Derived.Test.YtjonlpoiiffalaaB2
namespace Go.Proofs.Ytjonlpoiiffalaa.qarithGcd
open Go.ChangeShapes Go.WideShapes Go.ChangeAt Go.RowKit
set_option linter.unusedVariables false
theorem lcm_as (a b x y : Int) (ha : inR a) (hb : inR b) (h : Hid (x = lcV a b ∧ y = lcE a b)) (w : World) :
    Calls Try.prog 28 #[.int .i64 a, .int .i64 b] w fun e w' => e = .returned (.tuple #[.int .i64 x, .int .i64 y]) ∧ Grew w w' :=
  (lcm_any a b ha hb w).mono fun _ _ ⟨k, l⟩ => ⟨k.trans (ret2 h.out.1.symm h.out.2.symm), l⟩
theorem gcd_parts {a b g : Int} (a0 : 0 < a) (b0 : 0 < b) (hg : g = Int.gcd a b) :
    a % g = 0 ∧ b % g = 0 ∧ (1 : Int) = Int.gcd (a / g) (b / g) ∧ (a / g * b) % a = 0 ∧ (a / g * b) % b = 0 ∧ (a / g * b) / a = b / g := by
  have hp : 0 < Int.gcd a b := by rw [Int.gcd_pos_iff]; omega
  have da : g ∣ a := by rw [hg]; exact Int.gcd_dvd_left a b
  have db : g ∣ b := by rw [hg]; exact Int.gcd_dvd_right a b
  have e : a / g * b = a * (b / g) := by
    obtain ⟨p, rfl⟩ := da
    obtain ⟨q, rfl⟩ := db
    have g0 : g ≠ 0 := by omega
    rw [Int.mul_ediv_cancel_left _ g0, Int.mul_ediv_cancel_left _ g0, Int.mul_left_comm, Int.mul_assoc]
  refine ⟨Int.emod_eq_zero_of_dvd da, Int.emod_eq_zero_of_dvd db, ?_, ?_, ?_, ?_⟩
  · rw [hg, Int.gcd_ediv_gcd_ediv_gcd (by exact hp)]; rfl
  · rw [e]; exact Int.mul_emod_right a _
  · exact Int.mul_emod_left _ b
  · rw [e]; exact Int.mul_ediv_cancel_left _ (by omega)
set_option maxHeartbeats 2000000 in
theorem walk (a0 : Int) (a1 : Int) (w0 : (Lit.int .i64 a0).wf = true) (w1 : (Lit.int .i64 a1).wf = true) (w : World) :
    Calls Try.prog 10 #[.int .i64 a0, .int .i64 a1] w fun e w' => e = .returned (.bool true) ∧ Grown w w' := by
  have h0 := inR_of w0
  have h1 := inR_of w1
  have h0' := h0
  have h1' := h1
  unfold inR at h0' h1'
  by_cases n0 : a0 < 0
  · have cL := Lib.hid (lc_bad (b := a1) (Or.inl n0))
    go_enter Try.func10, Try.ntmps10
    go_wp2_with (first | (go_at_call 15; refine (examples_any _).mono ?_; rintro e we ⟨rfl, hg⟩) | (go_at_call 27; refine (gcd_neg _ _ h0 h1 (Or.inl n0) _).mono ?_; rintro e w2 ⟨rfl, hg2⟩; have hg := hg.trans hg2) | (go_at_call 28; refine (lcm_as _ _ 0 1 h0 h1 cL _).mono ?_; rintro e w2 ⟨rfl, hg2⟩; have hg := hg.trans hg2))
    go_ret
    exact ⟨rfl, hg.grown⟩
  · by_cases n1 : a1 < 0
    · have cL := Lib.hid (lc_bad (a := a0) (Or.inr n1))
      go_enter Try.func10, Try.ntmps10
      go_wp2_with (first | (go_at_call 15; refine (examples_any _).mono ?_; rintro e we ⟨rfl, hg⟩) | (go_at_call 27; refine (gcd_neg _ _ h0 h1 (Or.inr n1) _).mono ?_; rintro e w2 ⟨rfl, hg2⟩; have hg := hg.trans hg2) | (go_at_call 28; refine (lcm_as _ _ 0 1 h0 h1 cL _).mono ?_; rintro e w2 ⟨rfl, hg2⟩; have hg := hg.trans hg2))
      go_ret
      exact ⟨rfl, hg.grown⟩
    · have p0 : 0 ≤ a0 := by omega
      have p1 : 0 ≤ a1 := by omega
      by_cases z0 : a0 = 0
      · subst z0
        have cL := Lib.hid (lc_zero p0 p1 (Or.inl rfl))
        have cG : Hid (a1 = Int.gcd 0 a1) := by show _ = _; rw [Int.gcd_zero_left]; omega
        go_enter Try.func10, Try.ntmps10
        go_wp2_with (first | (go_at_call 15; refine (examples_any _).mono ?_; rintro e we ⟨rfl, hg⟩) | (go_at_call 27; refine (gcd_pos _ _ a1 h0 h1 p0 p1 cG _).mono ?_; rintro e w2 ⟨rfl, hg2⟩; have hg := hg.trans hg2) | (go_at_call 28; refine (lcm_as _ _ 0 0 h0 h1 cL _).mono ?_; rintro e w2 ⟨rfl, hg2⟩; have hg := hg.trans hg2))
        go_ret
        exact ⟨by simp, hg.grown⟩
      · have z0' : (a0 == 0) = false := by simpa using z0
        by_cases z1 : a1 = 0
        · subst z1
          have cL := Lib.hid (lc_zero p0 p1 (Or.inr rfl))
          have cG : Hid (a0 = Int.gcd a0 0) := by show _ = _; rw [Int.gcd_zero_right]; omega
          clear z0
          go_enter Try.func10, Try.ntmps10
          go_wp2_with (first | (go_at_call 15; refine (examples_any _).mono ?_; rintro e we ⟨rfl, hg⟩) | (go_at_call 27; refine (gcd_pos _ _ a0 h0 h1 p0 p1 cG _).mono ?_; rintro e w2 ⟨rfl, hg2⟩; have hg := hg.trans hg2) | (go_at_call 28; refine (lcm_as _ _ 0 0 h0 h1 cL _).mono ?_; rintro e w2 ⟨rfl, hg2⟩; have hg := hg.trans hg2))
          go_ret
          exact ⟨by simp, hg.grown⟩
        · have z1' : (a1 == 0) = false := by simpa using z1
          obtain ⟨g, hg⟩ : ∃ g : Int, g = Int.gcd a0 a1 := ⟨_, rfl⟩
          have hgl := gcd_le h0 h1 p0 p1 (by omega)
          rw [← hg] at hgl
          obtain ⟨k1, k2, k3, k4, k5, k6⟩ := gcd_parts (by omega) (by omega) hg
          have m1 : (a0 % g != 0) = false := by simpa using k1
          have m2 : (a1 % g != 0) = false := by simpa using k2
          have q0 : 0 ≤ a0 / g := Int.ediv_nonneg p0 (by omega)
          have q1 : 0 ≤ a1 / g := Int.ediv_nonneg p1 (by omega)
          have q2 : a0 / g ≤ a0 := Int.ediv_le_self _ p0
          have q3 : a1 / g ≤ a1 := Int.ediv_le_self _ p1
          have r0 : inR (a0 / g) := by unfold inR; omega
          have r1 : inR (a1 / g) := by unfold inR; omega
          have cG := Lib.hid hg
          have cH := Lib.hid k3
          have hLg := lc_good p0 p1 hg
          by_cases hL : inR (a0 / g * a1)
          · obtain ⟨l, hl⟩ : ∃ l, l = a0 / g * a1 := ⟨_, rfl⟩
            rw [← hl] at hL hLg k4 k5 k6
            have cL : Hid (l = lcV a0 a1 ∧ 0 = lcE a0 a1) := ⟨(exV_in hL).symm.trans hLg.1, (exE_in hL).symm.trans hLg.2⟩
            have m3 : (l % a0 == 0) = true := by simpa using k4
            have m4 : (l % a1 == 0) = true := by simpa using k5
            have m5 : (l / a0 == a1 / g) = true := by simpa using k6
            have l0 : 0 ≤ l := by rw [hl]; exact Int.mul_nonneg q0 p1
            unfold inR at hL
            have o0 : 0 < a0 := by omega
            have f1 : l.tmod a0 = l % a0 := Int.tmod_eq_emod_of_nonneg l0
            have f2 : l.tmod a1 = l % a1 := Int.tmod_eq_emod_of_nonneg l0
            have f3 : IntKind.i64.wrap (l.tdiv a0) = l / a0 := IntWalk.i64_quo l a0 ⟨l0, hL.2, by omega⟩
            have o1 : 0 < a1 := by omega
            clear k1 k2 k3 k4 k5 k6 hLg hl hg z0 z1
            have e1 : IntKind.i64.wrap (a0.tdiv g) = a0 / g := IntWalk.i64_quo a0 g ⟨p0, h0'.2, hgl.1⟩
            have e2 : IntKind.i64.wrap (a1.tdiv g) = a1 / g := IntWalk.i64_quo a1 g ⟨p1, h1'.2, hgl.1⟩
            go_enter Try.func10, Try.ntmps10
            go_wp2_with (first | (go_at_call 15; refine (examples_any _).mono ?_; rintro e we ⟨rfl, hg⟩) | (go_at_call 27; ((with_reducible refine (gcd_pos a0 a1 g h0 h1 p0 p1 cG _).mono ?_); rintro e w2 ⟨rfl, hg2⟩; have hg := hg.trans hg2)) | (go_at_call 28; refine (lcm_as _ _ l 0 h0 h1 cL _).mono ?_; rintro e w2 ⟨rfl, hg2⟩; have hg := hg.trans hg2))
            go_quiet ((go_at_call 27; exact Calls.quiet_of (gcd_pos_dn _ _ 1 r0 r1 q0 q1 cH _)))
            go_wp2
            go_quiet (fail)
            go_wp2
            go_ret
            exact ⟨rfl, ((hg.drewN _).drewN _).grown⟩
          · have cL : Hid (0 = lcV a0 a1 ∧ 2 = lcE a0 a1) := ⟨(exV_out hL).symm.trans hLg.1, (exE_out hL).symm.trans hLg.2⟩
            clear k1 k2 k3 k4 k5 k6 hLg hg z0 z1 hL
            have e1 : IntKind.i64.wrap (a0.tdiv g) = a0 / g := IntWalk.i64_quo a0 g ⟨p0, h0'.2, hgl.1⟩
            have e2 : IntKind.i64.wrap (a1.tdiv g) = a1 / g := IntWalk.i64_quo a1 g ⟨p1, h1'.2, hgl.1⟩
            go_enter Try.func10, Try.ntmps10
            go_wp2_with (first | (go_at_call 15; refine (examples_any _).mono ?_; rintro e we ⟨rfl, hg⟩) | (go_at_call 27; ((with_reducible refine (gcd_pos a0 a1 g h0 h1 p0 p1 cG _).mono ?_); rintro e w2 ⟨rfl, hg2⟩; have hg := hg.trans hg2)) | (go_at_call 28; refine (lcm_as _ _ 0 2 h0 h1 cL _).mono ?_; rintro e w2 ⟨rfl, hg2⟩; have hg := hg.trans hg2))
            go_quiet ((go_at_call 27; exact Calls.quiet_of (gcd_pos_dn _ _ 1 r0 r1 q0 q1 cH _)))
            go_wp2
            go_ret
            exact ⟨rfl, (hg.drewN _).grown⟩
end Go.Proofs.Ytjonlpoiiffalaa.qarithGcd
