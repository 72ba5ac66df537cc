/- With nought and one all calls tell what they must: QarithNoughts returns true for every number. No condition. (The walk.) -/
import Derived.Test.YtjonlpoiiffalaaRows
import Derived.WalkKit
import Derived.ProofKit
import Derived.OpenShut
import Derived.Test.YtjonlpoiiffalaaB3
namespace Go.Proofs.Ytjonlpoiiffalaa.qarithNoughts
open Go.ChangeShapes Go.WideShapes Go.ChangeAt Go.RowKit
set_option linter.unusedVariables false
set_option maxHeartbeats 2000000 in
theorem walk (a0 : Int) (w0 : (Lit.int .i64 a0).wf = true) (w : World) :
    Calls Try.prog 14 #[.int .i64 a0] w fun e w' => e = .returned (.bool true) ∧ Grown w w' := by
  have h0 := inR_of w0
  have h0' := h0
  unfold inR at h0'
  have hz : inR 0 := by decide
  have h1 : inR 1 := by decide
  have cA : Hid (∀ w, Calls Try.prog 16 #[.int .i64 a0, .int .i64 0] w fun e w' => e = .returned (.tuple #[.int .i64 a0, .int .i64 0]) ∧ w = w') := by
    show ∀ w, _
    intro w; have c := add_in a0 0 h0 hz (by simpa using h0) w; simpa using c
  have cM : Hid (∀ w, Calls Try.prog 18 #[.int .i64 a0, .int .i64 1] w fun e w' => e = .returned (.tuple #[.int .i64 a0, .int .i64 0]) ∧ Grew w w') := by
    show ∀ w, _
    intro w; have c := mul_in a0 1 h0 h1 (by simpa using h0) w; simpa using c
  have cN : Hid (∀ w, Calls Try.prog 18 #[.int .i64 0, .int .i64 a0] w fun e w' => e = .returned (.tuple #[.int .i64 0, .int .i64 0]) ∧ Grew w w') := by
    show ∀ w, _
    intro w; have c := mul_in 0 a0 hz h0 (by simpa using hz) w; simpa using c
  by_cases n0 : a0 < 0
  · have cL := Lib.hid (lc_bad (b := 1) (Or.inl n0))
    have cC := Lib.hid (cd_bad (b := 1) (Or.inl n0))
    go_enter Try.func14, Try.ntmps14
    go_wp2_with (first | (go_at_call 15; refine (examples_any _).mono ?_; rintro e we ⟨rfl, hg⟩) | (go_at_call 16; ((with_reducible refine (cA.out _).mono ?_); rintro e w' ⟨rfl, rfl⟩)) | (go_at_call 18; ((with_reducible refine (cM.out _).mono ?_); rintro e w2 ⟨rfl, hg2⟩; have hg := hg.trans hg2)) | (go_at_call 18; ((with_reducible refine (cN.out _).mono ?_); rintro e w2 ⟨rfl, hg2⟩; have hg := hg.trans hg2)) | (go_at_call 27; refine (gcd_neg _ _ h0 hz (Or.inl n0) _).mono ?_; rintro e w2 ⟨rfl, hg2⟩; have hg := hg.trans hg2) | (go_at_call 28; refine (lc_as _ _ 0 1 h0 h1 cL _).mono ?_; rintro e w2 ⟨rfl, hg2⟩; have hg := hg.trans hg2) | (go_at_call 23; refine (cd_as _ _ 0 1 h0 h1 cC _).mono ?_; rintro e w' ⟨rfl, rfl⟩))
    go_ret
    exact ⟨rfl, hg.grown⟩
  · have p0 : 0 ≤ a0 := by omega
    have cG : Hid (a0 = Int.gcd a0 0) := by show _ = _; rw [Int.gcd_zero_right]; omega
    have cC : Hid (a0 = cdV a0 1 ∧ 0 = cdE a0 1) := by
      have := cd_zero (b := 1) p0 (by omega) (by omega)
      rw [Int.ediv_one] at this; exact this
    have cL : Hid (a0 = lcV a0 1 ∧ 0 = lcE a0 1) := by
      have := lc_good (b := 1) p0 (by omega) rfl
      rw [show (Int.gcd a0 1 : Int) = 1 by simp, Int.ediv_one, Int.mul_one, exV_in h0, exE_in h0] at this; exact this
    by_cases z0 : a0 = 0
    · have z0' : (a0 == 0) = true := by simpa using z0
      have cK : Hid (0 = cmV 0 1 a0 1 ∧ 0 = cmE 0 1 a0 1) := by rw [z0]; exact ⟨by decide, by decide⟩
      clear z0
      go_enter Try.func14, Try.ntmps14
      go_wp2_with (first | (go_at_call 15; refine (examples_any _).mono ?_; rintro e we ⟨rfl, hg⟩) | (go_at_call 16; ((with_reducible refine (cA.out _).mono ?_); rintro e w' ⟨rfl, rfl⟩)) | (go_at_call 18; ((with_reducible refine (cM.out _).mono ?_); rintro e w2 ⟨rfl, hg2⟩; have hg := hg.trans hg2)) | (go_at_call 18; ((with_reducible refine (cN.out _).mono ?_); rintro e w2 ⟨rfl, hg2⟩; have hg := hg.trans hg2)) | (go_at_call 27; refine (gcd_pos _ _ a0 h0 hz p0 (by omega) cG _).mono ?_; rintro e w2 ⟨rfl, hg2⟩; have hg := hg.trans hg2) | (go_at_call 28; refine (lc_as _ _ a0 0 h0 h1 cL _).mono ?_; rintro e w2 ⟨rfl, hg2⟩; have hg := hg.trans hg2) | (go_at_call 23; refine (cd_as _ _ a0 0 h0 h1 cC _).mono ?_; rintro e w' ⟨rfl, rfl⟩) | (go_at_call 29; refine (cm_as _ _ _ _ 0 0 hz h1 h0 h1 cK _).mono ?_; rintro e w2 ⟨rfl, hg2⟩; have hg := hg.trans hg2))
      go_ret
      exact ⟨rfl, hg.grown⟩
    · have z0' : (a0 == 0) = false := by simpa using z0
      have cK : Hid (-1 = cmV 0 1 a0 1 ∧ 0 = cmE 0 1 a0 1) := by
        have := cm_good (a := 0) (b := 1) (c := a0) (d := 1) (by omega) (by omega) p0 (by omega)
        rw [sgn_lt (by omega)] at this; exact this
      clear z0
      go_enter Try.func14, Try.ntmps14
      go_wp2_with (first | (go_at_call 15; refine (examples_any _).mono ?_; rintro e we ⟨rfl, hg⟩) | (go_at_call 16; ((with_reducible refine (cA.out _).mono ?_); rintro e w' ⟨rfl, rfl⟩)) | (go_at_call 18; ((with_reducible refine (cM.out _).mono ?_); rintro e w2 ⟨rfl, hg2⟩; have hg := hg.trans hg2)) | (go_at_call 18; ((with_reducible refine (cN.out _).mono ?_); rintro e w2 ⟨rfl, hg2⟩; have hg := hg.trans hg2)) | (go_at_call 27; refine (gcd_pos _ _ a0 h0 hz p0 (by omega) cG _).mono ?_; rintro e w2 ⟨rfl, hg2⟩; have hg := hg.trans hg2) | (go_at_call 28; refine (lc_as _ _ a0 0 h0 h1 cL _).mono ?_; rintro e w2 ⟨rfl, hg2⟩; have hg := hg.trans hg2) | (go_at_call 23; refine (cd_as _ _ a0 0 h0 h1 cC _).mono ?_; rintro e w' ⟨rfl, rfl⟩) | (go_at_call 29; refine (cm_as _ _ _ _ (-1) 0 hz h1 h0 h1 cK _).mono ?_; rintro e w2 ⟨rfl, hg2⟩; have hg := hg.trans hg2))
      go_ret
      exact ⟨rfl, hg.grown⟩
end Go.Proofs.Ytjonlpoiiffalaa.qarithNoughts
