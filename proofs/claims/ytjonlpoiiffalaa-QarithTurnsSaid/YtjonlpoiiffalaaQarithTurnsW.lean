/- What is taken away the other way round is the same with another sign, but at the least number: QarithTurns returns true for every two numbers. No condition. (The walk.) -/
import Derived.Test.YtjonlpoiiffalaaRows
import Derived.WalkKit
import Derived.ProofKit
import Derived.OpenShut
import Derived.Test.YtjonlpoiiffalaaB2
namespace Go.Proofs.Ytjonlpoiiffalaa.qarithTurns
open Go.ChangeShapes Go.WideShapes Go.ChangeAt Go.RowKit
set_option linter.unusedVariables false
set_option maxHeartbeats 1000000 in
theorem walk (a0 : Int) (a1 : Int) (w0 : (Lit.int .i64 a0).wf = true) (w1 : (Lit.int .i64 a1).wf = true) (w : World) :
    Calls Try.prog 11 #[.int .i64 a0, .int .i64 a1] w fun e w' => e = .returned (.bool true) ∧ Grown w w' := by
  have h0 := inR_of w0
  have h1 := inR_of w1
  have h0' := h0
  have h1' := h1
  unfold inR at h0' h1'
  by_cases c1 : a0 - a1 < -9223372036854775808
  · go_enter Try.func11, Try.ntmps11
    go_wp2_with (first | (go_at_call 15; refine (examples_any _).mono ?_; rintro e we ⟨rfl, hg⟩) | (go_at_call 17; refine (sub_out _ _ ‹_› ‹_› (by unfold inR; omega) _).mono ?_; rintro e w' ⟨rfl, rfl⟩))
    go_ret
    exact ⟨rfl, hg.grown⟩
  · by_cases c2 : a0 - a1 = -9223372036854775808
    · have c3 : ((a0 - a1) == -9223372036854775808) = true := by simpa using c2
      have c4 : a0 - a1 ≤ -9223372036854775808 := by omega
      clear c2
      go_enter Try.func11, Try.ntmps11
      go_wp2_with (first | (go_at_call 15; refine (examples_any _).mono ?_; rintro e we ⟨rfl, hg⟩) | (go_at_call 17; ((with_reducible refine (sub_in a0 a1 ‹_› ‹_› (by unfold inR; omega) _).mono ?_); rintro e w' ⟨rfl, rfl⟩)) | (go_at_call 17; ((with_reducible refine (sub_out a1 a0 ‹_› ‹_› (by unfold inR; omega) _).mono ?_); rintro e w' ⟨rfl, rfl⟩)))
      go_ret
      exact ⟨rfl, hg.grown⟩
    · by_cases d1 : a0 - a1 < 9223372036854775808
      · have d2 : -9223372036854775807 ≤ a0 - a1 := by omega
        clear c2
        go_enter Try.func11, Try.ntmps11
        go_wp2_with (first | (go_at_call 15; refine (examples_any _).mono ?_; rintro e we ⟨rfl, hg⟩) | (go_at_call 17; ((with_reducible refine (sub_in _ _ ‹_› ‹_› (by unfold inR; omega) _).mono ?_); rintro e w' ⟨rfl, rfl⟩)))
        go_ret
        exact ⟨by simp; omega, hg.grown⟩
      · by_cases d2 : a0 - a1 = 9223372036854775808
        · have c3 : ((a1 - a0) == -9223372036854775808) = true := by simp; omega
          have c4 : a0 - a1 ≤ 9223372036854775808 := by omega
          clear c2 d2
          go_enter Try.func11, Try.ntmps11
          go_wp2_with (first | (go_at_call 15; refine (examples_any _).mono ?_; rintro e we ⟨rfl, hg⟩) | (go_at_call 17; ((with_reducible refine (sub_out a0 a1 ‹_› ‹_› (by unfold inR; omega) _).mono ?_); rintro e w' ⟨rfl, rfl⟩)) | (go_at_call 17; ((with_reducible refine (sub_in a1 a0 ‹_› ‹_› (by unfold inR; omega) _).mono ?_); rintro e w' ⟨rfl, rfl⟩)))
          go_ret
          exact ⟨rfl, hg.grown⟩
        · have d3 : 9223372036854775809 ≤ a0 - a1 := by omega
          clear c2 d2
          go_enter Try.func11, Try.ntmps11
          go_wp2_with (first | (go_at_call 15; refine (examples_any _).mono ?_; rintro e we ⟨rfl, hg⟩) | (go_at_call 17; refine (sub_out _ _ ‹_› ‹_› (by unfold inR; omega) _).mono ?_; rintro e w' ⟨rfl, rfl⟩))
          go_ret
          exact ⟨rfl, hg.grown⟩
end Go.Proofs.Ytjonlpoiiffalaa.qarithTurns
