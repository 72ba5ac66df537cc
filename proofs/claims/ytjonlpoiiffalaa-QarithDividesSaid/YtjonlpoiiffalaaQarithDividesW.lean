/- Any numbers are divided, rounded up or down, also products that are no numbers of 64 bits, as the chapter says, or refused: QarithDivides returns true for every three numbers, rounded up or down. No condition. (The walk.) -/
import Derived.Test.YtjonlpoiiffalaaRows
import Derived.WalkKit
import Derived.ProofKit
import Derived.OpenShut
import Derived.Test.YtjonlpoiiffalaaC8
namespace Go.Proofs.Ytjonlpoiiffalaa.qarithDivides
open Go.ChangeShapes Go.WideShapes Go.ChangeAt Go.RowKit
set_option linter.unusedVariables false
set_option maxHeartbeats 1000000 in
theorem walk (a0 : Int) (a1 : Int) (a2 : Int) (a3 : Bool) (w0 : (Lit.int .i64 a0).wf = true) (w1 : (Lit.int .i64 a1).wf = true) (w2 : (Lit.int .i64 a2).wf = true) (w : World) :
    Calls Try.prog 4 #[.int .i64 a0, .int .i64 a1, .int .i64 a2, .bool a3] w fun e w' => e = .returned (.bool true) ∧ Grown w w' := by
  have h0 := inR_of w0
  have h1 := inR_of w1
  have h2 := inR_of w2
  go_enter Try.func4, Try.ntmps4
  go_wp2_with (first | (go_at_call 15; refine (examples_any _).mono ?_; rintro e we ⟨rfl, hg⟩) | (go_at_call 23; refine (ceildiv_any _ _ ‹_› ‹_› _).mono ?_; rintro e w' ⟨rfl, rfl⟩) | (go_at_call 24; refine (muldiv_any _ _ _ _ ‹_› ‹_› ‹_› _).mono ?_; rintro e w2 ⟨rfl, hg2⟩; have hg := hg.trans hg2) | (go_at_call 25; refine (rceildiv_any _ _ ‹_› ‹_› _).mono ?_; rintro e w' ⟨rfl, rfl⟩) | (go_at_call 26; refine (rmuldiv_any _ _ _ _ ‹_› ‹_› ‹_› _).mono ?_; rintro e w' ⟨rfl, rfl⟩) | (go_at_call 22; refine (told_same _ _ _).mono ?_; rintro e w' ⟨rfl, rfl⟩))
  go_ret
  exact ⟨rfl, hg.grown⟩
end Go.Proofs.Ytjonlpoiiffalaa.qarithDivides
