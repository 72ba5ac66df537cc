/- What was added is taken away, and what was taken away added; a sum is the same either way round, and so is a product: QarithBack returns true for every two numbers. No condition. (The walk.) -/
import Derived.Test.YtjonlpoiiffalaaRows
import Derived.WalkKit
import Derived.ProofKit
import Derived.OpenShut
import Derived.Test.YtjonlpoiiffalaaB2
namespace Go.Proofs.Ytjonlpoiiffalaa.qarithBack
open Go.ChangeShapes Go.WideShapes Go.ChangeAt Go.RowKit
set_option linter.unusedVariables false
set_option maxHeartbeats 2000000 in
theorem walk (a0 : Int) (a1 : Int) (w0 : (Lit.int .i64 a0).wf = true) (w1 : (Lit.int .i64 a1).wf = true) (w : World) :
    Calls Try.prog 7 #[.int .i64 a0, .int .i64 a1] w fun e w' => e = .returned (.bool true) ∧ Grown w w' := by
  have h0 := inR_of w0
  have h1 := inR_of w1
  have h0' := h0
  have h1' := h1
  unfold inR at h0' h1'
  by_cases hs : inR (a0 + a1)
  · have cA := Lib.hid (fun w => add_in a0 a1 h0 h1 hs w)
    have cB : Hid (∀ w, Calls Try.prog 16 #[.int .i64 a1, .int .i64 a0] w fun e w' => e = .returned (.tuple #[.int .i64 (a0 + a1), .int .i64 0]) ∧ w = w') := by
      show ∀ w, _
      intro w; rw [Int.add_comm a0 a1]; exact add_in a1 a0 h1 h0 (by rw [Int.add_comm]; exact hs) w
    have cS : Hid (∀ w, Calls Try.prog 17 #[.int .i64 (a0 + a1), .int .i64 a1] w fun e w' => e = .returned (.tuple #[.int .i64 a0, .int .i64 0]) ∧ w = w') := by
      show ∀ w, _
      intro w
      have c := sub_in (a0 + a1) a1 hs h1 (by rw [show a0 + a1 - a1 = a0 by omega]; exact h0) w
      rw [show a0 + a1 - a1 = a0 by omega] at c; exact c
    clear hs
    by_cases hp : inR (a0 * a1)
    · obtain ⟨P, hP⟩ : ∃ P, P = a0 * a1 := ⟨_, rfl⟩
      have cM : Hid (∀ w, Calls Try.prog 18 #[.int .i64 a0, .int .i64 a1] w fun e w' => e = .returned (.tuple #[.int .i64 P, .int .i64 0]) ∧ Grew w w') := by
        show ∀ w, _
        intro w; rw [hP]; exact mul_in a0 a1 h0 h1 hp w
      have cN : Hid (∀ w, Calls Try.prog 18 #[.int .i64 a1, .int .i64 a0] w fun e w' => e = .returned (.tuple #[.int .i64 P, .int .i64 0]) ∧ Grew w w') := by
        show ∀ w, _
        intro w; rw [hP, Int.mul_comm a0 a1]; exact mul_in a1 a0 h1 h0 (by rw [Int.mul_comm]; exact hp) w
      have hPr : inR P := by rw [hP]; exact hp
      unfold inR at hPr
      by_cases hz : a1 = 0
      · have hz' : (a1 != 0) = false := by simpa using hz
        clear hz hp hP
        go_enter Try.func7, Try.ntmps7
        go_wp2_with (first | (go_at_call 15; refine (examples_any _).mono ?_; rintro e we ⟨rfl, hg⟩) | (go_at_call 16; ((with_reducible refine (cA.out _).mono ?_); rintro e w' ⟨rfl, rfl⟩)) | (go_at_call 16; ((with_reducible refine (cB.out _).mono ?_); rintro e w' ⟨rfl, rfl⟩)) | (go_at_call 18; ((with_reducible refine (cM.out _).mono ?_); rintro e w2 ⟨rfl, hg2⟩; have hg := hg.trans hg2)) | (go_at_call 18; ((with_reducible refine (cN.out _).mono ?_); rintro e w2 ⟨rfl, hg2⟩; have hg := hg.trans hg2)) | (go_at_call 17; ((with_reducible refine (cS.out _).mono ?_); rintro e w' ⟨rfl, rfl⟩)))
        go_ret
        exact ⟨rfl, hg.grown⟩
      · have hz' : (a1 != 0) = true := by simpa using hz
        have q1 : P.tdiv a1 = a0 := by rw [hP]; exact quo_eq hz
        have q2 : P.tmod a1 = 0 := by rw [hP]; exact Int.mul_tmod_left a0 a1
        clear hp hP
        go_enter Try.func7, Try.ntmps7
        go_wp2_with (first | (go_at_call 15; refine (examples_any _).mono ?_; rintro e we ⟨rfl, hg⟩) | (go_at_call 16; ((with_reducible refine (cA.out _).mono ?_); rintro e w' ⟨rfl, rfl⟩)) | (go_at_call 16; ((with_reducible refine (cB.out _).mono ?_); rintro e w' ⟨rfl, rfl⟩)) | (go_at_call 18; ((with_reducible refine (cM.out _).mono ?_); rintro e w2 ⟨rfl, hg2⟩; have hg := hg.trans hg2)) | (go_at_call 18; ((with_reducible refine (cN.out _).mono ?_); rintro e w2 ⟨rfl, hg2⟩; have hg := hg.trans hg2)) | (go_at_call 17; ((with_reducible refine (cS.out _).mono ?_); rintro e w' ⟨rfl, rfl⟩)))
        go_ret
        exact ⟨rfl, hg.grown⟩
    · have cM := Lib.hid (fun w => mul_out a0 a1 h0 h1 hp w)
      have cN := Lib.hid (fun w => mul_out a1 a0 h1 h0 (by rw [Int.mul_comm]; exact hp) w)
      clear hp
      go_enter Try.func7, Try.ntmps7
      go_wp2_with (first | (go_at_call 15; refine (examples_any _).mono ?_; rintro e we ⟨rfl, hg⟩) | (go_at_call 16; ((with_reducible refine (cA.out _).mono ?_); rintro e w' ⟨rfl, rfl⟩)) | (go_at_call 16; ((with_reducible refine (cB.out _).mono ?_); rintro e w' ⟨rfl, rfl⟩)) | (go_at_call 18; ((with_reducible refine (cM.out _).mono ?_); rintro e w2 ⟨rfl, hg2⟩; have hg := hg.trans hg2)) | (go_at_call 18; ((with_reducible refine (cN.out _).mono ?_); rintro e w2 ⟨rfl, hg2⟩; have hg := hg.trans hg2)) | (go_at_call 17; ((with_reducible refine (cS.out _).mono ?_); rintro e w' ⟨rfl, rfl⟩)))
      go_ret
      exact ⟨rfl, hg.grown⟩
  · have cA := Lib.hid (fun w => add_out a0 a1 h0 h1 hs w)
    have cB := Lib.hid (fun w => add_out a1 a0 h1 h0 (by rw [Int.add_comm]; exact hs) w)
    by_cases hpos : 0 < a0
    · have p1 : decide (0 < a0) = true := by simpa using hpos
      have p2 : decide (0 < a1) = true := by unfold inR at hs; simp; omega
      clear hs
      by_cases hp : inR (a0 * a1)
      · obtain ⟨P, hP⟩ : ∃ P, P = a0 * a1 := ⟨_, rfl⟩
        have cM : Hid (∀ w, Calls Try.prog 18 #[.int .i64 a0, .int .i64 a1] w fun e w' => e = .returned (.tuple #[.int .i64 P, .int .i64 0]) ∧ Grew w w') := by
          show ∀ w, _
          intro w; rw [hP]; exact mul_in a0 a1 h0 h1 hp w
        have cN : Hid (∀ w, Calls Try.prog 18 #[.int .i64 a1, .int .i64 a0] w fun e w' => e = .returned (.tuple #[.int .i64 P, .int .i64 0]) ∧ Grew w w') := by
          show ∀ w, _
          intro w; rw [hP, Int.mul_comm a0 a1]; exact mul_in a1 a0 h1 h0 (by rw [Int.mul_comm]; exact hp) w
        have hPr : inR P := by rw [hP]; exact hp
        unfold inR at hPr
        by_cases hz : a1 = 0
        · have hz' : (a1 != 0) = false := by simpa using hz
          clear hz hp hP
          go_enter Try.func7, Try.ntmps7
          go_wp2_with (first | (go_at_call 15; refine (examples_any _).mono ?_; rintro e we ⟨rfl, hg⟩) | (go_at_call 16; ((with_reducible refine (cA.out _).mono ?_); rintro e w' ⟨rfl, rfl⟩)) | (go_at_call 16; ((with_reducible refine (cB.out _).mono ?_); rintro e w' ⟨rfl, rfl⟩)) | (go_at_call 18; ((with_reducible refine (cM.out _).mono ?_); rintro e w2 ⟨rfl, hg2⟩; have hg := hg.trans hg2)) | (go_at_call 18; ((with_reducible refine (cN.out _).mono ?_); rintro e w2 ⟨rfl, hg2⟩; have hg := hg.trans hg2)))
          go_ret
          exact ⟨rfl, hg.grown⟩
        · have hz' : (a1 != 0) = true := by simpa using hz
          have q1 : P.tdiv a1 = a0 := by rw [hP]; exact quo_eq hz
          have q2 : P.tmod a1 = 0 := by rw [hP]; exact Int.mul_tmod_left a0 a1
          clear hp hP
          go_enter Try.func7, Try.ntmps7
          go_wp2_with (first | (go_at_call 15; refine (examples_any _).mono ?_; rintro e we ⟨rfl, hg⟩) | (go_at_call 16; ((with_reducible refine (cA.out _).mono ?_); rintro e w' ⟨rfl, rfl⟩)) | (go_at_call 16; ((with_reducible refine (cB.out _).mono ?_); rintro e w' ⟨rfl, rfl⟩)) | (go_at_call 18; ((with_reducible refine (cM.out _).mono ?_); rintro e w2 ⟨rfl, hg2⟩; have hg := hg.trans hg2)) | (go_at_call 18; ((with_reducible refine (cN.out _).mono ?_); rintro e w2 ⟨rfl, hg2⟩; have hg := hg.trans hg2)))
          go_ret
          exact ⟨rfl, hg.grown⟩
      · have cM := Lib.hid (fun w => mul_out a0 a1 h0 h1 hp w)
        have cN := Lib.hid (fun w => mul_out a1 a0 h1 h0 (by rw [Int.mul_comm]; exact hp) w)
        clear hp
        go_enter Try.func7, Try.ntmps7
        go_wp2_with (first | (go_at_call 15; refine (examples_any _).mono ?_; rintro e we ⟨rfl, hg⟩) | (go_at_call 16; ((with_reducible refine (cA.out _).mono ?_); rintro e w' ⟨rfl, rfl⟩)) | (go_at_call 16; ((with_reducible refine (cB.out _).mono ?_); rintro e w' ⟨rfl, rfl⟩)) | (go_at_call 18; ((with_reducible refine (cM.out _).mono ?_); rintro e w2 ⟨rfl, hg2⟩; have hg := hg.trans hg2)) | (go_at_call 18; ((with_reducible refine (cN.out _).mono ?_); rintro e w2 ⟨rfl, hg2⟩; have hg := hg.trans hg2)))
        go_ret
        exact ⟨rfl, hg.grown⟩
    · have p1 : decide (0 < a0) = false := by simpa using hpos
      have p2 : decide (0 < a1) = false := by unfold inR at hs; simp; omega
      clear hs
      by_cases hp : inR (a0 * a1)
      · obtain ⟨P, hP⟩ : ∃ P, P = a0 * a1 := ⟨_, rfl⟩
        have cM : Hid (∀ w, Calls Try.prog 18 #[.int .i64 a0, .int .i64 a1] w fun e w' => e = .returned (.tuple #[.int .i64 P, .int .i64 0]) ∧ Grew w w') := by
          show ∀ w, _
          intro w; rw [hP]; exact mul_in a0 a1 h0 h1 hp w
        have cN : Hid (∀ w, Calls Try.prog 18 #[.int .i64 a1, .int .i64 a0] w fun e w' => e = .returned (.tuple #[.int .i64 P, .int .i64 0]) ∧ Grew w w') := by
          show ∀ w, _
          intro w; rw [hP, Int.mul_comm a0 a1]; exact mul_in a1 a0 h1 h0 (by rw [Int.mul_comm]; exact hp) w
        have hPr : inR P := by rw [hP]; exact hp
        unfold inR at hPr
        by_cases hz : a1 = 0
        · have hz' : (a1 != 0) = false := by simpa using hz
          clear hz hp hP
          go_enter Try.func7, Try.ntmps7
          go_wp2_with (first | (go_at_call 15; refine (examples_any _).mono ?_; rintro e we ⟨rfl, hg⟩) | (go_at_call 16; ((with_reducible refine (cA.out _).mono ?_); rintro e w' ⟨rfl, rfl⟩)) | (go_at_call 16; ((with_reducible refine (cB.out _).mono ?_); rintro e w' ⟨rfl, rfl⟩)) | (go_at_call 18; ((with_reducible refine (cM.out _).mono ?_); rintro e w2 ⟨rfl, hg2⟩; have hg := hg.trans hg2)) | (go_at_call 18; ((with_reducible refine (cN.out _).mono ?_); rintro e w2 ⟨rfl, hg2⟩; have hg := hg.trans hg2)))
          go_ret
          exact ⟨rfl, hg.grown⟩
        · have hz' : (a1 != 0) = true := by simpa using hz
          have q1 : P.tdiv a1 = a0 := by rw [hP]; exact quo_eq hz
          have q2 : P.tmod a1 = 0 := by rw [hP]; exact Int.mul_tmod_left a0 a1
          clear hp hP
          go_enter Try.func7, Try.ntmps7
          go_wp2_with (first | (go_at_call 15; refine (examples_any _).mono ?_; rintro e we ⟨rfl, hg⟩) | (go_at_call 16; ((with_reducible refine (cA.out _).mono ?_); rintro e w' ⟨rfl, rfl⟩)) | (go_at_call 16; ((with_reducible refine (cB.out _).mono ?_); rintro e w' ⟨rfl, rfl⟩)) | (go_at_call 18; ((with_reducible refine (cM.out _).mono ?_); rintro e w2 ⟨rfl, hg2⟩; have hg := hg.trans hg2)) | (go_at_call 18; ((with_reducible refine (cN.out _).mono ?_); rintro e w2 ⟨rfl, hg2⟩; have hg := hg.trans hg2)))
          go_ret
          exact ⟨rfl, hg.grown⟩
      · have cM := Lib.hid (fun w => mul_out a0 a1 h0 h1 hp w)
        have cN := Lib.hid (fun w => mul_out a1 a0 h1 h0 (by rw [Int.mul_comm]; exact hp) w)
        clear hp
        go_enter Try.func7, Try.ntmps7
        go_wp2_with (first | (go_at_call 15; refine (examples_any _).mono ?_; rintro e we ⟨rfl, hg⟩) | (go_at_call 16; ((with_reducible refine (cA.out _).mono ?_); rintro e w' ⟨rfl, rfl⟩)) | (go_at_call 16; ((with_reducible refine (cB.out _).mono ?_); rintro e w' ⟨rfl, rfl⟩)) | (go_at_call 18; ((with_reducible refine (cM.out _).mono ?_); rintro e w2 ⟨rfl, hg2⟩; have hg := hg.trans hg2)) | (go_at_call 18; ((with_reducible refine (cN.out _).mono ?_); rintro e w2 ⟨rfl, hg2⟩; have hg := hg.trans hg2)))
        go_ret
        exact ⟨rfl, hg.grown⟩
end Go.Proofs.Ytjonlpoiiffalaa.qarithBack
