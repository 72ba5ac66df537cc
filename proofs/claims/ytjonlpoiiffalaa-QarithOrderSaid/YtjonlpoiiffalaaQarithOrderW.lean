/- Of two fractions one is less, or they are the same, either way round, and what is cut short by a number that divides both stays the same: QarithOrder returns true for every five numbers. No condition. (The walk.) -/
import Derived.Test.YtjonlpoiiffalaaRows
import Derived.WalkKit
import Derived.ProofKit
import Derived.OpenShut
import Derived.Test.YtjonlpoiiffalaaB3
namespace Go.Proofs.Ytjonlpoiiffalaa.qarithOrder
open Go.ChangeShapes Go.WideShapes Go.ChangeAt Go.RowKit
set_option linter.unusedVariables false
theorem cm_same {a b k : Int} (a0 : 0 ≤ a) (b0 : 0 < b) (k0 : 0 < k) : 0 = cmV (a * k) (b * k) a b ∧ 0 = cmE (a * k) (b * k) a b := by
  have h := cm_good (a := a * k) (b := b * k) (c := a) (d := b) (Int.mul_nonneg a0 (by omega)) (Int.mul_pos b0 k0) a0 b0
  rw [sgn_eq (by rw [Int.mul_assoc, Int.mul_comm k b])] at h
  exact h
set_option maxHeartbeats 2000000 in
theorem walk (a0 : Int) (a1 : Int) (a2 : Int) (a3 : Int) (a4 : Int) (w0 : (Lit.int .i64 a0).wf = true) (w1 : (Lit.int .i64 a1).wf = true) (w2 : (Lit.int .i64 a2).wf = true) (w3 : (Lit.int .i64 a3).wf = true) (w4 : (Lit.int .i64 a4).wf = true) (w : World) :
    Calls Try.prog 9 #[.int .i64 a0, .int .i64 a1, .int .i64 a2, .int .i64 a3, .int .i64 a4] w fun e w' => e = .returned (.bool true) ∧ Grown w w' := by
  have h0 := inR_of w0
  have h1 := inR_of w1
  have h2 := inR_of w2
  have h3 := inR_of w3
  have h4 := inR_of w4
  by_cases bad : a0 < 0 ∨ a1 ≤ 0 ∨ a2 < 0 ∨ a3 ≤ 0
  · have cX := Lib.hid (cm_bad bad)
    have cY := Lib.hid (cm_bad (a := a2) (b := a3) (c := a0) (d := a1) (by omega))
    clear bad
    go_enter Try.func9, Try.ntmps9
    go_wp2_with (first | (go_at_call 15; refine (examples_any _).mono ?_; rintro e we ⟨rfl, hg⟩) | (go_at_call 29; ((with_reducible refine (cm_as a0 a1 a2 a3 0 1 h0 h1 h2 h3 cX _).mono ?_); rintro e w2 ⟨rfl, hg2⟩; have hg := hg.trans hg2)) | (go_at_call 29; ((with_reducible refine (cm_as a2 a3 a0 a1 0 1 h2 h3 h0 h1 cY _).mono ?_); rintro e w2 ⟨rfl, hg2⟩; have hg := hg.trans hg2)))
    go_ret
    exact ⟨rfl, hg.grown⟩
  · have p0 : 0 ≤ a0 := by omega
    have p1 : 0 < a1 := by omega
    have p2 : 0 ≤ a2 := by omega
    have p3 : 0 < a3 := by omega
    clear bad
    have gX := cm_good p0 p1 p2 p3
    have gY := cm_good p2 p3 p0 p1
    rcases Int.lt_trichotomy (a0 * a3) (a2 * a1) with hc | hc | hc
    · rw [sgn_lt hc] at gX
      rw [sgn_gt hc] at gY
      have cX := Lib.hid gX
      have cY := Lib.hid gY
      clear gX gY hc
      by_cases im : inR (a0 * a4)
      · by_cases iN : inR (a1 * a4)
        · by_cases k0 : 0 < a4
          · have cZ := Lib.hid (cm_same (k := a4) p0 p1 k0)
            go_enter Try.func9, Try.ntmps9
            go_wp2_with (first | (go_at_call 15; refine (examples_any _).mono ?_; rintro e we ⟨rfl, hg⟩) | (go_at_call 29; ((with_reducible refine (cm_as a0 a1 a2 a3 (-1) 0 h0 h1 h2 h3 cX _).mono ?_); rintro e w2 ⟨rfl, hg2⟩; have hg := hg.trans hg2)) | (go_at_call 29; ((with_reducible refine (cm_as a2 a3 a0 a1 1 0 h2 h3 h0 h1 cY _).mono ?_); rintro e w2 ⟨rfl, hg2⟩; have hg := hg.trans hg2)) | (go_at_call 18; ((with_reducible refine (mul_in a0 a4 h0 h4 im _).mono ?_); rintro e w2 ⟨rfl, hg2⟩; have hg := hg.trans hg2)) | (go_at_call 18; ((with_reducible refine (mul_in a1 a4 h1 h4 iN _).mono ?_); rintro e w2 ⟨rfl, hg2⟩; have hg := hg.trans hg2)) | (go_at_call 29; ((with_reducible refine (cm_as (a0 * a4) (a1 * a4) a0 a1 0 0 im iN h0 h1 cZ _).mono ?_); rintro e w2 ⟨rfl, hg2⟩; have hg := hg.trans hg2)))
            go_ret
            exact ⟨rfl, hg.grown⟩
          · go_enter Try.func9, Try.ntmps9
            go_wp2_with (first | (go_at_call 15; refine (examples_any _).mono ?_; rintro e we ⟨rfl, hg⟩) | (go_at_call 29; ((with_reducible refine (cm_as a0 a1 a2 a3 (-1) 0 h0 h1 h2 h3 cX _).mono ?_); rintro e w2 ⟨rfl, hg2⟩; have hg := hg.trans hg2)) | (go_at_call 29; ((with_reducible refine (cm_as a2 a3 a0 a1 1 0 h2 h3 h0 h1 cY _).mono ?_); rintro e w2 ⟨rfl, hg2⟩; have hg := hg.trans hg2)) | (go_at_call 18; ((with_reducible refine (mul_in a0 a4 h0 h4 im _).mono ?_); rintro e w2 ⟨rfl, hg2⟩; have hg := hg.trans hg2)) | (go_at_call 18; ((with_reducible refine (mul_in a1 a4 h1 h4 iN _).mono ?_); rintro e w2 ⟨rfl, hg2⟩; have hg := hg.trans hg2)))
            go_ret
            exact ⟨rfl, hg.grown⟩
        · go_enter Try.func9, Try.ntmps9
          go_wp2_with (first | (go_at_call 15; refine (examples_any _).mono ?_; rintro e we ⟨rfl, hg⟩) | (go_at_call 29; ((with_reducible refine (cm_as a0 a1 a2 a3 (-1) 0 h0 h1 h2 h3 cX _).mono ?_); rintro e w2 ⟨rfl, hg2⟩; have hg := hg.trans hg2)) | (go_at_call 29; ((with_reducible refine (cm_as a2 a3 a0 a1 1 0 h2 h3 h0 h1 cY _).mono ?_); rintro e w2 ⟨rfl, hg2⟩; have hg := hg.trans hg2)) | (go_at_call 18; ((with_reducible refine (mul_in a0 a4 h0 h4 im _).mono ?_); rintro e w2 ⟨rfl, hg2⟩; have hg := hg.trans hg2)) | (go_at_call 18; ((with_reducible refine (mul_out a1 a4 h1 h4 iN _).mono ?_); rintro e w2 ⟨rfl, hg2⟩; have hg := hg.trans hg2)))
          go_ret
          exact ⟨rfl, hg.grown⟩
      · go_enter Try.func9, Try.ntmps9
        go_wp2_with (first | (go_at_call 15; refine (examples_any _).mono ?_; rintro e we ⟨rfl, hg⟩) | (go_at_call 29; ((with_reducible refine (cm_as a0 a1 a2 a3 (-1) 0 h0 h1 h2 h3 cX _).mono ?_); rintro e w2 ⟨rfl, hg2⟩; have hg := hg.trans hg2)) | (go_at_call 29; ((with_reducible refine (cm_as a2 a3 a0 a1 1 0 h2 h3 h0 h1 cY _).mono ?_); rintro e w2 ⟨rfl, hg2⟩; have hg := hg.trans hg2)) | (go_at_call 18; ((with_reducible refine (mul_out a0 a4 h0 h4 im _).mono ?_); rintro e w2 ⟨rfl, hg2⟩; have hg := hg.trans hg2)) | (go_at_call 18; ((with_reducible refine (mul_any a1 a4 h1 h4 _).mono ?_); rintro e w2 ⟨rfl, hg2⟩; have hg := hg.trans hg2)))
        go_ret
        exact ⟨rfl, hg.grown⟩
    · rw [sgn_eq hc] at gX
      rw [sgn_eq hc.symm] at gY
      have cX := Lib.hid gX
      have cY := Lib.hid gY
      clear gX gY hc
      by_cases im : inR (a0 * a4)
      · by_cases iN : inR (a1 * a4)
        · by_cases k0 : 0 < a4
          · have cZ := Lib.hid (cm_same (k := a4) p0 p1 k0)
            go_enter Try.func9, Try.ntmps9
            go_wp2_with (first | (go_at_call 15; refine (examples_any _).mono ?_; rintro e we ⟨rfl, hg⟩) | (go_at_call 29; ((with_reducible refine (cm_as a0 a1 a2 a3 0 0 h0 h1 h2 h3 cX _).mono ?_); rintro e w2 ⟨rfl, hg2⟩; have hg := hg.trans hg2)) | (go_at_call 29; ((with_reducible refine (cm_as a2 a3 a0 a1 0 0 h2 h3 h0 h1 cY _).mono ?_); rintro e w2 ⟨rfl, hg2⟩; have hg := hg.trans hg2)) | (go_at_call 18; ((with_reducible refine (mul_in a0 a4 h0 h4 im _).mono ?_); rintro e w2 ⟨rfl, hg2⟩; have hg := hg.trans hg2)) | (go_at_call 18; ((with_reducible refine (mul_in a1 a4 h1 h4 iN _).mono ?_); rintro e w2 ⟨rfl, hg2⟩; have hg := hg.trans hg2)) | (go_at_call 29; ((with_reducible refine (cm_as (a0 * a4) (a1 * a4) a0 a1 0 0 im iN h0 h1 cZ _).mono ?_); rintro e w2 ⟨rfl, hg2⟩; have hg := hg.trans hg2)))
            go_ret
            exact ⟨rfl, hg.grown⟩
          · go_enter Try.func9, Try.ntmps9
            go_wp2_with (first | (go_at_call 15; refine (examples_any _).mono ?_; rintro e we ⟨rfl, hg⟩) | (go_at_call 29; ((with_reducible refine (cm_as a0 a1 a2 a3 0 0 h0 h1 h2 h3 cX _).mono ?_); rintro e w2 ⟨rfl, hg2⟩; have hg := hg.trans hg2)) | (go_at_call 29; ((with_reducible refine (cm_as a2 a3 a0 a1 0 0 h2 h3 h0 h1 cY _).mono ?_); rintro e w2 ⟨rfl, hg2⟩; have hg := hg.trans hg2)) | (go_at_call 18; ((with_reducible refine (mul_in a0 a4 h0 h4 im _).mono ?_); rintro e w2 ⟨rfl, hg2⟩; have hg := hg.trans hg2)) | (go_at_call 18; ((with_reducible refine (mul_in a1 a4 h1 h4 iN _).mono ?_); rintro e w2 ⟨rfl, hg2⟩; have hg := hg.trans hg2)))
            go_ret
            exact ⟨rfl, hg.grown⟩
        · go_enter Try.func9, Try.ntmps9
          go_wp2_with (first | (go_at_call 15; refine (examples_any _).mono ?_; rintro e we ⟨rfl, hg⟩) | (go_at_call 29; ((with_reducible refine (cm_as a0 a1 a2 a3 0 0 h0 h1 h2 h3 cX _).mono ?_); rintro e w2 ⟨rfl, hg2⟩; have hg := hg.trans hg2)) | (go_at_call 29; ((with_reducible refine (cm_as a2 a3 a0 a1 0 0 h2 h3 h0 h1 cY _).mono ?_); rintro e w2 ⟨rfl, hg2⟩; have hg := hg.trans hg2)) | (go_at_call 18; ((with_reducible refine (mul_in a0 a4 h0 h4 im _).mono ?_); rintro e w2 ⟨rfl, hg2⟩; have hg := hg.trans hg2)) | (go_at_call 18; ((with_reducible refine (mul_out a1 a4 h1 h4 iN _).mono ?_); rintro e w2 ⟨rfl, hg2⟩; have hg := hg.trans hg2)))
          go_ret
          exact ⟨rfl, hg.grown⟩
      · go_enter Try.func9, Try.ntmps9
        go_wp2_with (first | (go_at_call 15; refine (examples_any _).mono ?_; rintro e we ⟨rfl, hg⟩) | (go_at_call 29; ((with_reducible refine (cm_as a0 a1 a2 a3 0 0 h0 h1 h2 h3 cX _).mono ?_); rintro e w2 ⟨rfl, hg2⟩; have hg := hg.trans hg2)) | (go_at_call 29; ((with_reducible refine (cm_as a2 a3 a0 a1 0 0 h2 h3 h0 h1 cY _).mono ?_); rintro e w2 ⟨rfl, hg2⟩; have hg := hg.trans hg2)) | (go_at_call 18; ((with_reducible refine (mul_out a0 a4 h0 h4 im _).mono ?_); rintro e w2 ⟨rfl, hg2⟩; have hg := hg.trans hg2)) | (go_at_call 18; ((with_reducible refine (mul_any a1 a4 h1 h4 _).mono ?_); rintro e w2 ⟨rfl, hg2⟩; have hg := hg.trans hg2)))
        go_ret
        exact ⟨rfl, hg.grown⟩
    · rw [sgn_gt hc] at gX
      rw [sgn_lt hc] at gY
      have cX := Lib.hid gX
      have cY := Lib.hid gY
      clear gX gY hc
      by_cases im : inR (a0 * a4)
      · by_cases iN : inR (a1 * a4)
        · by_cases k0 : 0 < a4
          · have cZ := Lib.hid (cm_same (k := a4) p0 p1 k0)
            go_enter Try.func9, Try.ntmps9
            go_wp2_with (first | (go_at_call 15; refine (examples_any _).mono ?_; rintro e we ⟨rfl, hg⟩) | (go_at_call 29; ((with_reducible refine (cm_as a0 a1 a2 a3 1 0 h0 h1 h2 h3 cX _).mono ?_); rintro e w2 ⟨rfl, hg2⟩; have hg := hg.trans hg2)) | (go_at_call 29; ((with_reducible refine (cm_as a2 a3 a0 a1 (-1) 0 h2 h3 h0 h1 cY _).mono ?_); rintro e w2 ⟨rfl, hg2⟩; have hg := hg.trans hg2)) | (go_at_call 18; ((with_reducible refine (mul_in a0 a4 h0 h4 im _).mono ?_); rintro e w2 ⟨rfl, hg2⟩; have hg := hg.trans hg2)) | (go_at_call 18; ((with_reducible refine (mul_in a1 a4 h1 h4 iN _).mono ?_); rintro e w2 ⟨rfl, hg2⟩; have hg := hg.trans hg2)) | (go_at_call 29; ((with_reducible refine (cm_as (a0 * a4) (a1 * a4) a0 a1 0 0 im iN h0 h1 cZ _).mono ?_); rintro e w2 ⟨rfl, hg2⟩; have hg := hg.trans hg2)))
            go_ret
            exact ⟨rfl, hg.grown⟩
          · go_enter Try.func9, Try.ntmps9
            go_wp2_with (first | (go_at_call 15; refine (examples_any _).mono ?_; rintro e we ⟨rfl, hg⟩) | (go_at_call 29; ((with_reducible refine (cm_as a0 a1 a2 a3 1 0 h0 h1 h2 h3 cX _).mono ?_); rintro e w2 ⟨rfl, hg2⟩; have hg := hg.trans hg2)) | (go_at_call 29; ((with_reducible refine (cm_as a2 a3 a0 a1 (-1) 0 h2 h3 h0 h1 cY _).mono ?_); rintro e w2 ⟨rfl, hg2⟩; have hg := hg.trans hg2)) | (go_at_call 18; ((with_reducible refine (mul_in a0 a4 h0 h4 im _).mono ?_); rintro e w2 ⟨rfl, hg2⟩; have hg := hg.trans hg2)) | (go_at_call 18; ((with_reducible refine (mul_in a1 a4 h1 h4 iN _).mono ?_); rintro e w2 ⟨rfl, hg2⟩; have hg := hg.trans hg2)))
            go_ret
            exact ⟨rfl, hg.grown⟩
        · go_enter Try.func9, Try.ntmps9
          go_wp2_with (first | (go_at_call 15; refine (examples_any _).mono ?_; rintro e we ⟨rfl, hg⟩) | (go_at_call 29; ((with_reducible refine (cm_as a0 a1 a2 a3 1 0 h0 h1 h2 h3 cX _).mono ?_); rintro e w2 ⟨rfl, hg2⟩; have hg := hg.trans hg2)) | (go_at_call 29; ((with_reducible refine (cm_as a2 a3 a0 a1 (-1) 0 h2 h3 h0 h1 cY _).mono ?_); rintro e w2 ⟨rfl, hg2⟩; have hg := hg.trans hg2)) | (go_at_call 18; ((with_reducible refine (mul_in a0 a4 h0 h4 im _).mono ?_); rintro e w2 ⟨rfl, hg2⟩; have hg := hg.trans hg2)) | (go_at_call 18; ((with_reducible refine (mul_out a1 a4 h1 h4 iN _).mono ?_); rintro e w2 ⟨rfl, hg2⟩; have hg := hg.trans hg2)))
          go_ret
          exact ⟨rfl, hg.grown⟩
      · go_enter Try.func9, Try.ntmps9
        go_wp2_with (first | (go_at_call 15; refine (examples_any _).mono ?_; rintro e we ⟨rfl, hg⟩) | (go_at_call 29; ((with_reducible refine (cm_as a0 a1 a2 a3 1 0 h0 h1 h2 h3 cX _).mono ?_); rintro e w2 ⟨rfl, hg2⟩; have hg := hg.trans hg2)) | (go_at_call 29; ((with_reducible refine (cm_as a2 a3 a0 a1 (-1) 0 h2 h3 h0 h1 cY _).mono ?_); rintro e w2 ⟨rfl, hg2⟩; have hg := hg.trans hg2)) | (go_at_call 18; ((with_reducible refine (mul_out a0 a4 h0 h4 im _).mono ?_); rintro e w2 ⟨rfl, hg2⟩; have hg := hg.trans hg2)) | (go_at_call 18; ((with_reducible refine (mul_any a1 a4 h1 h4 _).mono ?_); rintro e w2 ⟨rfl, hg2⟩; have hg := hg.trans hg2)))
        go_ret
        exact ⟨rfl, hg.grown⟩
end Go.Proofs.Ytjonlpoiiffalaa.qarithOrder
