/- A number times another one, by that one, is the number; twice as much by twice as much is the same: QarithScales returns true for every three numbers, rounded up or down. No condition. (The walk.) -/
import Derived.Test.YtjonlpoiiffalaaRows
import Derived.WalkKit
import Derived.ProofKit
import Derived.OpenShut
import Derived.Test.YtjonlpoiiffalaaB3
namespace Go.Proofs.Ytjonlpoiiffalaa.qarithScales
open Go.ChangeShapes Go.WideShapes Go.ChangeAt Go.RowKit
set_option linter.unusedVariables false
theorem mod_two {x c : Int} : x * 2 % (c * 2) = x % c * 2 := by rw [Int.mul_comm x 2, Int.mul_comm c 2, Int.mul_emod_mul_of_pos _ _ (by omega), Int.mul_comm]
theorem q_twice {a b c : Int} {up : Bool} : mdQ a (b * 2) (c * 2) up = mdQ a b c up := by
  unfold mdQ
  rw [← Int.mul_assoc, mod_two, Int.mul_ediv_mul_of_pos_left _ _ (by omega)]
  by_cases h : a * b % c = 0
  · rw [if_neg (by simp [h]), if_neg (by simp [h])]
  · by_cases hu : up = true
    · rw [if_pos ⟨hu, by omega⟩, if_pos ⟨hu, h⟩]
    · rw [if_neg (fun g => hu g.1), if_neg (fun g => hu g.1)]
theorem q_self {a b : Int} {up : Bool} (hb : 0 < b) : mdQ a b b up = a := by
  unfold mdQ
  rw [if_neg (by simp), Int.mul_ediv_cancel _ (by omega)]
set_option maxHeartbeats 2000000 in
theorem walk (a0 : Int) (a1 : Int) (a2 : Int) (a3 : Bool) (w0 : (Lit.int .i64 a0).wf = true) (w1 : (Lit.int .i64 a1).wf = true) (w2 : (Lit.int .i64 a2).wf = true) (w : World) :
    Calls Try.prog 12 #[.int .i64 a0, .int .i64 a1, .int .i64 a2, .bool a3] w fun e w' => e = .returned (.bool true) ∧ Grown w w' := by
  have h0 := inR_of w0
  have h1 := inR_of w1
  have h2 := inR_of w2
  have h0' := h0
  have h1' := h1
  have h2' := h2
  unfold inR at h0' h1' h2'
  have htwo : inR 2 := by decide
  by_cases n0 : a0 < 0
  · go_enter Try.func12, Try.ntmps12
    go_wp2_with (first | (go_at_call 15; refine (examples_any _).mono ?_; rintro e we ⟨rfl, hg⟩))
    go_ret
    exact ⟨rfl, hg.grown⟩
  · by_cases n1 : a1 ≤ 0
    · go_enter Try.func12, Try.ntmps12
      go_wp2_with (first | (go_at_call 15; refine (examples_any _).mono ?_; rintro e we ⟨rfl, hg⟩))
      go_ret
      exact ⟨rfl, hg.grown⟩
    · by_cases n2 : a2 ≤ 0
      · go_enter Try.func12, Try.ntmps12
        go_wp2_with (first | (go_at_call 15; refine (examples_any _).mono ?_; rintro e we ⟨rfl, hg⟩))
        go_ret
        exact ⟨rfl, hg.grown⟩
      · have p0 : 0 ≤ a0 := by omega
        have p1 : 0 < a1 := by omega
        have p2 : 0 < a2 := by omega
        have cX := Lib.hid (md_in (up := a3) p0 (by omega) p1 (q_self p1) h0)
        obtain ⟨y, hy⟩ : ∃ y, y = mdV a0 a1 a2 a3 := ⟨_, rfl⟩
        obtain ⟨f, hf⟩ : ∃ f, f = mdE a0 a1 a2 a3 := ⟨_, rfl⟩
        have cY : Hid (y = mdV a0 a1 a2 a3 ∧ f = mdE a0 a1 a2 a3) := ⟨hy, hf⟩
        by_cases i1 : inR (a1 * 2)
        · by_cases i2 : inR (a2 * 2)
          · have cZ : Hid (y = mdV a0 (a1 * 2) (a2 * 2) a3 ∧ f = mdE a0 (a1 * 2) (a2 * 2) a3) := by
              have g1 := md_good (up := a3) p0 (show 0 ≤ a1 * 2 by omega) (show 0 < a2 * 2 by omega)
              have g2 := md_good (up := a3) p0 (show 0 ≤ a1 by omega) p2
              rw [q_twice] at g1
              exact ⟨by rw [hy, g1.1, g2.1], by rw [hf, g1.2, g2.2]⟩
            clear hy hf n0 n1 n2
            go_enter Try.func12, Try.ntmps12
            go_wp2_with (first | (go_at_call 15; refine (examples_any _).mono ?_; rintro e we ⟨rfl, hg⟩) | (go_at_call 24; ((with_reducible refine (md_as a0 a1 a1 a0 0 a3 h0 h1 h1 cX _).mono ?_); rintro e w2 ⟨rfl, hg2⟩; have hg := hg.trans hg2)) | (go_at_call 24; ((with_reducible refine (md_as a0 a1 a2 y f a3 h0 h1 h2 cY _).mono ?_); rintro e w2 ⟨rfl, hg2⟩; have hg := hg.trans hg2)) | (go_at_call 24; ((with_reducible refine (md_as a0 (a1 * 2) (a2 * 2) y f a3 h0 i1 i2 cZ _).mono ?_); rintro e w2 ⟨rfl, hg2⟩; have hg := hg.trans hg2)) | (go_at_call 18; ((with_reducible refine (mul_in a1 2 h1 htwo i1 _).mono ?_); rintro e w2 ⟨rfl, hg2⟩; have hg := hg.trans hg2)) | (go_at_call 18; ((with_reducible refine (mul_in a2 2 h2 htwo i2 _).mono ?_); rintro e w2 ⟨rfl, hg2⟩; have hg := hg.trans hg2)))
            go_ret
            exact ⟨rfl, hg.grown⟩
          · clear hy hf n0 n1 n2
            go_enter Try.func12, Try.ntmps12
            go_wp2_with (first | (go_at_call 15; refine (examples_any _).mono ?_; rintro e we ⟨rfl, hg⟩) | (go_at_call 24; ((with_reducible refine (md_as a0 a1 a1 a0 0 a3 h0 h1 h1 cX _).mono ?_); rintro e w2 ⟨rfl, hg2⟩; have hg := hg.trans hg2)) | (go_at_call 24; ((with_reducible refine (md_as a0 a1 a2 y f a3 h0 h1 h2 cY _).mono ?_); rintro e w2 ⟨rfl, hg2⟩; have hg := hg.trans hg2)) | (go_at_call 18; ((with_reducible refine (mul_in a1 2 h1 htwo i1 _).mono ?_); rintro e w2 ⟨rfl, hg2⟩; have hg := hg.trans hg2)) | (go_at_call 18; ((with_reducible refine (mul_out a2 2 h2 htwo i2 _).mono ?_); rintro e w2 ⟨rfl, hg2⟩; have hg := hg.trans hg2)))
            go_ret
            exact ⟨rfl, hg.grown⟩
        · clear hy hf n0 n1 n2
          go_enter Try.func12, Try.ntmps12
          go_wp2_with (first | (go_at_call 15; refine (examples_any _).mono ?_; rintro e we ⟨rfl, hg⟩) | (go_at_call 24; ((with_reducible refine (md_as a0 a1 a1 a0 0 a3 h0 h1 h1 cX _).mono ?_); rintro e w2 ⟨rfl, hg2⟩; have hg := hg.trans hg2)) | (go_at_call 24; ((with_reducible refine (md_as a0 a1 a2 y f a3 h0 h1 h2 cY _).mono ?_); rintro e w2 ⟨rfl, hg2⟩; have hg := hg.trans hg2)) | (go_at_call 18; ((with_reducible refine (mul_out a1 2 h1 htwo i1 _).mono ?_); rintro e w2 ⟨rfl, hg2⟩; have hg := hg.trans hg2)) | (go_at_call 18; ((with_reducible refine (mul_any a2 2 h2 htwo _).mono ?_); rintro e w2 ⟨rfl, hg2⟩; have hg := hg.trans hg2)))
          go_ret
          exact ⟨rfl, hg.grown⟩
end Go.Proofs.Ytjonlpoiiffalaa.qarithScales
