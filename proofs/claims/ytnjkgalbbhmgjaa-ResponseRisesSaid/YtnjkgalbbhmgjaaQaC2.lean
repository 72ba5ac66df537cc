/- The contract of multiply: the four halves of the product. -/
import Derived.Test.YtnjkgalbbhmgjaaQaC1
namespace Go.Proofs.Ytnjkgalbbhmgjaa.qar
open Go.ChangeShapes Go.WideShapes Go.ChangeAt Go.RowKit
theorem split_ex (a : Int) (w : World) :
    Calls Try.prog 37 #[.int .u64 a] w fun e w' => e = .returned (.agg #[.int .u32 (a % 4294967296), .int .u32 (a / 4294967296 % 4294967296)]) ∧ w.alloc (.cells #[.int .u32 (a % 4294967296), .int .u32 (a / 4294967296 % 4294967296)] 65) = w' := by
  go_enter Try.func37, Try.ntmps37
  go_wp2
  exact bodyPost_ret (v := .agg #[.int .u32 (a % 4294967296), .int .u32 (a / 4294967296 % 4294967296)]) (by simp [results, Try.results37, go_sem]) rfl ⟨rfl, rfl⟩
theorem split_as (a x0 x1 : Int) (h0 : Hid (x0 = a % 4294967296)) (h1 : Hid (x1 = a / 4294967296 % 4294967296)) (w : World) :
    Calls Try.prog 37 #[.int .u64 a] w fun e w' => e = .returned (.agg #[.int .u32 x0, .int .u32 x1]) ∧ w.alloc (.cells #[.int .u32 x0, .int .u32 x1] 65) = w' := by
  rw [h0.out, h1.out]; exact split_ex a w
theorem school2 (a b : Int) (a0 : 0 ≤ a) (a1 : a < 18446744073709551616) (b0 : 0 ≤ b) (b1 : b < 18446744073709551616) (x0 x1 y0 y1 : Int)
    (hx0 : x0 = a % 4294967296) (hx1 : x1 = a / 4294967296 % 4294967296) (hy0 : y0 = b % 4294967296) (hy1 : y1 = b / 4294967296 % 4294967296) :
    x0 * y0 % 4294967296 = d0 (a * b) ∧ (x1 * y0 + (x0 * y1 + x0 * y0 / 4294967296)) % 4294967296 = d1 (a * b)
    ∧ (x1 * y1 + (x0 * y1 + x0 * y0 / 4294967296) / 4294967296 + (x1 * y0 + (x0 * y1 + x0 * y0 / 4294967296) % 4294967296) / 4294967296) % 4294967296 = d2 (a * b)
    ∧ (x1 * y1 + (x0 * y1 + x0 * y0 / 4294967296) / 4294967296 + (x1 * y0 + (x0 * y1 + x0 * y0 / 4294967296) % 4294967296) / 4294967296) / 4294967296 = d3 (a * b) := by
  obtain ⟨h0, h1, h2, h3, k0, k1, k2, k3⟩ := school a b a0 a1 b0 b1 x0 x1 y0 y1 _ _ _ _ hx0 hx1 hy0 hy1 rfl rfl rfl rfl
  clear hx0 hx1 hy0 hy1
  rw [← h0, ← h1, ← h2, ← h3]
  clear h0 h1 h2 h3
  generalize x0 * y0 = X at *
  generalize x0 * y1 = Y at *
  generalize x1 * y0 = Z at *
  generalize x1 * y1 = U at *
  have e0 : X / 4294967296 % 4294967296 = X / 4294967296 := by omega
  rw [e0] at *
  have e1 : (Y + X / 4294967296) / 4294967296 % 4294967296 = (Y + X / 4294967296) / 4294967296 := by omega
  rw [e1] at *
  have e2 : (Z + (Y + X / 4294967296) % 4294967296) / 4294967296 % 4294967296 = (Z + (Y + X / 4294967296) % 4294967296) / 4294967296 := by omega
  rw [e2] at *
  exact ⟨rfl, by omega, rfl, by omega⟩
theorem agg4 {p q r s p' q' r' s' : Int} (h0 : p = p') (h1 : q = q') (h2 : r = r') (h3 : s = s') :
    Ending.returned (.agg #[.int .u32 p, .int .u32 q, .int .u32 r, .int .u32 s]) = .returned (.agg #[.int .u32 p', .int .u32 q', .int .u32 r', .int .u32 s']) := by rw [h0, h1, h2, h3]
theorem mul_bd {x y : Int} (hx : 0 ≤ x ∧ x ≤ 4294967295) (hy : 0 ≤ y ∧ y ≤ 4294967295) : 0 ≤ x * y ∧ x * y ≤ 18446744065119617025 :=
  ⟨Int.mul_nonneg hx.1 hy.1, Int.mul_le_mul (c := 4294967295) (d := 4294967295) hx.2 hy.2 hy.1 (by omega)⟩
set_option maxRecDepth 100000 in
set_option maxHeartbeats 1000000 in
theorem multiply_any (a b : Int) (a0 : 0 ≤ a) (a1 : a < 18446744073709551616) (b0 : 0 ≤ b) (b1 : b < 18446744073709551616) (w : World) :
    Calls Try.prog 32 #[.int .u64 a, .int .u64 b] w fun e w' => e = .returned (.agg #[.int .u32 (d0 (a * b)), .int .u32 (d1 (a * b)), .int .u32 (d2 (a * b)), .int .u32 (d3 (a * b))]) ∧ Grew w w' := by
  obtain ⟨x0, hx0⟩ : ∃ x, x = a % 4294967296 := ⟨_, rfl⟩
  obtain ⟨x1, hx1⟩ : ∃ x, x = a / 4294967296 % 4294967296 := ⟨_, rfl⟩
  obtain ⟨y0, hy0⟩ : ∃ x, x = b % 4294967296 := ⟨_, rfl⟩
  obtain ⟨y1, hy1⟩ : ∃ x, x = b / 4294967296 % 4294967296 := ⟨_, rfl⟩
  have SC := Lib.hid (school2 a b a0 a1 b0 b1 x0 x1 y0 y1 hx0 hx1 hy0 hy1)
  have bx0 : 0 ≤ x0 ∧ x0 ≤ 4294967295 := by omega
  have bx1 : 0 ≤ x1 ∧ x1 ≤ 4294967295 := by omega
  have by0 : 0 ≤ y0 ∧ y0 ≤ 4294967295 := by omega
  have by1 : 0 ≤ y1 ∧ y1 ≤ 4294967295 := by omega
  have m00 := mul_bd bx0 by0
  have m01 := mul_bd bx0 by1
  have m10 := mul_bd bx1 by0
  have m11 := mul_bd bx1 by1
  have HX0 := Lib.hid hx0
  have HX1 := Lib.hid hx1
  have HY0 := Lib.hid hy0
  have HY1 := Lib.hid hy1
  clear hx0 hx1 hy0 hy1
  have i0 : ∀ w x y, (Instr.index 65 (.agg #[x, y]) (.int .i64 0)).run Try.prog w = .ok x w := fun _ _ _ => by kernel_rfl
  have i1 : ∀ w x y, (Instr.index 65 (.agg #[x, y]) (.int .i64 1)).run Try.prog w = .ok y w := fun _ _ _ => by kernel_rfl
  go_enter Try.func32, Try.ntmps32
  go_wp2_with (go_at_call 37; refine (split_as _ x0 x1 HX0 HX1 _).mono ?_; rintro e w' ⟨rfl, rfl⟩)
  refine wp_loop_rounds 3 ?_
  rw [rounds_succ]
  go_wp2_with (go_at_call 37; refine (split_as _ y0 y1 HY0 HY1 _).mono ?_; rintro e w' ⟨rfl, rfl⟩)
  refine wp_loop_rounds 3 ?_
  rw [rounds_succ]
  go_wp2
  rw [rounds_succ]
  go_wp2
  rw [rounds_succ]
  go_wp2
  rw [rounds_succ]
  go_wp2_with (go_at_call 37; refine (split_as _ y0 y1 HY0 HY1 _).mono ?_; rintro e w' ⟨rfl, rfl⟩)
  refine wp_loop_rounds 3 ?_
  rw [rounds_succ]
  go_wp2
  rw [rounds_succ]
  go_wp2
  rw [rounds_succ]
  go_wp2
  rw [rounds_succ]
  go_wp2
  obtain ⟨h0, h1, h2, h3⟩ := SC.out
  refine bodyPost_ret (v := .agg #[.int .u32 (x0 * y0 % 4294967296), .int .u32 ((x1 * y0 + (x0 * y1 + x0 * y0 / 4294967296)) % 4294967296),
    .int .u32 ((x1 * y1 + (x0 * y1 + x0 * y0 / 4294967296) / 4294967296 + (x1 * y0 + (x0 * y1 + x0 * y0 / 4294967296) % 4294967296) / 4294967296) % 4294967296),
    .int .u32 ((x1 * y1 + (x0 * y1 + x0 * y0 / 4294967296) / 4294967296 + (x1 * y0 + (x0 * y1 + x0 * y0 / 4294967296) % 4294967296) / 4294967296) / 4294967296)])
    (by clear h0 h1 h2 h3; simp [results, Try.results32, go_sem]) rfl ⟨agg4 h0 h1 h2 h3, ?_⟩
  exact (((((Grew.refl _).alloc _ _).alloc _ _).alloc _ _).alloc _ _).alloc _ _
end Go.Proofs.Ytnjkgalbbhmgjaa.qar
