/- The contract of examples: the chapter's examples are so. -/
import Derived.Test.YtjonlpoiiffalaaC4
import Derived.Test.YtjonlpoiiffalaaC7
namespace Go.Proofs.Ytjonlpoiiffalaa
open Go.ChangeShapes Go.WideShapes Go.ChangeAt Go.RowKit
theorem x_add (w : World) : Calls Try.prog 16 #[.int .i64 9223372036854775807, .int .i64 1] w fun e w' => e = .returned (.tuple #[.int .i64 0, .int .i64 2]) ∧ w = w' :=
  (add_any _ _ (by decide) (by decide) w).mono fun _ _ ⟨h, k⟩ => ⟨h.trans (ret2 (by decide) (by decide)), k⟩
theorem x_mul1 (w : World) : Calls Try.prog 18 #[.int .i64 (-9223372036854775808), .int .i64 (-1)] w fun e w' => e = .returned (.tuple #[.int .i64 0, .int .i64 2]) ∧ Grew w w' :=
  (mul_any _ _ (by decide) (by decide) w).mono fun _ _ ⟨h, k⟩ => ⟨h.trans (ret2 (by decide) (by decide)), k⟩
theorem x_mul2 (w : World) : Calls Try.prog 18 #[.int .i64 4294967296, .int .i64 1073741824] w fun e w' => e = .returned (.tuple #[.int .i64 4611686018427387904, .int .i64 0]) ∧ Grew w w' :=
  (mul_any _ _ (by decide) (by decide) w).mono fun _ _ ⟨h, k⟩ => ⟨h.trans (ret2 (by decide) (by decide)), k⟩
theorem x_cd (w : World) : Calls Try.prog 23 #[.int .i64 7, .int .i64 2] w fun e w' => e = .returned (.tuple #[.int .i64 4, .int .i64 0]) ∧ w = w' :=
  (ceildiv_any _ _ (by decide) (by decide) w).mono fun _ _ ⟨h, k⟩ => ⟨h.trans (ret2 (by decide) (by decide)), k⟩
theorem x_md1 (w : World) : Calls Try.prog 24 #[.int .i64 4611686018427387904, .int .i64 6, .int .i64 4, .bool false] w fun e w' => e = .returned (.tuple #[.int .i64 6917529027641081856, .int .i64 0]) ∧ Grew w w' :=
  (muldiv_any _ _ _ _ (by decide) (by decide) (by decide) w).mono fun _ _ ⟨h, k⟩ => ⟨h.trans (ret2 (by decide) (by decide)), k⟩
theorem x_md2 (w : World) : Calls Try.prog 24 #[.int .i64 7, .int .i64 1, .int .i64 2, .bool true] w fun e w' => e = .returned (.tuple #[.int .i64 4, .int .i64 0]) ∧ Grew w w' :=
  (muldiv_any _ _ _ _ (by decide) (by decide) (by decide) w).mono fun _ _ ⟨h, k⟩ => ⟨h.trans (ret2 (by decide) (by decide)), k⟩
theorem x_lcm (w : World) : Calls Try.prog 28 #[.int .i64 4, .int .i64 6] w fun e w' => e = .returned (.tuple #[.int .i64 12, .int .i64 0]) ∧ Grew w w' :=
  (lcm_any _ _ (by decide) (by decide) w).mono fun _ _ ⟨h, k⟩ => ⟨h.trans (ret2 (by decide) (by decide)), k⟩
theorem x_cmp (w : World) : Calls Try.prog 29 #[.int .i64 1, .int .i64 3, .int .i64 333, .int .i64 1000] w fun e w' => e = .returned (.tuple #[.int .i64 1, .int .i64 0]) ∧ Grew w w' :=
  (cmp_any _ _ _ _ (by decide) (by decide) (by decide) (by decide) w).mono fun _ _ ⟨h, k⟩ => ⟨h.trans (ret2 (by decide) (by decide)), k⟩
set_option maxRecDepth 100000 in
set_option maxHeartbeats 2000000 in
theorem examples_any (w : World) : Calls Try.prog 15 #[] w fun e w' => e = .returned (.bool true) ∧ Grew w w' := by
  go_enter Try.func15, Try.ntmps15
  go_wp2_with (first | (go_at_call 16; ((with_reducible refine (x_add _).mono ?_); rintro e w' ⟨rfl, rfl⟩)) | (go_at_call 18; ((with_reducible refine (x_mul1 _).mono ?_); rintro e w1 ⟨rfl, hg⟩)) | (go_at_call 18; ((with_reducible refine (x_mul2 _).mono ?_); rintro e w2 ⟨rfl, hg2⟩; have hg := hg.trans hg2)) | (go_at_call 23; ((with_reducible refine (x_cd _).mono ?_); rintro e w' ⟨rfl, rfl⟩)) | (go_at_call 24; ((with_reducible refine (x_md1 _).mono ?_); rintro e w2 ⟨rfl, hg2⟩; have hg := hg.trans hg2)) | (go_at_call 24; ((with_reducible refine (x_md2 _).mono ?_); rintro e w2 ⟨rfl, hg2⟩; have hg := hg.trans hg2)) | (go_at_call 28; ((with_reducible refine (x_lcm _).mono ?_); rintro e w2 ⟨rfl, hg2⟩; have hg := hg.trans hg2)) | (go_at_call 29; ((with_reducible refine (x_cmp _).mono ?_); rintro e w2 ⟨rfl, hg2⟩; have hg := hg.trans hg2)))
  go_ret
  exact ⟨rfl, hg⟩
end Go.Proofs.Ytjonlpoiiffalaa
