/- The contracts of compare and Cmp. -/
import Derived.Test.YtnjkgalbbhmgjaaQaC3
import Derived.Test.YtnjkgalbbhmgjaaQaQ2
import Derived.Deep.QuietTactic
import Derived.BigQuiet
namespace Go.Proofs.Ytnjkgalbbhmgjaa.qar
open Go.ChangeShapes Go.WideShapes Go.ChangeAt Go.RowKit
def cmp4 (a0 a1 a2 a3 b0 b1 b2 b3 : Int) : Int :=
  if a3 < b3 then -1 else if b3 < a3 then 1 else if a2 < b2 then -1 else if b2 < a2 then 1 else if a1 < b1 then -1 else if b1 < a1 then 1 else if a0 < b0 then -1 else if b0 < a0 then 1 else 0
theorem cmp4_sgn (N M : Int) : cmp4 (d0 N) (d1 N) (d2 N) (d3 N) (d0 M) (d1 M) (d2 M) (d3 M) = sgn N M := by
  have e1 := dig_eq N
  have e2 := dig_eq M
  have a0 := d0_bd N
  have a1 := d1_bd N
  have a2 := d2_bd N
  have b0 := d0_bd M
  have b1 := d1_bd M
  have b2 := d2_bd M
  unfold cmp4 sgn
  repeat' split
  all_goals omega
theorem Grew.drewN {a w : World} (h : Grew a w) (n : Nat) : Grew a (w.drewN n) := ⟨⟨h.below.os, h.below.tape, h.below.output, h.below.size, h.below.block⟩, h.grown⟩
theorem cm_bad {a b c d : Int} (h : a < 0 ∨ b ≤ 0 ∨ c < 0 ∨ d ≤ 0) : 0 = cmV a b c d ∧ 1 = cmE a b c d := ⟨(if_pos h).symm, (if_pos h).symm⟩
theorem cm_good {a b c d : Int} (h0 : 0 ≤ a) (h1 : 0 < b) (h2 : 0 ≤ c) (h3 : 0 < d) : sgn (a * d) (c * b) = cmV a b c d ∧ 0 = cmE a b c d := ⟨(if_neg (by omega)).symm, (if_neg (by omega)).symm⟩
theorem ret2c {a b c d : Int} (h : a = c ∧ b = d) : Ending.returned (.tuple #[.int .i64 a, .int .i64 b]) = .returned (.tuple #[.int .i64 c, .int .i64 d]) := by rw [h.1, h.2]
theorem prod_bd {a b : Int} (ha : inR a) (hb : inR b) (a0 : 0 ≤ a) (b0 : 0 ≤ b) : 0 ≤ a * b ∧ a * b ≤ 85070591730234615847396907784232501249 := by
  unfold inR at ha hb
  exact ⟨Int.mul_nonneg a0 b0, Int.mul_le_mul (c := 9223372036854775807) (d := 9223372036854775807) ha.2 hb.2 b0 (by omega)⟩
end Go.Proofs.Ytnjkgalbbhmgjaa.qar
