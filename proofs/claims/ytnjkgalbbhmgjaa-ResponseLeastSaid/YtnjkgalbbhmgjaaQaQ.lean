/- Plain arithmetic on integers for layer 1: what each call of the chapter answers, as functions of integers. No condition. -/
import Derived.IntWalk
import Derived.Test.YtnjkgalbbhmgjaaBase
import Derived.Laws.BitsAllLaws
namespace Go.Proofs.Ytnjkgalbbhmgjaa.qar
instance (x : Int) : Decidable (inR x) := by unfold inR; exact inferInstance
/-- The number, nought where it is none of 64 bits. -/
def exV (x : Int) : Int := if inR x then x else 0
/-- The error, 2 where it is none of 64 bits. -/
def exE (x : Int) : Int := if inR x then 0 else 2
theorem exV_in {x : Int} (h : inR x) : exV x = x := if_pos h
theorem exE_in {x : Int} (h : inR x) : exE x = 0 := if_pos h
theorem exV_out {x : Int} (h : ¬ inR x) : exV x = 0 := if_neg h
theorem exE_out {x : Int} (h : ¬ inR x) : exE x = 2 := if_neg h
theorem exV_wf (x : Int) : inR (exV x) := by unfold exV; split; assumption; unfold inR; omega
theorem eqV {x y : Int} (h : inR x → y = x) (k : ¬ inR x → y = 0) : y = exV x := by unfold exV; split; exact h ‹_›; exact k ‹_›
theorem eqE {x y : Int} (h : inR x → y = 0) (k : ¬ inR x → y = 2) : y = exE x := by unfold exE; split; exact h ‹_›; exact k ‹_›
/-- Four halves of 32 bits of a number below 2^128, the least one first; its upper and its lower 64 bits. -/
def d0 (n : Int) : Int := n % 4294967296
def d1 (n : Int) : Int := n / 4294967296 % 4294967296
def d2 (n : Int) : Int := n / 18446744073709551616 % 4294967296
def d3 (n : Int) : Int := n / 79228162514264337593543950336
def hi (n : Int) : Int := n / 18446744073709551616
def lo (n : Int) : Int := n % 18446744073709551616
theorem hi_eq (n : Int) : d3 n * 4294967296 + d2 n = hi n := by unfold d3 d2 hi; omega
theorem lo_eq (n : Int) : d1 n * 4294967296 + d0 n = lo n := by unfold d1 d0 lo; omega
theorem d0_bd (n : Int) : 0 ≤ d0 n ∧ d0 n < 4294967296 := by unfold d0; omega
theorem d1_bd (n : Int) : 0 ≤ d1 n ∧ d1 n < 4294967296 := by unfold d1; omega
theorem d2_bd (n : Int) : 0 ≤ d2 n ∧ d2 n < 4294967296 := by unfold d2; omega
theorem d3_bd (n : Int) (h : 0 ≤ n) (k : n < 340282366920938463463374607431768211456) : 0 ≤ d3 n ∧ d3 n < 4294967296 := by unfold d3; omega
theorem lo_bd (n : Int) : 0 ≤ lo n ∧ lo n < 18446744073709551616 := by unfold lo; omega
theorem hi_bd (n : Int) (h : 0 ≤ n) (k : n < 340282366920938463463374607431768211456) : 0 ≤ hi n ∧ hi n < 18446744073709551616 := by unfold hi; omega
theorem or_mul (a b i m : Nat) (hm : m = 2 ^ i) (h : a < m) : (b * m) ||| a = b * m + a := by
  subst hm
  rw [← Nat.shiftLeft_eq, Nat.shiftLeft_add_eq_or_of_lt h]
theorem or_join (a b : Int) (a0 : 0 ≤ a) (a1 : a < 4294967296) (b0 : 0 ≤ b) (b1 : b < 4294967296) : bits BinOp.or IntKind.u64 (a * 4294967296) b = a * 4294967296 + b := by
  obtain ⟨n, rfl⟩ := Int.eq_ofNat_of_zero_le a0
  obtain ⟨m, rfl⟩ := Int.eq_ofNat_of_zero_le b0
  have e : ((n : Int) * 4294967296) = ((n * 4294967296 : Nat) : Int) := by omega
  rw [e, u64_or_nat _ _ (by omega) (by omega), or_mul m n 32 4294967296 (by decide) (by omega)]
  omega
theorem or_bit (a b : Int) (a0 : 0 ≤ a) (a1 : a < 9223372036854775808) (b0 : 0 ≤ b) (b1 : b < 2) : bits BinOp.or IntKind.u64 (a * 2) b = a * 2 + b := by
  obtain ⟨n, rfl⟩ := Int.eq_ofNat_of_zero_le a0
  obtain ⟨m, rfl⟩ := Int.eq_ofNat_of_zero_le b0
  have e : ((n : Int) * 2) = ((n * 2 : Nat) : Int) := by omega
  rw [e, u64_or_nat _ _ (by omega) (by omega), or_mul m n 1 2 (by decide) (by omega)]
  omega
/-- The school's multiplication by halves of 32 bits. -/
theorem school (a b : Int) (a0 : 0 ≤ a) (a1 : a < 18446744073709551616) (b0 : 0 ≤ b) (b1 : b < 18446744073709551616) (x0 x1 y0 y1 s0 s1 s2 s3 : Int)
    (hx0 : x0 = a % 4294967296) (hx1 : x1 = a / 4294967296 % 4294967296) (hy0 : y0 = b % 4294967296) (hy1 : y1 = b / 4294967296 % 4294967296)
    (h0 : s0 = x0 * y0) (h1 : s1 = x0 * y1 + s0 / 4294967296 % 4294967296) (h2 : s2 = x1 * y0 + s1 % 4294967296) (h3 : s3 = x1 * y1 + s1 / 4294967296 % 4294967296 + s2 / 4294967296 % 4294967296) :
    s0 % 4294967296 = d0 (a * b) ∧ s2 % 4294967296 = d1 (a * b) ∧ s3 % 4294967296 = d2 (a * b) ∧ s3 / 4294967296 % 4294967296 = d3 (a * b)
    ∧ (0 ≤ s0 ∧ s0 < 18446744073709551616) ∧ (0 ≤ s1 ∧ s1 < 18446744073709551616) ∧ (0 ≤ s2 ∧ s2 < 18446744073709551616) ∧ (0 ≤ s3 ∧ s3 < 18446744073709551616) := by
  have ea : a = x1 * 4294967296 + x0 := by omega
  have eb : b = y1 * 4294967296 + y0 := by omega
  have bx0 : 0 ≤ x0 ∧ x0 ≤ 4294967295 := by omega
  have bx1 : 0 ≤ x1 ∧ x1 ≤ 4294967295 := by omega
  have by0 : 0 ≤ y0 ∧ y0 ≤ 4294967295 := by omega
  have by1 : 0 ≤ y1 ∧ y1 ≤ 4294967295 := by omega
  have em : a * b = x1 * y1 * 18446744073709551616 + (x0 * y1 + x1 * y0) * 4294967296 + x0 * y0 := by
    rw [ea, eb]; simp only [Int.add_mul, Int.mul_add]; 
    have q1 : x1 * 4294967296 * (y1 * 4294967296) = x1 * y1 * 18446744073709551616 := by rw [Int.mul_assoc, Int.mul_left_comm 4294967296 y1 4294967296, ← Int.mul_assoc]; rfl
    have q2 : x1 * 4294967296 * y0 = x1 * y0 * 4294967296 := by rw [Int.mul_assoc, Int.mul_comm 4294967296 y0, ← Int.mul_assoc]
    have q3 : x0 * (y1 * 4294967296) = x0 * y1 * 4294967296 := by rw [Int.mul_assoc]
    rw [q1, q2, q3]; omega
  have m00 : 0 ≤ x0 * y0 ∧ x0 * y0 ≤ 4294967295 * 4294967295 := ⟨Int.mul_nonneg bx0.1 by0.1, Int.mul_le_mul bx0.2 by0.2 by0.1 (by omega)⟩
  have m01 : 0 ≤ x0 * y1 ∧ x0 * y1 ≤ 4294967295 * 4294967295 := ⟨Int.mul_nonneg bx0.1 by1.1, Int.mul_le_mul bx0.2 by1.2 by1.1 (by omega)⟩
  have m10 : 0 ≤ x1 * y0 ∧ x1 * y0 ≤ 4294967295 * 4294967295 := ⟨Int.mul_nonneg bx1.1 by0.1, Int.mul_le_mul bx1.2 by0.2 by0.1 (by omega)⟩
  have m11 : 0 ≤ x1 * y1 ∧ x1 * y1 ≤ 4294967295 * 4294967295 := ⟨Int.mul_nonneg bx1.1 by1.1, Int.mul_le_mul bx1.2 by1.2 by1.1 (by omega)⟩
  rw [em]
  generalize x0 * y0 = X at *
  generalize x0 * y1 = Y at *
  generalize x1 * y0 = Z at *
  generalize x1 * y1 = U at *
  clear hx0 hx1 hy0 hy1 ea eb em
  have t0 : 0 ≤ s0 ∧ s0 < 18446744073709551616 := by omega
  have t1 : 0 ≤ s1 ∧ s1 < 18446744073709551616 := by omega
  have t2 : 0 ≤ s2 ∧ s2 < 18446744073709551616 := by omega
  have t3 : 0 ≤ s3 ∧ s3 < 18446744073709551616 := by omega
  have eN : U * 18446744073709551616 + (Y + Z) * 4294967296 + X = s3 * 18446744073709551616 + (s2 % 4294967296) * 4294967296 + s0 % 4294967296 := by omega
  rw [eN]
  unfold d0 d1 d2 d3
  refine ⟨by omega, by omega, by omega, by omega, t0, t1, t2, t3⟩
end Go.Proofs.Ytnjkgalbbhmgjaa.qar
