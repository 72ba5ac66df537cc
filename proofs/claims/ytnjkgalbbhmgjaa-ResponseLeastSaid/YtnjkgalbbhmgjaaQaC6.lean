/- The contracts of CeilDiv, told, Gcd, Lcm, and the document's own Mul, CeilDiv, Gcd and Lcm. -/
import Derived.Test.YtnjkgalbbhmgjaaQaC5
import Derived.Test.YtnjkgalbbhmgjaaQaQ2
import Derived.Deep.QuietTactic
import Derived.BigQuiet
namespace Go.Proofs.Ytnjkgalbbhmgjaa.qar
open Go.ChangeShapes Go.WideShapes Go.ChangeAt Go.RowKit
theorem ret2d {a b c d : Int} (h : a = c ∧ b = d) : Ending.returned (.tuple #[.int .i64 a, .int .i64 b]) = .returned (.tuple #[.int .i64 c, .int .i64 d]) := by rw [h.1, h.2]
theorem cd_bad {a b : Int} (h : a < 0 ∨ b ≤ 0) : 0 = cdV a b ∧ 1 = cdE a b := ⟨(if_pos h).symm, (if_pos h).symm⟩
theorem cd_zero {a b : Int} (h0 : 0 ≤ a) (h1 : 0 < b) (h : a % b = 0) : a / b = cdV a b ∧ 0 = cdE a b := ⟨by unfold cdV; rw [if_neg (by omega), if_pos h], (if_neg (by omega)).symm⟩
theorem cd_more {a b : Int} (h0 : 0 ≤ a) (h1 : 0 < b) (h : a % b ≠ 0) : a / b + 1 = cdV a b ∧ 0 = cdE a b := ⟨by unfold cdV; rw [if_neg (by omega), if_neg h], (if_neg (by omega)).symm⟩
theorem cd_small {a b : Int} (ha : inR a) (h0 : 0 ≤ a) (h1 : 0 < b) (h : a % b ≠ 0) : 0 ≤ a / b ∧ a / b ≤ 4611686018427387904 := by
  unfold inR at ha
  have hb : 2 ≤ b := by
    apply Classical.byContradiction; intro hb
    obtain rfl : b = 1 := by omega
    omega
  refine ⟨Int.ediv_nonneg h0 (by omega), ?_⟩
  have : a / b ≤ a / 2 := by
    rw [Int.le_ediv_iff_mul_le (by omega)]
    have h2 := Int.ediv_mul_le a (b := b) (by omega)
    have h3 := Int.mul_le_mul_of_nonneg_left hb (Int.ediv_nonneg h0 (by omega : 0 ≤ b))
    omega
  omega
set_option maxHeartbeats 1000000 in
theorem ceildiv_any (a b : Int) (ha : inR a) (hb : inR b) (w : World) :
    Calls Try.prog 36 #[.int .i64 a, .int .i64 b] w fun e w' => e = .returned (.tuple #[.int .i64 (cdV a b), .int .i64 (cdE a b)]) ∧ w = w' := by
  by_cases h1 : a < 0
  · have hm := Lib.hid (cd_bad (b := b) (Or.inl h1))
    go_enter Try.func36, Try.ntmps36
    go_wp2
    go_ret2
    exact ⟨ret2d hm.out, rfl⟩
  · by_cases h2 : b ≤ 0
    · have hm := Lib.hid (cd_bad (a := a) (Or.inr h2))
      go_enter Try.func36, Try.ntmps36
      go_wp2
      go_ret2
      exact ⟨ret2d hm.out, rfl⟩
    · have h1' : 0 ≤ a := by omega
      have h2' : 1 ≤ b := by omega
      by_cases h3 : a % b = 0
      · have hm := Lib.hid (cd_zero h1' (by omega) h3)
        have h3' : (a % b != 0) = false := by simpa using h3
        unfold inR at ha hb
        clear h3 h1 h2
        go_enter Try.func36, Try.ntmps36
        go_wp2
        go_ret2
        exact ⟨ret2d hm.out, rfl⟩
      · have hm := Lib.hid (cd_more h1' (by omega) h3)
        have hs := cd_small ha h1' (by omega) h3
        have h3' : (a % b != 0) = true := by simpa using h3
        unfold inR at ha hb
        clear h3 h1 h2
        go_enter Try.func36, Try.ntmps36
        go_wp2
        go_ret2
        exact ⟨ret2d hm.out, rfl⟩
/-! Gcd -/
theorem gc_bad {a b : Int} (h : a < 0 ∨ b < 0) : 0 = gcV a b ∧ 1 = gcE a b := ⟨(if_pos h).symm, (if_pos h).symm⟩
theorem gc_good {a b x : Int} (h0 : 0 ≤ a) (h1 : 0 ≤ b) (h : (x : Int) = Int.gcd a b) : x = gcV a b ∧ 0 = gcE a b := ⟨by rw [h]; exact (if_neg (by omega)).symm, (if_neg (by omega)).symm⟩
/-- What the loop of Gcd keeps. -/
structure GRel (a b x y : Int) : Prop where
  x0 : 0 ≤ x
  x1 : x ≤ 9223372036854775807
  y0 : 0 ≤ y
  y1 : y ≤ 9223372036854775807
  eq : Int.gcd x y = Int.gcd a b
theorem GRel.start {a b : Int} (ha : inR a) (hb : inR b) (h0 : 0 ≤ a) (h1 : 0 ≤ b) : GRel a b a b := by unfold inR at ha hb; exact ⟨h0, ha.2, h1, hb.2, rfl⟩
theorem GRel.next {a b x y : Int} (h : GRel a b x y) (hy : 0 < y) : GRel a b y (x % y) := by
  refine ⟨h.y0, h.y1, Int.emod_nonneg _ (by omega), ?_, ?_⟩
  · have := Int.emod_lt_of_pos x hy; have := h.y1; omega
  · rw [← h.eq]
    have hx := h.x0
    obtain ⟨m, rfl⟩ := Int.eq_ofNat_of_zero_le hx
    obtain ⟨n, rfl⟩ := Int.eq_ofNat_of_zero_le h.y0
    show Nat.gcd n ((m : Int) % (n : Int)).natAbs = Nat.gcd m n
    have e : ((m : Int) % (n : Int)).natAbs = m % n := by rw [← Int.natCast_emod]; rfl
    rw [e, Nat.gcd_comm m n, Nat.gcd_rec n m, Nat.gcd_comm]
theorem GRel.done {a b x y : Int} (h : GRel a b x y) (hy : y = 0) : x = Int.gcd a b := by
  rw [← h.eq, hy, Int.gcd_zero_right]; have := h.x0; omega
end Go.Proofs.Ytnjkgalbbhmgjaa.qar
