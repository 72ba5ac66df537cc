/- Plain arithmetic for layer 1: division of 128 bits by doubling, digits in their order, greatest common divisors. -/
import Derived.Test.YtnjkgalbbhmgjaaQaQ
namespace Go.Proofs.Ytnjkgalbbhmgjaa.qar
theorem divmod_of {x c q r : Int} (h : q * c + r = x) (r0 : 0 ≤ r) (r1 : r < c) : x / c = q ∧ x % c = r := by
  have hc : 0 < c := by omega
  have := (Int.ediv_emod_unique (a := x) (b := c) (r := r) (q := q) hc).2 ⟨by rw [Int.mul_comm c q]; omega, r0, r1⟩
  exact this
/-- What is left of the lower half behind so many doublings, and what has gone up. -/
def nk (L : Int) : Nat → Int
  | 0 => L
  | k + 1 => nk L k * 2 % 18446744073709551616
def Mk (H L : Int) : Nat → Int
  | 0 => H
  | k + 1 => Mk H L k * 2 + nk L k / 9223372036854775808
theorem nk_bd (L : Int) (h : 0 ≤ L ∧ L < 18446744073709551616) : ∀ k, 0 ≤ nk L k ∧ nk L k < 18446744073709551616
  | 0 => h
  | k + 1 => by unfold nk; omega
theorem Mk_eq (H L : Int) (h : 0 ≤ L ∧ L < 18446744073709551616) : ∀ k, Mk H L k * 18446744073709551616 + nk L k = (H * 18446744073709551616 + L) * 2 ^ k
  | 0 => by simp [Mk, nk]
  | k + 1 => by
    have := Mk_eq H L h k
    have b := nk_bd L h k
    rw [Int.pow_succ, ← Int.mul_assoc, ← this]
    show (Mk H L k * 2 + nk L k / 9223372036854775808) * 18446744073709551616 + nk L k * 2 % 18446744073709551616 = _
    omega
structure DivRel (H L c : Int) (k : Nat) (q r n : Int) : Prop where
  eq : q * c + r = Mk H L k
  r0 : 0 ≤ r
  r1 : r < c
  q0 : 0 ≤ q
  q1 : q < 2 ^ k
  n : n = nk L k
theorem DivRel.start {H L c : Int} (h0 : 0 ≤ H) (h1 : H < c) : DivRel H L c 0 0 H L := ⟨by simp [Mk], h0, h1, by omega, by simp, rfl⟩
theorem DivRel.nbd {H L c q r n : Int} {k : Nat} (h : DivRel H L c k q r n) (hL : 0 ≤ L ∧ L < 18446744073709551616) : 0 ≤ n ∧ n < 18446744073709551616 := by
  rw [h.n]; exact nk_bd L hL k
theorem DivRel.qbd {H L c q r n : Int} {k : Nat} (h : DivRel H L c k q r n) (hk : k < 64) : q < 9223372036854775808 := by
  have hp : (2 : Nat) ^ k ≤ 2 ^ 63 := Nat.pow_le_pow_right (by decide) (by omega)
  have : (2 : Int) ^ k ≤ 2 ^ 63 := by exact_mod_cast hp
  have := h.q1
  omega
theorem DivRel.less {H L c q r n : Int} {k : Nat} (h : DivRel H L c k q r n) (hs : r * 2 + n / 9223372036854775808 < c) (hL : 0 ≤ L ∧ L < 18446744073709551616) :
    DivRel H L c (k + 1) (q * 2) (r * 2 + n / 9223372036854775808) (n * 2 % 18446744073709551616) := by
  have hn := h.nbd hL
  have h0 := h.r0
  refine ⟨?_, by omega, hs, by have := h.q0; omega, ?_, ?_⟩
  · unfold Mk; rw [← h.eq, ← h.n, Int.add_mul, Int.mul_right_comm]; omega
  · have := h.q1; rw [Int.pow_succ]; omega
  · rw [h.n]; rfl
theorem DivRel.more {H L c q r n : Int} {k : Nat} (h : DivRel H L c k q r n) (hs : c ≤ r * 2 + n / 9223372036854775808) (hL : 0 ≤ L ∧ L < 18446744073709551616) :
    DivRel H L c (k + 1) (q * 2 + 1) (r * 2 + n / 9223372036854775808 - c) (n * 2 % 18446744073709551616) := by
  have hn := h.nbd hL
  have h0 := h.r0
  have h1 := h.r1
  refine ⟨?_, by omega, by omega, by have := h.q0; omega, ?_, ?_⟩
  · unfold Mk; rw [← h.eq, ← h.n, Int.add_mul, Int.add_mul, Int.mul_right_comm]; omega
  · have := h.q1; rw [Int.pow_succ]; omega
  · rw [h.n]; rfl
theorem DivRel.done {H L c q r n : Int} (h : DivRel H L c 64 q r n) (hL : 0 ≤ L ∧ L < 18446744073709551616) :
    (H * 18446744073709551616 + L) / c = q ∧ (H * 18446744073709551616 + L) % c = r := by
  refine divmod_of ?_ h.r0 h.r1
  rw [h.eq]
  have e := Mk_eq H L hL 64
  have b := nk_bd L hL 64
  have p : (2 : Int) ^ 64 = 18446744073709551616 := by decide
  rw [p] at e
  omega
/-- Which of two is less. -/
def sgn (x y : Int) : Int := if x < y then -1 else if y < x then 1 else 0
theorem sgn_lt {x y : Int} (h : x < y) : sgn x y = -1 := if_pos h
theorem sgn_gt {x y : Int} (h : y < x) : sgn x y = 1 := by unfold sgn; rw [if_neg (by omega), if_pos h]
theorem sgn_eq {x y : Int} (h : x = y) : sgn x y = 0 := by unfold sgn; rw [if_neg (by omega), if_neg (by omega)]
theorem dig_eq (n : Int) : n = d3 n * 79228162514264337593543950336 + d2 n * 18446744073709551616 + d1 n * 4294967296 + d0 n := by unfold d3 d2 d1 d0; omega
/-- MulDiv's answers. -/
def mdQ (a b c : Int) (up : Bool) : Int := if up = true ∧ a * b % c ≠ 0 then a * b / c + 1 else a * b / c
def mdV (a b c : Int) (up : Bool) : Int := if a < 0 ∨ b < 0 ∨ c ≤ 0 then 0 else exV (mdQ a b c up)
def mdE (a b c : Int) (up : Bool) : Int := if a < 0 ∨ b < 0 ∨ c ≤ 0 then 1 else exE (mdQ a b c up)
theorem md_bad {a b c : Int} {up : Bool} (h : a < 0 ∨ b < 0 ∨ c ≤ 0) : mdV a b c up = 0 ∧ mdE a b c up = 1 := ⟨if_pos h, if_pos h⟩
theorem md_good {a b c : Int} {up : Bool} (h0 : 0 ≤ a) (h1 : 0 ≤ b) (h2 : 0 < c) : mdV a b c up = exV (mdQ a b c up) ∧ mdE a b c up = exE (mdQ a b c up) :=
  ⟨if_neg (by omega), if_neg (by omega)⟩
/-- CeilDiv's answers. -/
def cdV (a b : Int) : Int := if a < 0 ∨ b ≤ 0 then 0 else if a % b = 0 then a / b else a / b + 1
def cdE (a b : Int) : Int := if a < 0 ∨ b ≤ 0 then 1 else 0
/-- Gcd's, Lcm's and Cmp's answers. -/
def gcV (a b : Int) : Int := if a < 0 ∨ b < 0 then 0 else (Int.gcd a b : Int)
def gcE (a b : Int) : Int := if a < 0 ∨ b < 0 then 1 else 0
def lcV (a b : Int) : Int := if a < 0 ∨ b < 0 then 0 else if a = 0 ∨ b = 0 then 0 else exV (a / (Int.gcd a b : Int) * b)
def lcE (a b : Int) : Int := if a < 0 ∨ b < 0 then 1 else if a = 0 ∨ b = 0 then 0 else exE (a / (Int.gcd a b : Int) * b)
def cmV (a b c d : Int) : Int := if a < 0 ∨ b ≤ 0 ∨ c < 0 ∨ d ≤ 0 then 0 else sgn (a * d) (c * b)
def cmE (a b c d : Int) : Int := if a < 0 ∨ b ≤ 0 ∨ c < 0 ∨ d ≤ 0 then 1 else 0
end Go.Proofs.Ytnjkgalbbhmgjaa.qar
