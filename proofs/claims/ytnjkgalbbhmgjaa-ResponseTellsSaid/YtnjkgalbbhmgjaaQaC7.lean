/- The contracts of the document's own Mul, of Lcm and of the document's own Lcm. -/
import Derived.Test.YtnjkgalbbhmgjaaQaC6
namespace Go.Proofs.Ytnjkgalbbhmgjaa.qar
open Go.ChangeShapes Go.WideShapes Go.ChangeAt Go.RowKit
theorem exz {x : Int} (h : x = 0) : 0 = exV x ∧ 0 = exE x := by subst h; exact ⟨by rw [exV_in (by unfold inR; omega)], by rw [exE_in (by unfold inR; omega)]⟩
theorem exo {x : Int} (h : ¬ inR x) : 0 = exV x ∧ 2 = exE x := ⟨(exV_out h).symm, (exE_out h).symm⟩
theorem exi {x : Int} (h : inR x) : x = exV x ∧ 0 = exE x := ⟨(exV_in h).symm, (exE_in h).symm⟩
/-- Where the product wraps round, the quotient by one factor is not the other one. -/
theorem quo_ne {a b : Int} (ha : inR a) (hb : inR b) (b0 : b ≠ 0) (hx : ¬ (a = -9223372036854775808 ∧ b = -1)) (h : ¬ inR (a * b)) : wrap64 ((wrap64 (a * b)).tdiv b) ≠ a := by
  intro e
  have hp : inR (wrap64 (a * b)) := by unfold inR wrap64; omega
  have hm : ∃ k : Int, wrap64 (a * b) = a * b + k * 18446744073709551616 := ⟨-((a * b + 9223372036854775808) / 18446744073709551616), by unfold wrap64; omega⟩
  have hne : wrap64 (a * b) ≠ a * b := by intro g; rw [g] at hp; exact h hp
  have h1 := Int.mul_tdiv_add_tmod (wrap64 (a * b)) b
  have h2 := Int.natAbs_tmod (wrap64 (a * b)) b
  have h3 : ((wrap64 (a * b)).tdiv b).natAbs = (wrap64 (a * b)).natAbs / b.natAbs := Int.natAbs_tdiv (wrap64 (a * b)) b
  generalize wrap64 (a * b) = p at *
  have h4 : p.natAbs % b.natAbs < b.natAbs := Nat.mod_lt _ (by omega)
  have h5 : p.natAbs / b.natAbs ≤ p.natAbs := Nat.div_le_self _ _
  unfold inR at ha hb hp
  by_cases ht : p.tdiv b = a
  · rw [ht, Int.mul_comm] at h1
    obtain ⟨k, hk⟩ := hm
    omega
  · have h6 : p.tdiv b = 9223372036854775808 := by unfold wrap64 at e; omega
    have h7 : p.natAbs / b.natAbs = 9223372036854775808 := by rw [← h3, h6]; rfl
    have h8 : b.natAbs = 1 := by
      apply Classical.byContradiction; intro g
      have : p.natAbs / b.natAbs ≤ p.natAbs / 2 := Nat.div_le_div_left (by omega) (by omega)
      omega
    have h9 : a = -9223372036854775808 := by rw [h6] at e; unfold wrap64 at e; omega
    rcases (show b = 1 ∨ b = -1 by omega) with g | g
    · subst g; rw [Int.tdiv_one] at h6; omega
    · exact hx ⟨h9, g⟩
theorem quo_eq {a b : Int} (b0 : b ≠ 0) : (a * b).tdiv b = a := Int.mul_tdiv_cancel a b0
theorem quo_eq' {a b : Int} (a0 : a ≠ 0) : (a * b).tdiv a = b := Int.mul_tdiv_cancel_left b a0
set_option maxHeartbeats 2000000 in
theorem rmul_rest (a b : Int) (ha : inR a) (hb : inR b) (c1 : (a == 0) = false) (c2 : (b == 0) = false) (x y z u : Bool) (h1 : (a == -1) = x) (h2 : (b == -9223372036854775808) = y) (h3 : (b == -1) = z) (h4 : (a == -9223372036854775808) = u)
    (hxy : (x && y) = false) (hzu : (z && u) = false) (w : World) :
    Calls Try.prog 27 #[.int .i64 a, .int .i64 b] w fun e w' => e = .returned (.tuple #[.int .i64 (exV (a * b)), .int .i64 (exE (a * b))]) ∧ w = w' := by
  have a0 : a ≠ 0 := by simpa using c1
  have b0 : b ≠ 0 := by simpa using c2
  by_cases hr : inR (a * b)
  · have hm := Lib.hid (exi hr)
    have q1 : (a * b).tdiv b = a := quo_eq b0
    have q2 : (a * b).tdiv a = b := quo_eq' a0
    have hr' := hr
    unfold inR at ha hb hr'
    obtain ⟨ha1, ha2⟩ := ha
    obtain ⟨hb1, hb2⟩ := hb
    obtain ⟨hr1, hr2⟩ := hr'
    clear hr
    cases x <;> cases y <;> cases z <;> cases u <;> simp at hxy hzu
    all_goals
      go_enter Try.func27, Try.ntmps27
      go_wp2
      go_ret2
      exact ⟨ret2d hm.out, rfl⟩
  · have hm := Lib.hid (exo hr)
    have q1 := quo_ne ha hb b0 (by
      rintro ⟨g1, g2⟩
      have e3 : z = true := by rw [← h3, g2]; rfl
      have e4 : u = true := by rw [← h4, g1]; rfl
      rw [e3, e4] at hzu; exact absurd hzu (by decide)) hr
    have q1' : (wrap64 ((wrap64 (a * b)).tdiv b) != a) = true := by simpa using q1
    clear q1 hr
    unfold inR at ha hb
    obtain ⟨ha1, ha2⟩ := ha
    obtain ⟨hb1, hb2⟩ := hb
    cases x <;> cases y <;> cases z <;> cases u <;> simp at hxy hzu
    all_goals
      go_enter Try.func27, Try.ntmps27
      go_wp2
      go_ret2
      exact ⟨ret2d hm.out, rfl⟩
set_option maxHeartbeats 1000000 in
theorem rmul_any (a b : Int) (ha : inR a) (hb : inR b) (w : World) :
    Calls Try.prog 27 #[.int .i64 a, .int .i64 b] w fun e w' => e = .returned (.tuple #[.int .i64 (exV (a * b)), .int .i64 (exE (a * b))]) ∧ w = w' := by
  by_cases c1 : a = 0
  · have hm := Lib.hid (exz (x := a * b) (by rw [c1]; simp))
    have c1' : (a == 0) = true := by simpa using c1
    clear c1
    go_enter Try.func27, Try.ntmps27
    go_wp2
    go_ret2
    exact ⟨ret2d hm.out, rfl⟩
  · have c1' : (a == 0) = false := by simpa using c1
    by_cases c2 : b = 0
    · have hm := Lib.hid (exz (x := a * b) (by rw [c2]; simp))
      have c2' : (b == 0) = true := by simpa using c2
      clear c1 c2
      go_enter Try.func27, Try.ntmps27
      go_wp2
      go_ret2
      exact ⟨ret2d hm.out, rfl⟩
    · have c2' : (b == 0) = false := by simpa using c2
      by_cases c3 : a = -1 ∧ b = -9223372036854775808
      · obtain ⟨rfl, rfl⟩ := c3
        have hm := Lib.hid (exo (x := -1 * -9223372036854775808) (by decide))
        clear c1 c2 c1' c2' ha hb
        go_enter Try.func27, Try.ntmps27
        go_wp2
        go_ret2
        exact ⟨ret2d hm.out, rfl⟩
      · by_cases c4 : b = -1 ∧ a = -9223372036854775808
        · obtain ⟨rfl, rfl⟩ := c4
          have hm := Lib.hid (exo (x := -9223372036854775808 * -1) (by decide))
          clear c1 c2 c1' c2' ha hb c3
          go_enter Try.func27, Try.ntmps27
          go_wp2
          go_ret2
          exact ⟨ret2d hm.out, rfl⟩
        · refine rmul_rest a b ha hb c1' c2' _ _ _ _ rfl rfl rfl rfl ?_ ?_ w
          · simpa using c3
          · simpa using c4
/-! Lcm -/
theorem lc_bad {a b : Int} (h : a < 0 ∨ b < 0) : 0 = lcV a b ∧ 1 = lcE a b := ⟨(if_pos h).symm, (if_pos h).symm⟩
theorem lc_zero {a b : Int} (h0 : 0 ≤ a) (h1 : 0 ≤ b) (h : a = 0 ∨ b = 0) : 0 = lcV a b ∧ 0 = lcE a b := ⟨by unfold lcV; rw [if_neg (by omega), if_pos h], by unfold lcE; rw [if_neg (by omega), if_pos h]⟩
theorem lc_good {a b g : Int} (h0 : 0 ≤ a) (h1 : 0 ≤ b) (hg : g = Int.gcd a b) : exV (a / g * b) = lcV a b ∧ exE (a / g * b) = lcE a b := by
  subst hg
  by_cases h : a = 0 ∨ b = 0
  · have e : a / (Int.gcd a b : Int) * b = 0 := by rcases h with h | h <;> rw [h] <;> simp
    rw [e]
    have := lc_zero h0 h1 h
    rw [← this.1, ← this.2]
    exact ⟨(exz rfl).1.symm, (exz rfl).2.symm⟩
  · constructor
    · unfold lcV; rw [if_neg (by omega), if_neg h]
    · unfold lcE; rw [if_neg (by omega), if_neg h]
theorem gcd_le {a b : Int} (ha : inR a) (hb : inR b) (h0 : 0 ≤ a) (h1 : 0 ≤ b) (h : ¬ (a = 0 ∧ b = 0)) : 1 ≤ (Int.gcd a b : Int) ∧ (Int.gcd a b : Int) ≤ 9223372036854775807 := by
  unfold inR at ha hb
  have hp : 0 < Int.gcd a b := by rw [Int.gcd_pos_iff]; omega
  refine ⟨by omega, ?_⟩
  by_cases ha0 : a = 0
  · have hb0 : b ≠ 0 := by omega
    have := Int.le_of_dvd (by omega) (Int.gcd_dvd_right a b)
    omega
  · have := Int.le_of_dvd (by omega) (Int.gcd_dvd_left a b)
    omega
end Go.Proofs.Ytnjkgalbbhmgjaa.qar
