/- The contract of Mul: the product, or an error where it is no number of 64 bits. -/
import Derived.Test.YtnjkgalbbhmgjaaQaC2
namespace Go.Proofs.Ytnjkgalbbhmgjaa.qar
open Go.ChangeShapes Go.WideShapes Go.ChangeAt Go.RowKit
def mag (a : Int) : Int := a.natAbs
theorem mag_bd {a : Int} (h : inR a) : 0 ≤ mag a ∧ mag a ≤ 9223372036854775808 := by unfold mag; unfold inR at h; omega
theorem mag_neg {a : Int} (h : a < 0) : a = - mag a := by unfold mag; omega
theorem mag_pos {a : Int} (h : 0 ≤ a) : a = mag a := by unfold mag; omega
theorem mag_mul_bd {a b : Int} (ha : inR a) (hb : inR b) : 0 ≤ mag a * mag b ∧ mag a * mag b ≤ 85070591730234615865843651857942052864 :=
  ⟨Int.mul_nonneg (mag_bd ha).1 (mag_bd hb).1, Int.mul_le_mul (c := 9223372036854775808) (d := 9223372036854775808) (mag_bd ha).2 (mag_bd hb).2 (mag_bd hb).1 (by omega)⟩
theorem mul_same {a b : Int} (h : (a < 0) = (b < 0)) : a * b = mag a * mag b := by
  by_cases h1 : a < 0
  · have h2 : b < 0 := by rw [← h]; exact h1
    rw [mag_neg h1, mag_neg h2, Int.neg_mul_neg]; unfold mag; simp
  · have h2 : ¬ b < 0 := by rw [← h]; exact h1
    rw [mag_pos (a := a) (by omega), mag_pos (a := b) (by omega)]; unfold mag; simp
theorem mul_other {a b : Int} (h : (a < 0) ≠ (b < 0)) : a * b = -(mag a * mag b) := by
  by_cases h1 : a < 0
  · have h2 : ¬ b < 0 := by intro h2; exact h (by simp [h1, h2])
    rw [mag_neg h1, mag_pos (a := b) (by omega), Int.neg_mul]; unfold mag; simp
  · have h2 : b < 0 := by apply Classical.byContradiction; intro h2; exact h (by simp [h1, h2])
    rw [mag_pos (a := a) (by omega), mag_neg h2, Int.mul_neg]; unfold mag; simp
theorem size_mag (a : Int) (ha : inR a) (w : World) : Calls Try.prog 33 #[.int .i64 a] w fun e w' => e = .returned (.int .u64 (mag a)) ∧ w = w' := size_any a ha w
theorem high_N (N : Int) (h0 : 0 ≤ N) (h1 : N < 340282366920938463463374607431768211456) (w : World) :
    Calls Try.prog 34 #[.agg #[.int .u32 (d0 N), .int .u32 (d1 N), .int .u32 (d2 N), .int .u32 (d3 N)]] w fun e w' => e = .returned (.int .u64 (hi N)) ∧ Grew w w' := by
  rw [← hi_eq N]
  have h2 := d2_bd N
  have h3 := d3_bd N h0 h1
  exact high_any _ _ _ _ h2.1 h2.2 h3.1 h3.2 w
theorem low_N (N : Int) (w : World) :
    Calls Try.prog 35 #[.agg #[.int .u32 (d0 N), .int .u32 (d1 N), .int .u32 (d2 N), .int .u32 (d3 N)]] w fun e w' => e = .returned (.int .u64 (lo N)) ∧ Grew w w' := by
  rw [← lo_eq N]
  have h2 := d0_bd N
  have h3 := d1_bd N
  exact low_any _ _ _ _ h2.1 h2.2 h3.1 h3.2 w
theorem fin_pos {a b N : Int} (hs : Hid (a * b = N)) (h : Hid (N = hi N * 18446744073709551616 + lo N)) (c : Hid (hi N = 0)) (hl : 0 ≤ lo N ∧ lo N < 18446744073709551616) (k : lo N ≤ 9223372036854775807) :
    lo N = exV (a * b) ∧ 0 = exE (a * b) := by
  have h1 := hs.out; have h2 := h.out; have h3 := c.out; rw [h1]
  exact ⟨eqV (fun _ => by omega) (fun g => absurd (show inR N by unfold inR; omega) g), eqE (fun _ => rfl) (fun g => absurd (show inR N by unfold inR; omega) g)⟩
theorem fin_neg {a b N : Int} (hs : Hid (a * b = -N)) (h : Hid (N = hi N * 18446744073709551616 + lo N)) (c : Hid (hi N = 0)) (hl : 0 ≤ lo N ∧ lo N < 18446744073709551616) (k : lo N ≤ 9223372036854775808) :
    wrap64 (IntKind.u64.wrap (-lo N)) = exV (a * b) ∧ 0 = exE (a * b) := by
  have h1 := hs.out; have h2 := h.out; have h3 := c.out; rw [h1]
  exact ⟨eqV (fun _ => by rw [IntKind.wrap_u64]; unfold wrap64; omega) (fun g => absurd (show inR (-N) by unfold inR; omega) g), eqE (fun _ => rfl) (fun g => absurd (show inR (-N) by unfold inR; omega) g)⟩
theorem fin_over1 {a b N : Int} (hs : Hid (a * b = N)) (h : Hid (N = hi N * 18446744073709551616 + lo N)) (hh : 0 ≤ hi N ∧ hi N < 18446744073709551616) (hl : 0 ≤ lo N ∧ lo N < 18446744073709551616) (k : 9223372036854775807 < lo N ∨ 1 ≤ hi N) :
    0 = exV (a * b) ∧ 2 = exE (a * b) := by
  have h1 := hs.out; have h2 := h.out; rw [h1]
  exact ⟨eqV (fun g => absurd g (show ¬ inR N by unfold inR; omega)) (fun _ => rfl), eqE (fun g => absurd g (show ¬ inR N by unfold inR; omega)) (fun _ => rfl)⟩
theorem fin_over {a b N : Int} (hs : Hid (a * b = -N)) (h : Hid (N = hi N * 18446744073709551616 + lo N)) (hh : 0 ≤ hi N ∧ hi N < 18446744073709551616) (hl : 0 ≤ lo N ∧ lo N < 18446744073709551616) (k : 9223372036854775808 < lo N ∨ 1 ≤ hi N) :
    0 = exV (a * b) ∧ 2 = exE (a * b) := by
  have h1 := hs.out; have h2 := h.out; rw [h1]
  exact ⟨eqV (fun g => absurd g (show ¬ inR (-N) by unfold inR; omega)) (fun _ => rfl), eqE (fun g => absurd g (show ¬ inR (-N) by unfold inR; omega)) (fun _ => rfl)⟩
theorem lt_of_grew {w w2 : World} {o : Obj} (h : Grew (w.alloc o) w2) : w.heap.size < w2.heap.size := by have := h.size; simp at this; omega
set_option maxHeartbeats 1000000 in
theorem mul_any (a b : Int) (ha : inR a) (hb : inR b) (w : World) :
    Calls Try.prog 25 #[.int .i64 a, .int .i64 b] w fun e w' => e = .returned (.tuple #[.int .i64 (exV (a * b)), .int .i64 (exE (a * b))]) ∧ Grew w w' := by
  obtain ⟨N, hN⟩ : ∃ N, N = mag a * mag b := ⟨_, rfl⟩
  have hN0 : 0 ≤ N ∧ N ≤ 85070591730234615865843651857942052864 := by rw [hN]; exact mag_mul_bd ha hb
  have ma := mag_bd ha
  have mb := mag_bd hb
  have hlo := lo_bd N
  have hhi := hi_bd N hN0.1 (by omega)
  have hNe : N = hi N * 18446744073709551616 + lo N := by unfold hi lo; omega
  have HN := Lib.hid hN
  have HNe := Lib.hid hNe
  clear hN hNe
  have cm : ∀ w, Calls Try.prog 32 #[.int .u64 (mag a), .int .u64 (mag b)] w fun e w' => e = .returned (.agg #[.int .u32 (d0 N), .int .u32 (d1 N), .int .u32 (d2 N), .int .u32 (d3 N)]) ∧ Grew w w' := by
    intro w; rw [HN.out]; exact multiply_any _ _ ma.1 (by omega) mb.1 (by omega) w
  have CM := Lib.hid cm
  clear cm
  by_cases sa : a < 0
  · by_cases sb : b < 0
    · have sa' : decide (a < 0) = true := by simpa using sa
      have sb' : decide (b < 0) = true := by simpa using sb
      have hs : Hid (a * b = N) := by rw [HN.out]; exact mul_same (by simp [sa, sb])
      by_cases c1 : hi N = 0
      · have c1' : (hi N != 0) = false := by simp [c1]
        have C1 := Lib.hid c1
        clear c1
        by_cases c2 : lo N ≤ 9223372036854775807
        · go_enter Try.func25, Try.ntmps25
          go_wp2_with (first | (go_at_call 33; refine (size_mag _ ‹_› _).mono ?_; rintro e w' ⟨rfl, rfl⟩) | (go_at_call 32; refine (CM.out _).mono ?_; rintro e w1 ⟨rfl, hg1⟩) | (go_at_call 34; refine (high_N N hN0.1 (by omega) _).mono ?_; rintro e w2 ⟨rfl, hg2⟩; have hc2 := hg2.cells; have hz2 : w1.heap.size < w2.heap.size := lt_of_grew hg2; have HG : Grew w w2 := (hg1.alloc _ _).trans hg2) | (go_at_call 35; refine (low_N N _).mono ?_; rintro e w3 ⟨rfl, hg3⟩; have hc3 := hg3.cells; have hz3 := hg3.size; have HG := HG.trans hg3))
          go_ret2
          exact ⟨ret2 (fin_pos hs HNe C1 hlo c2).1 (fin_pos hs HNe C1 hlo c2).2, HG⟩
        · go_enter Try.func25, Try.ntmps25
          go_wp2_with (first | (go_at_call 33; refine (size_mag _ ‹_› _).mono ?_; rintro e w' ⟨rfl, rfl⟩) | (go_at_call 32; refine (CM.out _).mono ?_; rintro e w1 ⟨rfl, hg1⟩) | (go_at_call 34; refine (high_N N hN0.1 (by omega) _).mono ?_; rintro e w2 ⟨rfl, hg2⟩; have hc2 := hg2.cells; have hz2 : w1.heap.size < w2.heap.size := lt_of_grew hg2; have HG : Grew w w2 := (hg1.alloc _ _).trans hg2) | (go_at_call 35; refine (low_N N _).mono ?_; rintro e w3 ⟨rfl, hg3⟩; have hc3 := hg3.cells; have hz3 := hg3.size; have HG := HG.trans hg3))
          go_ret2
          exact ⟨ret2 (fin_over1 hs HNe hhi hlo (by omega)).1 (fin_over1 hs HNe hhi hlo (by omega)).2, HG⟩
      · have c1' : (hi N != 0) = true := by simp [c1]
        have c2 : 1 ≤ hi N := by omega
        clear c1
        go_enter Try.func25, Try.ntmps25
        go_wp2_with (first | (go_at_call 33; refine (size_mag _ ‹_› _).mono ?_; rintro e w' ⟨rfl, rfl⟩) | (go_at_call 32; refine (CM.out _).mono ?_; rintro e w1 ⟨rfl, hg1⟩) | (go_at_call 34; refine (high_N N hN0.1 (by omega) _).mono ?_; rintro e w2 ⟨rfl, hg2⟩; have hc2 := hg2.cells; have hz2 : w1.heap.size < w2.heap.size := lt_of_grew hg2; have HG : Grew w w2 := (hg1.alloc _ _).trans hg2) | (go_at_call 35; refine (low_N N _).mono ?_; rintro e w3 ⟨rfl, hg3⟩; have hc3 := hg3.cells; have hz3 := hg3.size; have HG := HG.trans hg3))
        go_ret2
        exact ⟨ret2 (fin_over1 hs HNe hhi hlo (by omega)).1 (fin_over1 hs HNe hhi hlo (by omega)).2, HG⟩
    · have sa' : decide (a < 0) = true := by simpa using sa
      have sb' : decide (b < 0) = false := by simpa using sb
      have hs : Hid (a * b = -N) := by rw [HN.out]; exact mul_other (by simp [sa, sb])
      by_cases c1 : hi N = 0
      · have c1' : (hi N != 0) = false := by simp [c1]
        have C1 := Lib.hid c1
        clear c1
        by_cases c2 : lo N ≤ 9223372036854775808
        · go_enter Try.func25, Try.ntmps25
          go_wp2_with (first | (go_at_call 33; refine (size_mag _ ‹_› _).mono ?_; rintro e w' ⟨rfl, rfl⟩) | (go_at_call 32; refine (CM.out _).mono ?_; rintro e w1 ⟨rfl, hg1⟩) | (go_at_call 34; refine (high_N N hN0.1 (by omega) _).mono ?_; rintro e w2 ⟨rfl, hg2⟩; have hc2 := hg2.cells; have hz2 : w1.heap.size < w2.heap.size := lt_of_grew hg2; have HG : Grew w w2 := (hg1.alloc _ _).trans hg2) | (go_at_call 35; refine (low_N N _).mono ?_; rintro e w3 ⟨rfl, hg3⟩; have hc3 := hg3.cells; have hz3 := hg3.size; have HG := HG.trans hg3))
          go_ret2
          exact ⟨ret2 (fin_neg hs HNe C1 hlo c2).1 (fin_neg hs HNe C1 hlo c2).2, HG⟩
        · go_enter Try.func25, Try.ntmps25
          go_wp2_with (first | (go_at_call 33; refine (size_mag _ ‹_› _).mono ?_; rintro e w' ⟨rfl, rfl⟩) | (go_at_call 32; refine (CM.out _).mono ?_; rintro e w1 ⟨rfl, hg1⟩) | (go_at_call 34; refine (high_N N hN0.1 (by omega) _).mono ?_; rintro e w2 ⟨rfl, hg2⟩; have hc2 := hg2.cells; have hz2 : w1.heap.size < w2.heap.size := lt_of_grew hg2; have HG : Grew w w2 := (hg1.alloc _ _).trans hg2) | (go_at_call 35; refine (low_N N _).mono ?_; rintro e w3 ⟨rfl, hg3⟩; have hc3 := hg3.cells; have hz3 := hg3.size; have HG := HG.trans hg3))
          go_ret2
          exact ⟨ret2 (fin_over hs HNe hhi hlo (by omega)).1 (fin_over hs HNe hhi hlo (by omega)).2, HG⟩
      · have c1' : (hi N != 0) = true := by simp [c1]
        have c2 : 1 ≤ hi N := by omega
        clear c1
        go_enter Try.func25, Try.ntmps25
        go_wp2_with (first | (go_at_call 33; refine (size_mag _ ‹_› _).mono ?_; rintro e w' ⟨rfl, rfl⟩) | (go_at_call 32; refine (CM.out _).mono ?_; rintro e w1 ⟨rfl, hg1⟩) | (go_at_call 34; refine (high_N N hN0.1 (by omega) _).mono ?_; rintro e w2 ⟨rfl, hg2⟩; have hc2 := hg2.cells; have hz2 : w1.heap.size < w2.heap.size := lt_of_grew hg2; have HG : Grew w w2 := (hg1.alloc _ _).trans hg2) | (go_at_call 35; refine (low_N N _).mono ?_; rintro e w3 ⟨rfl, hg3⟩; have hc3 := hg3.cells; have hz3 := hg3.size; have HG := HG.trans hg3))
        go_ret2
        exact ⟨ret2 (fin_over hs HNe hhi hlo (by omega)).1 (fin_over hs HNe hhi hlo (by omega)).2, HG⟩
  · by_cases sb : b < 0
    · have sa' : decide (a < 0) = false := by simpa using sa
      have sb' : decide (b < 0) = true := by simpa using sb
      have hs : Hid (a * b = -N) := by rw [HN.out]; exact mul_other (by simp [sa, sb])
      by_cases c1 : hi N = 0
      · have c1' : (hi N != 0) = false := by simp [c1]
        have C1 := Lib.hid c1
        clear c1
        by_cases c2 : lo N ≤ 9223372036854775808
        · go_enter Try.func25, Try.ntmps25
          go_wp2_with (first | (go_at_call 33; refine (size_mag _ ‹_› _).mono ?_; rintro e w' ⟨rfl, rfl⟩) | (go_at_call 32; refine (CM.out _).mono ?_; rintro e w1 ⟨rfl, hg1⟩) | (go_at_call 34; refine (high_N N hN0.1 (by omega) _).mono ?_; rintro e w2 ⟨rfl, hg2⟩; have hc2 := hg2.cells; have hz2 : w1.heap.size < w2.heap.size := lt_of_grew hg2; have HG : Grew w w2 := (hg1.alloc _ _).trans hg2) | (go_at_call 35; refine (low_N N _).mono ?_; rintro e w3 ⟨rfl, hg3⟩; have hc3 := hg3.cells; have hz3 := hg3.size; have HG := HG.trans hg3))
          go_ret2
          exact ⟨ret2 (fin_neg hs HNe C1 hlo c2).1 (fin_neg hs HNe C1 hlo c2).2, HG⟩
        · go_enter Try.func25, Try.ntmps25
          go_wp2_with (first | (go_at_call 33; refine (size_mag _ ‹_› _).mono ?_; rintro e w' ⟨rfl, rfl⟩) | (go_at_call 32; refine (CM.out _).mono ?_; rintro e w1 ⟨rfl, hg1⟩) | (go_at_call 34; refine (high_N N hN0.1 (by omega) _).mono ?_; rintro e w2 ⟨rfl, hg2⟩; have hc2 := hg2.cells; have hz2 : w1.heap.size < w2.heap.size := lt_of_grew hg2; have HG : Grew w w2 := (hg1.alloc _ _).trans hg2) | (go_at_call 35; refine (low_N N _).mono ?_; rintro e w3 ⟨rfl, hg3⟩; have hc3 := hg3.cells; have hz3 := hg3.size; have HG := HG.trans hg3))
          go_ret2
          exact ⟨ret2 (fin_over hs HNe hhi hlo (by omega)).1 (fin_over hs HNe hhi hlo (by omega)).2, HG⟩
      · have c1' : (hi N != 0) = true := by simp [c1]
        have c2 : 1 ≤ hi N := by omega
        clear c1
        go_enter Try.func25, Try.ntmps25
        go_wp2_with (first | (go_at_call 33; refine (size_mag _ ‹_› _).mono ?_; rintro e w' ⟨rfl, rfl⟩) | (go_at_call 32; refine (CM.out _).mono ?_; rintro e w1 ⟨rfl, hg1⟩) | (go_at_call 34; refine (high_N N hN0.1 (by omega) _).mono ?_; rintro e w2 ⟨rfl, hg2⟩; have hc2 := hg2.cells; have hz2 : w1.heap.size < w2.heap.size := lt_of_grew hg2; have HG : Grew w w2 := (hg1.alloc _ _).trans hg2) | (go_at_call 35; refine (low_N N _).mono ?_; rintro e w3 ⟨rfl, hg3⟩; have hc3 := hg3.cells; have hz3 := hg3.size; have HG := HG.trans hg3))
        go_ret2
        exact ⟨ret2 (fin_over hs HNe hhi hlo (by omega)).1 (fin_over hs HNe hhi hlo (by omega)).2, HG⟩
    · have sa' : decide (a < 0) = false := by simpa using sa
      have sb' : decide (b < 0) = false := by simpa using sb
      have hs : Hid (a * b = N) := by rw [HN.out]; exact mul_same (by simp [sa, sb])
      by_cases c1 : hi N = 0
      · have c1' : (hi N != 0) = false := by simp [c1]
        have C1 := Lib.hid c1
        clear c1
        by_cases c2 : lo N ≤ 9223372036854775807
        · go_enter Try.func25, Try.ntmps25
          go_wp2_with (first | (go_at_call 33; refine (size_mag _ ‹_› _).mono ?_; rintro e w' ⟨rfl, rfl⟩) | (go_at_call 32; refine (CM.out _).mono ?_; rintro e w1 ⟨rfl, hg1⟩) | (go_at_call 34; refine (high_N N hN0.1 (by omega) _).mono ?_; rintro e w2 ⟨rfl, hg2⟩; have hc2 := hg2.cells; have hz2 : w1.heap.size < w2.heap.size := lt_of_grew hg2; have HG : Grew w w2 := (hg1.alloc _ _).trans hg2) | (go_at_call 35; refine (low_N N _).mono ?_; rintro e w3 ⟨rfl, hg3⟩; have hc3 := hg3.cells; have hz3 := hg3.size; have HG := HG.trans hg3))
          go_ret2
          exact ⟨ret2 (fin_pos hs HNe C1 hlo c2).1 (fin_pos hs HNe C1 hlo c2).2, HG⟩
        · go_enter Try.func25, Try.ntmps25
          go_wp2_with (first | (go_at_call 33; refine (size_mag _ ‹_› _).mono ?_; rintro e w' ⟨rfl, rfl⟩) | (go_at_call 32; refine (CM.out _).mono ?_; rintro e w1 ⟨rfl, hg1⟩) | (go_at_call 34; refine (high_N N hN0.1 (by omega) _).mono ?_; rintro e w2 ⟨rfl, hg2⟩; have hc2 := hg2.cells; have hz2 : w1.heap.size < w2.heap.size := lt_of_grew hg2; have HG : Grew w w2 := (hg1.alloc _ _).trans hg2) | (go_at_call 35; refine (low_N N _).mono ?_; rintro e w3 ⟨rfl, hg3⟩; have hc3 := hg3.cells; have hz3 := hg3.size; have HG := HG.trans hg3))
          go_ret2
          exact ⟨ret2 (fin_over1 hs HNe hhi hlo (by omega)).1 (fin_over1 hs HNe hhi hlo (by omega)).2, HG⟩
      · have c1' : (hi N != 0) = true := by simp [c1]
        have c2 : 1 ≤ hi N := by omega
        clear c1
        go_enter Try.func25, Try.ntmps25
        go_wp2_with (first | (go_at_call 33; refine (size_mag _ ‹_› _).mono ?_; rintro e w' ⟨rfl, rfl⟩) | (go_at_call 32; refine (CM.out _).mono ?_; rintro e w1 ⟨rfl, hg1⟩) | (go_at_call 34; refine (high_N N hN0.1 (by omega) _).mono ?_; rintro e w2 ⟨rfl, hg2⟩; have hc2 := hg2.cells; have hz2 : w1.heap.size < w2.heap.size := lt_of_grew hg2; have HG : Grew w w2 := (hg1.alloc _ _).trans hg2) | (go_at_call 35; refine (low_N N _).mono ?_; rintro e w3 ⟨rfl, hg3⟩; have hc3 := hg3.cells; have hz3 := hg3.size; have HG := HG.trans hg3))
        go_ret2
        exact ⟨ret2 (fin_over1 hs HNe hhi hlo (by omega)).1 (fin_over1 hs HNe hhi hlo (by omega)).2, HG⟩
end Go.Proofs.Ytnjkgalbbhmgjaa.qar
