/- The contracts of isLevel, wordOf, bitOf, ones and lowest. -/
import Derived.Test.YtgocjgipigjhbaaW
namespace Go.Proofs.Ytgocjgipigjhbaa
open Go.ChangeShapes Go.WideShapes Go.ChangeAt Go.RowKit
theorem ret_int {k : IntKind} {a b : Int} (h : a = b) : Ending.returned (.int k a) = .returned (.int k b) := by rw [h]
theorem ret_bool {a b : Bool} (h : a = b) : Ending.returned (.bool a) = .returned (.bool b) := by rw [h]
theorem level_yes (i : Int) (w : World) (h0 : 0 ≤ i) (h1 : i < 256) : Calls Try.prog 23 #[.int .i64 i] w fun e w' => e = .returned (.bool true) ∧ w = w' := by
  go_enter Try.func23, Try.ntmps23
  go_wp2
  all_goals go_ret
  all_goals exact ⟨by simp_all, rfl⟩
theorem level_no (i : Int) (w : World) (h : i < 0 ∨ 256 ≤ i) : Calls Try.prog 23 #[.int .i64 i] w fun e w' => e = .returned (.bool false) ∧ w = w' := by
  rcases h with h | h
  · have h' : decide (0 ≤ i) = false := by simp; omega
    go_enter Try.func23, Try.ntmps23
    go_wp2
    all_goals go_ret
    all_goals exact ⟨by simp_all, rfl⟩
  · have h' : 0 ≤ i := by omega
    have h2 : decide (i < 256) = false := by simp; omega
    go_enter Try.func23, Try.ntmps23
    go_wp2
    all_goals go_ret
    all_goals exact ⟨by simp_all, rfl⟩
theorem word_any (i : Nat) (w : World) (h : i < 256) : Calls Try.prog 24 #[.int .i64 i] w fun e w' => e = .returned (.int .i64 ((i / 64 : Nat) : Int)) ∧ w = w' := by
  go_enter Try.func24, Try.ntmps24
  go_wp2
  go_ret
  exact ⟨ret_int (by omega), rfl⟩
theorem wrap_bit (r : Nat) (h : r < 64) : IntKind.u64.wrap (2 ^ r) = ((2 ^ r : Nat) : Int) := by
  have h1 := two_pow_lt h
  have e : ((2 ^ r : Nat) : Int) = 2 ^ r := by rw [Int.natCast_pow]; rfl
  rw [IntKind.wrap_u64, ← e]
  generalize 2 ^ r = z at h1 ⊢
  omega
theorem bit_any (i : Nat) (w : World) (h : i < 256) : Calls Try.prog 25 #[.int .i64 i] w fun e w' => e = .returned (.int .u64 ((2 ^ (i % 64) : Nat) : Int)) ∧ w = w' := by
  go_enter Try.func25, Try.ntmps25
  go_wp2
  go_ret
  exact ⟨ret_int (wrap_bit _ (by omega)), rfl⟩
theorem and_word (y : Nat) (h0 : 0 < y) (h : y < 18446744073709551616) : bits BinOp.and IntKind.u64 (y : Int) ((y : Int) - 1) = ((y &&& (y - 1) : Nat) : Int) := by
  have e : ((y : Int) - 1) = ((y - 1 : Nat) : Int) := by omega
  rw [e]
  exact u64_and_nat y (y - 1) h (by omega)
theorem ones_any (x : Nat) (w : World) (h : x < 18446744073709551616) : Calls Try.prog 28 #[.int .u64 x] w fun e w' => e = .returned (.int .i64 (pop x)) ∧ w = w' := by
  have hp := pop_le x
  go_enter Try.func28, Try.ntmps28
  go_wp2
  go_loop [0, 3] (fun x' n => ∃ (y : Nat) (k : Nat), x' = .int .u64 y ∧ n = .int .i64 k ∧ y < 18446744073709551616 ∧ k + pop y ≤ 64 ∧ Hid (k + pop y = pop x)) (fun x n => (intOf x).toNat)
  case atStart => exact ⟨x, 0, rfl, rfl, h, by omega, Nat.zero_add _⟩
  case round =>
    obtain ⟨y, k, rfl, rfl, hy, hk, hs⟩ := hrel
    by_cases h0 : y = 0
    · subst h0
      have hz : Hid (k = pop x) := by have := hs.out; rw [pop_zero] at this; exact this
      go_wp2
      go_ret
      exact ⟨ret_int (by rw [← hz.out]), rfl⟩
    · have hpos : 0 < y := by omega
      have hne : ((y : Int) != 0) = true := by simp; omega
      obtain ⟨p1, p2⟩ := pop_step hpos hy
      have HP : Hid (pop (y &&& (y - 1)) + 1 = pop y) := p1
      have HA := Lib.hid (and_word y hpos hy)
      have hk' : k < 64 := by omega
      have hk2 : k + 1 + pop (y &&& (y - 1)) ≤ 64 := by omega
      have HS : Hid (k + 1 + pop (y &&& (y - 1)) = pop x) := by have := hs.out; show _ = _; omega
      clear p1 h0 hs
      go_wp2
      rw [HA.out]
      refine ⟨⟨y &&& (y - 1), k + 1, rfl, by go_num, by omega, by omega, HS⟩, ?_⟩
      simp [intOf]; omega
def LowEnd (x : Nat) (w : World) (e : Ending) (w' : World) : Prop := ∃ n : Nat, Low x n ∧ e = .returned (.int .i64 n) ∧ w = w'
/-- Ahead of a round: the lowest bit is among the 2^j from n on. -/
structure Lo (x j n : Nat) : Prop where
  le : n + 2 ^ j ≤ 64
  no : x % 2 ^ n = 0
  yes : x / 2 ^ n % 2 ^ (2 ^ j) ≠ 0
theorem lo_up {x J m y D : Nat} (h : Lo x (J + 1) m) (hy : x / 2 ^ m = y) (hD : 2 ^ (2 ^ J) = D) (ht : y % D = 0) : Lo x J (m + 2 ^ J) ∧ x / 2 ^ (m + 2 ^ J) = y / D := by
  have e : x / 2 ^ (m + 2 ^ J) = y / D := by rw [Nat.pow_add, ← Nat.div_div_eq_div_mul, hy, hD]
  have hp : 2 ^ (2 ^ (J + 1)) = D * D := by rw [← hD, ← Nat.pow_add, Nat.pow_succ, Nat.mul_two]
  refine ⟨⟨?_, ?_, ?_⟩, e⟩
  · have := h.le; rw [Nat.pow_succ] at this; omega
  · have h1 := Nat.div_add_mod x (2 ^ m)
    have h2 := Nat.div_add_mod y D
    rw [h.no, hy, Nat.add_zero] at h1
    rw [ht, Nat.add_zero] at h2
    rw [← h1, ← h2, Nat.pow_add, hD, ← Nat.mul_assoc]
    exact Nat.mul_mod_right _ _
  · rw [e, hD]
    intro hz
    have := h.yes
    rw [hy, hp, Nat.mod_mul, ht, hz] at this
    exact this (by simp)
theorem lo_dn {x J m y D : Nat} (h : Lo x (J + 1) m) (hy : x / 2 ^ m = y) (hD : 2 ^ (2 ^ J) = D) (ht : y % D ≠ 0) : Lo x J m := by
  refine ⟨?_, h.no, by rw [hy, hD]; exact ht⟩
  have := h.le; rw [Nat.pow_succ] at this; omega
set_option maxHeartbeats 1000000 in
theorem low_any (x : Nat) (w : World) (h0 : 0 < x) (h : x < 18446744073709551616) : Calls Try.prog 26 #[.int .u64 x] w (LowEnd x w) := by
  have HL : Hid (Lo x 6 0) := ⟨by decide, by simp [Nat.mod_one], by simp; omega⟩
  go_enter Try.func26, Try.ntmps26
  go_wp2
  go_loop [0, 3, 4] (fun y n f => ∃ (j m : Nat), y = .int .u64 ((x / 2 ^ m : Nat) : Int) ∧ n = .int .u64 m ∧ f = .int .u64 ((2 ^ j / 2 : Nat) : Int) ∧ j ≤ 6 ∧ m < 64 ∧ Hid (Lo x j m)) (fun _ _ f => (intOf f).toNat)
  case atStart => exact ⟨6, 0, by simp, rfl, rfl, by omega, by omega, HL⟩
  case round =>
    obtain ⟨j, m, rfl, rfl, rfl, hj, hm, hl⟩ := hrel
    obtain ⟨y, hy⟩ : ∃ y, x / 2 ^ m = y := ⟨_, rfl⟩
    have hylt : y < 18446744073709551616 := by rw [← hy]; exact Nat.lt_of_le_of_lt (Nat.div_le_self _ _) h
    rw [hy]
    have HY := Lib.hid hy
    clear hy
    match j, hj with
    | 0, _ =>
      have HE : Hid (LowEnd x w (.returned (.int .i64 m)) w) := ⟨m, low_of hm hl.out.no (by have := hl.out.yes; simpa using this), rfl, rfl⟩
      go_wp2
      go_ret
      exact HE.out
    | 1, _ =>
      have hle := hl.out.le
      by_cases ht : y % 2 = 0
      · obtain ⟨hl', he⟩ := lo_up (J := 0) (D := 2) hl.out HY.out (by decide) ht
        have hb : (IntKind.u64.wrap ((y : Int) * 9223372036854775808) == 0) = true := by simp only [beq_iff_eq, IntKind.wrap_u64]; omega
        have HL' := Lib.hid hl'
        have HE := Lib.hid he
        clear ht hl' he
        go_wp2
        refine ⟨⟨0, m + 1, congrArg _ (by have := HE.out; simp only [Nat.reducePow] at this; rw [this]; omega), by go_num, rfl, by omega, by omega, HL'⟩, by simp [intOf]⟩
      · have hl' := lo_dn (J := 0) (D := 2) hl.out HY.out (by decide) ht
        have hb : (IntKind.u64.wrap ((y : Int) * 9223372036854775808) == 0) = false := by rw [beq_eq_false_iff_ne, IntKind.wrap_u64]; omega
        have HL' := Lib.hid hl'
        clear ht hl'
        go_wp2
        refine ⟨⟨0, m, by rw [HY.out], rfl, rfl, by omega, by omega, HL'⟩, by simp [intOf]⟩
    | 2, _ =>
      have hle := hl.out.le
      by_cases ht : y % 4 = 0
      · obtain ⟨hl', he⟩ := lo_up (J := 1) (D := 4) hl.out HY.out (by decide) ht
        have hb : (IntKind.u64.wrap ((y : Int) * 4611686018427387904) == 0) = true := by simp only [beq_iff_eq, IntKind.wrap_u64]; omega
        have HL' := Lib.hid hl'
        have HE := Lib.hid he
        clear ht hl' he
        go_wp2
        refine ⟨⟨1, m + 2, congrArg _ (by have := HE.out; simp only [Nat.reducePow] at this; rw [this]; omega), by go_num, rfl, by omega, by omega, HL'⟩, by simp [intOf]⟩
      · have hl' := lo_dn (J := 1) (D := 4) hl.out HY.out (by decide) ht
        have hb : (IntKind.u64.wrap ((y : Int) * 4611686018427387904) == 0) = false := by rw [beq_eq_false_iff_ne, IntKind.wrap_u64]; omega
        have HL' := Lib.hid hl'
        clear ht hl'
        go_wp2
        refine ⟨⟨1, m, by rw [HY.out], rfl, rfl, by omega, by omega, HL'⟩, by simp [intOf]⟩
    | 3, _ =>
      have hle := hl.out.le
      by_cases ht : y % 16 = 0
      · obtain ⟨hl', he⟩ := lo_up (J := 2) (D := 16) hl.out HY.out (by decide) ht
        have hb : (IntKind.u64.wrap ((y : Int) * 1152921504606846976) == 0) = true := by simp only [beq_iff_eq, IntKind.wrap_u64]; omega
        have HL' := Lib.hid hl'
        have HE := Lib.hid he
        clear ht hl' he
        go_wp2
        refine ⟨⟨2, m + 4, congrArg _ (by have := HE.out; simp only [Nat.reducePow] at this; rw [this]; omega), by go_num, rfl, by omega, by omega, HL'⟩, by simp [intOf]⟩
      · have hl' := lo_dn (J := 2) (D := 16) hl.out HY.out (by decide) ht
        have hb : (IntKind.u64.wrap ((y : Int) * 1152921504606846976) == 0) = false := by rw [beq_eq_false_iff_ne, IntKind.wrap_u64]; omega
        have HL' := Lib.hid hl'
        clear ht hl'
        go_wp2
        refine ⟨⟨2, m, by rw [HY.out], rfl, rfl, by omega, by omega, HL'⟩, by simp [intOf]⟩
    | 4, _ =>
      have hle := hl.out.le
      by_cases ht : y % 256 = 0
      · obtain ⟨hl', he⟩ := lo_up (J := 3) (D := 256) hl.out HY.out (by decide) ht
        have hb : (IntKind.u64.wrap ((y : Int) * 72057594037927936) == 0) = true := by simp only [beq_iff_eq, IntKind.wrap_u64]; omega
        have HL' := Lib.hid hl'
        have HE := Lib.hid he
        clear ht hl' he
        go_wp2
        refine ⟨⟨3, m + 8, congrArg _ (by have := HE.out; simp only [Nat.reducePow] at this; rw [this]; omega), by go_num, rfl, by omega, by omega, HL'⟩, by simp [intOf]⟩
      · have hl' := lo_dn (J := 3) (D := 256) hl.out HY.out (by decide) ht
        have hb : (IntKind.u64.wrap ((y : Int) * 72057594037927936) == 0) = false := by rw [beq_eq_false_iff_ne, IntKind.wrap_u64]; omega
        have HL' := Lib.hid hl'
        clear ht hl'
        go_wp2
        refine ⟨⟨3, m, by rw [HY.out], rfl, rfl, by omega, by omega, HL'⟩, by simp [intOf]⟩
    | 5, _ =>
      have hle := hl.out.le
      by_cases ht : y % 65536 = 0
      · obtain ⟨hl', he⟩ := lo_up (J := 4) (D := 65536) hl.out HY.out (by decide) ht
        have hb : (IntKind.u64.wrap ((y : Int) * 281474976710656) == 0) = true := by simp only [beq_iff_eq, IntKind.wrap_u64]; omega
        have HL' := Lib.hid hl'
        have HE := Lib.hid he
        clear ht hl' he
        go_wp2
        refine ⟨⟨4, m + 16, congrArg _ (by have := HE.out; simp only [Nat.reducePow] at this; rw [this]; omega), by go_num, rfl, by omega, by omega, HL'⟩, by simp [intOf]⟩
      · have hl' := lo_dn (J := 4) (D := 65536) hl.out HY.out (by decide) ht
        have hb : (IntKind.u64.wrap ((y : Int) * 281474976710656) == 0) = false := by rw [beq_eq_false_iff_ne, IntKind.wrap_u64]; omega
        have HL' := Lib.hid hl'
        clear ht hl'
        go_wp2
        refine ⟨⟨4, m, by rw [HY.out], rfl, rfl, by omega, by omega, HL'⟩, by simp [intOf]⟩
    | 6, _ =>
      have hle := hl.out.le
      by_cases ht : y % 4294967296 = 0
      · obtain ⟨hl', he⟩ := lo_up (J := 5) (D := 4294967296) hl.out HY.out (by decide) ht
        have hb : (IntKind.u64.wrap ((y : Int) * 4294967296) == 0) = true := by simp only [beq_iff_eq, IntKind.wrap_u64]; omega
        have HL' := Lib.hid hl'
        have HE := Lib.hid he
        clear ht hl' he
        go_wp2
        refine ⟨⟨5, m + 32, congrArg _ (by have := HE.out; simp only [Nat.reducePow] at this; rw [this]; omega), by go_num, rfl, by omega, by omega, HL'⟩, by simp [intOf]⟩
      · have hl' := lo_dn (J := 5) (D := 4294967296) hl.out HY.out (by decide) ht
        have hb : (IntKind.u64.wrap ((y : Int) * 4294967296) == 0) = false := by rw [beq_eq_false_iff_ne, IntKind.wrap_u64]; omega
        have HL' := Lib.hid hl'
        clear ht hl'
        go_wp2
        refine ⟨⟨5, m, by rw [HY.out], rfl, rfl, by omega, by omega, HL'⟩, by simp [intOf]⟩
end Go.Proofs.Ytgocjgipigjhbaa
