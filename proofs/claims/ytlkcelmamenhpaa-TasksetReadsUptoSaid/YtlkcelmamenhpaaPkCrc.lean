/- Plain mathematics of the checksum: bit by bit, byte by byte; what differs once stays different. -/
namespace Go.Proofs.Ytlkcelmamenhpaa
/-- One bit into the value. -/
def crcBit (v b : Nat) : Nat := if b = v / 32768 then 2 * v % 65536 else (2 * v % 65536) ^^^ 4129
def bitAt (x k : Nat) : Nat := x / 2 ^ k % 2
/-- The lowest k bits of x, the greatest one first. -/
def crcBits (x : Nat) : Nat → Nat → Nat
  | 0, v => v
  | k + 1, v => crcBits x k (crcBit v (bitAt x k))
def crcByte (v x : Nat) : Nat := crcBits x 8 v
def crc (v : Nat) (l : List Nat) : Nat := l.foldl crcByte v
theorem bitAt_lt (x k : Nat) : bitAt x k < 2 := Nat.mod_lt _ (by omega)
theorem crcBit_lt {v : Nat} (b : Nat) : crcBit v b < 65536 := by
  unfold crcBit
  have h : 2 * v % 65536 < 65536 := Nat.mod_lt _ (by omega)
  by_cases e : b = v / 32768
  · rw [if_pos e]; exact h
  · rw [if_neg e]; exact Nat.xor_lt_two_pow (n := 16) h (by omega)
theorem xor_odd (v : Nat) : ((2 * v % 65536) ^^^ 4129) % 2 = 1 := by
  rw [Nat.xor_mod_two_eq_one]; omega
theorem xor_back {a b c : Nat} (h : a ^^^ c = b ^^^ c) : a = b := by
  have := congrArg (· ^^^ c) h
  simpa [Nat.xor_assoc] using this
theorem crcBit_inj {v v' b : Nat} (h1 : v < 65536) (h2 : v' < 65536) (hb : b < 2) (h : crcBit v b = crcBit v' b) : v = v' := by
  unfold crcBit at h
  have o1 := xor_odd v
  have o2 := xor_odd v'
  by_cases e1 : b = v / 32768
  · by_cases e2 : b = v' / 32768
    · rw [if_pos e1, if_pos e2] at h; omega
    · rw [if_pos e1, if_neg e2] at h; omega
  · by_cases e2 : b = v' / 32768
    · rw [if_neg e1, if_pos e2] at h; omega
    · rw [if_neg e1, if_neg e2] at h
      have := xor_back h
      omega
theorem crcBit_ne {v b b' : Nat} (h1 : v < 65536) (hb : b < 2) (hb' : b' < 2) (hne : b ≠ b') : crcBit v b ≠ crcBit v b' := by
  unfold crcBit
  have o1 := xor_odd v
  by_cases e1 : b = v / 32768
  · rw [if_pos e1, if_neg (by omega)]; omega
  · by_cases e2 : b' = v / 32768
    · rw [if_neg e1, if_pos e2]; omega
    · omega
theorem crcBits_lt (x k : Nat) {v : Nat} (h : v < 65536) : crcBits x k v < 65536 := by
  induction k generalizing v with
  | zero => exact h
  | succ k ih => exact ih (crcBit_lt _)
theorem crcBits_inj (x k : Nat) {v v' : Nat} (h1 : v < 65536) (h2 : v' < 65536) (h : crcBits x k v = crcBits x k v') : v = v' := by
  induction k generalizing v v' with
  | zero => exact h
  | succ k ih => exact crcBit_inj h1 h2 (bitAt_lt x k) (ih (crcBit_lt _) (crcBit_lt _) h)
theorem crcByte_lt {v : Nat} (x : Nat) (h : v < 65536) : crcByte v x < 65536 := crcBits_lt x 8 h
theorem crc_lt {v : Nat} (l : List Nat) (h : v < 65536) : crc v l < 65536 := by
  induction l generalizing v with
  | nil => exact h
  | cons x t ih => exact ih (crcByte_lt x h)
theorem crc_append (v : Nat) (a b : List Nat) : crc v (a ++ b) = crc (crc v a) b := by unfold crc; rw [List.foldl_append]
/-- What is different stays different, with the same bytes behind. -/
theorem crc_inj {v v' : Nat} (l : List Nat) (h1 : v < 65536) (h2 : v' < 65536) (h : crc v l = crc v' l) : v = v' := by
  induction l generalizing v v' with
  | nil => exact h
  | cons x t ih => exact crcBits_inj x 8 h1 h2 (ih (crcByte_lt x h1) (crcByte_lt x h2) h)
theorem crc_same {v v' : Nat} (l : List Nat) (h1 : v < 65536) (h2 : v' < 65536) : decide (crc v l = crc v' l) = decide (v = v') := by
  by_cases e : v = v'
  · rw [e]; simp
  · have : ¬ crc v l = crc v' l := fun h => e (crc_inj l h1 h2 h)
    simp [e, this]
theorem bitAt_testBit (x k : Nat) : bitAt x k = (x.testBit k).toNat := (Nat.toNat_testBit x k).symm
theorem bitAt_flip_other {x k j : Nat} (h : j ≠ k) : bitAt (x ^^^ 2 ^ k) j = bitAt x j := by
  rw [bitAt_testBit, bitAt_testBit, Nat.testBit_xor, Nat.testBit_two_pow, decide_eq_false (Ne.symm h), Bool.xor_false]
theorem bitAt_flip_self (x k : Nat) : bitAt (x ^^^ 2 ^ k) k ≠ bitAt x k := by
  rw [bitAt_testBit, bitAt_testBit, Nat.testBit_xor, Nat.testBit_two_pow_self]
  cases x.testBit k <;> simp
/-- A bit turned below k makes a difference. -/
theorem crcBits_flip {x k n v : Nat} (hk : k < n) (h : v < 65536) : crcBits (x ^^^ 2 ^ k) n v ≠ crcBits x n v := by
  induction n generalizing v with
  | zero => omega
  | succ n ih =>
    by_cases e : k = n
    · subst e
      intro hh
      simp only [crcBits] at hh
      have same : ∀ m w, m ≤ k → crcBits (x ^^^ 2 ^ k) m w = crcBits x m w := by
        intro m
        induction m with
        | zero => intro w _; rfl
        | succ m im =>
          intro w hm
          simp only [crcBits]
          rw [bitAt_flip_other (by omega)]
          exact im _ (by omega)
      rw [same k _ (Nat.le_refl _)] at hh
      exact crcBit_ne h (bitAt_lt _ _) (bitAt_lt _ _) (bitAt_flip_self x k) (crcBits_inj x k (crcBit_lt _) (crcBit_lt _) hh)
    · simp only [crcBits]
      rw [bitAt_flip_other (Ne.symm e)]
      exact ih (by omega) (crcBit_lt _)
theorem crc_flip {v k x : Nat} (A B : List Nat) (hv : v < 65536) (hk : k < 8) : crc v (A ++ (x ^^^ 2 ^ k) :: B) ≠ crc v (A ++ x :: B) := by
  rw [crc_append, crc_append]
  intro h
  have hA := crc_lt A hv
  have : crcByte (crc v A) (x ^^^ 2 ^ k) = crcByte (crc v A) x := crc_inj B (crcByte_lt _ hA) (crcByte_lt _ hA) h
  exact crcBits_flip hk hA this
/-- Two bytes are a number. -/
theorem two_bytes {a b c d : Nat} (_ : a < 256) (hb : b < 256) (_ : c < 256) (hd : d < 256) (h : a * 256 + b = c * 256 + d) : a = c ∧ b = d := by omega
end Go.Proofs.Ytlkcelmamenhpaa
