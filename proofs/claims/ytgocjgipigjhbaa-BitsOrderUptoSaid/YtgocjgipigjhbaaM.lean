/- Sets of the levels 0 to 255 as four words of 64 bits: plain mathematics. -/
namespace Go.Proofs.Ytgocjgipigjhbaa
/-- Four words. -/
structure Q where
  a : Nat
  b : Nat
  c : Nat
  d : Nat
structure Q.ok (s : Q) : Prop where
  a : s.a < 18446744073709551616
  b : s.b < 18446744073709551616
  c : s.c < 18446744073709551616
  d : s.d < 18446744073709551616
def Q.w (s : Q) (k : Nat) : Nat := if k = 0 then s.a else if k = 1 then s.b else if k = 2 then s.c else s.d
/-- Is level i taken? -/
def Q.has (s : Q) (i : Nat) : Bool := (s.w (i / 64)).testBit (i % 64)
def Q.zero : Q := ⟨0, 0, 0, 0⟩
theorem pow64 : (2 : Nat) ^ 64 = 18446744073709551616 := by decide
theorem Q.zero_ok : Q.zero.ok := ⟨by decide, by decide, by decide, by decide⟩
theorem Q.w_lt {s : Q} (h : s.ok) (k : Nat) : s.w k < 18446744073709551616 := by
  unfold Q.w
  split
  · exact h.a
  · split
    · exact h.b
    · split
      · exact h.c
      · exact h.d
theorem bit_lt {x j : Nat} (h : x < 18446744073709551616) (hj : 64 ≤ j) : x.testBit j = false :=
  Nat.testBit_lt_two_pow (Nat.lt_of_lt_of_le (by rw [pow64]; exact h) (Nat.pow_le_pow_right (by omega) hj))
theorem word_ext {x y : Nat} (hx : x < 18446744073709551616) (hy : y < 18446744073709551616) (h : ∀ j, j < 64 → x.testBit j = y.testBit j) : x = y := by
  apply Nat.eq_of_testBit_eq
  intro j
  by_cases hj : j < 64
  · exact h j hj
  · rw [bit_lt hx (by omega), bit_lt hy (by omega)]
theorem has_at (s : Q) (k j : Nat) (hj : j < 64) : s.has (k * 64 + j) = (s.w k).testBit j := by
  unfold Q.has
  have h1 : (k * 64 + j) / 64 = k := by omega
  have h2 : (k * 64 + j) % 64 = j := by omega
  rw [h1, h2]
theorem Q.ext_has {s t : Q} (hs : s.ok) (ht : t.ok) (h : ∀ j, j < 256 → s.has j = t.has j) : s = t := by
  have key : ∀ k, k < 4 → s.w k = t.w k := fun k hk => word_ext (Q.w_lt hs k) (Q.w_lt ht k) (fun j hj => by
    rw [← has_at s k j hj, ← has_at t k j hj]; exact h _ (by omega))
  obtain ⟨a, b, c, d⟩ := s
  obtain ⟨a', b', c', d'⟩ := t
  have h0 := key 0 (by omega)
  have h1 := key 1 (by omega)
  have h2 := key 2 (by omega)
  have h3 := key 3 (by omega)
  simp [Q.w] at h0 h1 h2 h3
  subst h0 h1 h2 h3
  rfl
/-- The word of number k is f of it. -/
def Q.mk4 (f : Nat → Nat) : Q := ⟨f 0, f 1, f 2, f 3⟩
theorem Q.w_mk4 (f : Nat → Nat) {k : Nat} (hk : k < 4) : (Q.mk4 f).w k = f k := by
  unfold Q.mk4 Q.w
  match k, hk with
  | 0, _ => rfl
  | 1, _ => rfl
  | 2, _ => rfl
  | 3, _ => rfl
theorem Q.mk4_ok {f : Nat → Nat} (h : ∀ k, k < 4 → f k < 18446744073709551616) : (Q.mk4 f).ok := ⟨h 0 (by omega), h 1 (by omega), h 2 (by omega), h 3 (by omega)⟩
theorem Q.eta (s : Q) : Q.mk4 s.w = s := rfl
/-- One word is another one. -/
def Q.set (s : Q) (k x : Nat) : Q := Q.mk4 (fun j => if j = k then x else s.w j)
theorem Q.set_ok {s : Q} (h : s.ok) {k x : Nat} (hx : x < 18446744073709551616) : (s.set k x).ok := Q.mk4_ok (fun j _ => by
  split
  · exact hx
  · exact Q.w_lt h j)
theorem Q.w_set (s : Q) (k x : Nat) {j : Nat} (hj : j < 4) : (s.set k x).w j = if j = k then x else s.w j := Q.w_mk4 _ hj
theorem two_pow_lt {j : Nat} (h : j < 64) : 2 ^ j < 18446744073709551616 := by rw [← pow64]; exact Nat.pow_lt_pow_right (by omega) h
def Q.with_ (s : Q) (i : Nat) : Q := s.set (i / 64) (s.w (i / 64) ||| 2 ^ (i % 64))
def Q.without (s : Q) (i : Nat) : Q := s.set (i / 64) (s.w (i / 64) &&& (18446744073709551615 - 2 ^ (i % 64)))
theorem or_lt {x y : Nat} (hx : x < 18446744073709551616) (hy : y < 18446744073709551616) : x ||| y < 18446744073709551616 := by
  rw [← pow64] at *; exact Nat.or_lt_two_pow hx hy
theorem and_lt {x y : Nat} (hx : x < 18446744073709551616) : x &&& y < 18446744073709551616 := Nat.lt_of_le_of_lt Nat.and_le_left hx
theorem Q.with_ok {s : Q} (h : s.ok) (i : Nat) : (s.with_ i).ok := Q.set_ok h (or_lt (Q.w_lt h _) (two_pow_lt (by omega)))
theorem Q.without_ok {s : Q} (h : s.ok) (i : Nat) : (s.without i).ok := Q.set_ok h (and_lt (Q.w_lt h _))
theorem not_bit {r j : Nat} (hr : r < 64) (hj : j < 64) : (18446744073709551615 - 2 ^ r).testBit j = !decide (j = r) := by
  have h := Nat.testBit_two_pow_sub_succ (x := 2 ^ r) (n := 64) (by rw [pow64]; exact two_pow_lt hr) j
  rw [pow64] at h
  have e : 18446744073709551616 - (2 ^ r + 1) = 18446744073709551615 - 2 ^ r := by omega
  rw [e] at h
  rw [h, Nat.testBit_two_pow]
  simp [hj, eq_comm]
theorem Q.has_set (s : Q) {k x j : Nat} (hj : j < 256) : (s.set k x).has j = if j / 64 = k then x.testBit (j % 64) else s.has j := by
  unfold Q.has
  rw [Q.w_set s k x (by omega)]
  split <;> rfl
theorem Q.has_with (s : Q) {i j : Nat} (_ : i < 256) (hj : j < 256) : (s.with_ i).has j = (s.has j || decide (j = i)) := by
  unfold Q.with_
  rw [Q.has_set s hj]
  by_cases e : j / 64 = i / 64
  · rw [if_pos e, Nat.testBit_or, Nat.testBit_two_pow]
    unfold Q.has
    rw [e]
    have : (i % 64 = j % 64) ↔ j = i := by omega
    simp [this]
  · rw [if_neg e]
    have : j ≠ i := fun h => e (by rw [h])
    simp [this]
theorem Q.has_without (s : Q) {i j : Nat} (_ : i < 256) (hj : j < 256) : (s.without i).has j = (s.has j && !decide (j = i)) := by
  unfold Q.without
  rw [Q.has_set s hj]
  by_cases e : j / 64 = i / 64
  · rw [if_pos e, Nat.testBit_and, not_bit (by omega) (by omega)]
    unfold Q.has
    rw [e]
    have : (j % 64 = i % 64) ↔ j = i := by omega
    simp [this]
  · rw [if_neg e]
    have : j ≠ i := fun h => e (by rw [h])
    simp [this]
theorem Q.has_zero (j : Nat) : Q.zero.has j = false := by
  unfold Q.has Q.zero Q.w
  simp
/-- The levels from m on. -/
def keep (m k x : Nat) : Nat := if k < m / 64 then 0 else if k = m / 64 then x &&& (18446744073709551615 - (2 ^ (m % 64) - 1)) else x
def Q.from_ (s : Q) (m : Nat) : Q := Q.mk4 (fun k => keep m k (s.w k))
theorem Q.from_ok {s : Q} (h : s.ok) (m : Nat) : (s.from_ m).ok := Q.mk4_ok (fun k _ => by
  unfold keep
  split
  · decide
  · split
    · exact and_lt (Q.w_lt h k)
    · exact Q.w_lt h k)
theorem low_bit {r j : Nat} (hr : r < 64) (hj : j < 64) : (18446744073709551615 - (2 ^ r - 1)).testBit j = decide (r ≤ j) := by
  have hp : 0 < 2 ^ r := Nat.two_pow_pos r
  have hl := two_pow_lt hr
  have h := Nat.testBit_two_pow_sub_succ (x := 2 ^ r - 1) (n := 64) (by rw [pow64]; omega) j
  rw [pow64] at h
  have e : 18446744073709551616 - (2 ^ r - 1 + 1) = 18446744073709551615 - (2 ^ r - 1) := by omega
  rw [e] at h
  rw [h, Nat.testBit_two_pow_sub_one]
  by_cases c : r ≤ j
  · simp [hj, c]
  · simp [hj, c]; omega
theorem Q.has_from (s : Q) {m j : Nat} (_ : m < 256) (hj : j < 256) : (s.from_ m).has j = (s.has j && decide (m ≤ j)) := by
  unfold Q.from_ Q.has
  rw [Q.w_mk4 _ (by omega)]
  unfold keep
  by_cases e : j / 64 < m / 64
  · rw [if_pos e]
    have : ¬ m ≤ j := by omega
    simp [this]
  · rw [if_neg e]
    by_cases e2 : j / 64 = m / 64
    · rw [if_pos e2, Nat.testBit_and, low_bit (by omega) (by omega)]
      have : (m % 64 ≤ j % 64) ↔ m ≤ j := by omega
      simp [this]
    · rw [if_neg e2]
      have : m ≤ j := by omega
      simp [this]
/-- The least one from k on, among n; -1: there is none. -/
def scan (f : Nat → Bool) : Nat → Nat → Int
  | _, 0 => -1
  | k, n + 1 => if f k then k else scan f (k + 1) n
theorem scan_some {f : Nat → Bool} : ∀ {n k L : Nat}, k ≤ L → L < k + n → f L = true → (∀ j, k ≤ j → j < L → f j = false) → scan f k n = L
  | 0, k, L, h1, h2, _, _ => by omega
  | n + 1, k, L, h1, h2, h3, h4 => by
    unfold scan
    by_cases e : k = L
    · subst e; rw [if_pos h3]
    · rw [h4 k (Nat.le_refl _) (by omega), if_neg (by decide)]
      exact scan_some (by omega) (by omega) h3 (fun j a b => h4 j (by omega) b)
theorem scan_none {f : Nat → Bool} : ∀ {n k : Nat}, (∀ j, k ≤ j → j < k + n → f j = false) → scan f k n = -1
  | 0, _, _ => rfl
  | n + 1, k, h => by
    unfold scan
    rw [h k (Nat.le_refl _) (by omega), if_neg (by decide)]
    exact scan_none (fun j a b => h j (by omega) (by omega))
theorem scan_is (f : Nat → Bool) : ∀ (n k : Nat), (scan f k n = -1 ∧ ∀ j, k ≤ j → j < k + n → f j = false) ∨ ∃ L : Nat, scan f k n = L ∧ k ≤ L ∧ L < k + n ∧ f L = true ∧ ∀ j, k ≤ j → j < L → f j = false
  | 0, _ => .inl ⟨rfl, fun j a b => by omega⟩
  | n + 1, k => by
    by_cases e : f k = true
    · exact .inr ⟨k, by unfold scan; rw [if_pos e], Nat.le_refl _, by omega, e, fun j a b => by omega⟩
    · have e' : f k = false := by simpa using e
      have hs : scan f k (n + 1) = scan f (k + 1) n := by
        show (if f k then (k : Int) else _) = _
        rw [e', if_neg (by decide)]
      rw [hs]
      rcases scan_is f n (k + 1) with ⟨h1, h2⟩ | ⟨L, h1, h2, h3, h4, h5⟩
      · exact .inl ⟨h1, fun j a b => by
          by_cases c : j = k
          · subst c; exact e'
          · exact h2 j (by omega) (by omega)⟩
      · exact .inr ⟨L, h1, by omega, by omega, h4, fun j a b => by
          by_cases c : j = k
          · subst c; exact e'
          · exact h5 j (by omega) b⟩
theorem scan_congr {f g : Nat → Bool} : ∀ {n k : Nat}, (∀ j, k ≤ j → j < k + n → f j = g j) → scan f k n = scan g k n
  | 0, _, _ => rfl
  | n + 1, k, h => by
    unfold scan
    rw [h k (Nat.le_refl _) (by omega), scan_congr (n := n) (k := k + 1) (fun j a b => h j (by omega) (by omega))]
def Q.first (s : Q) : Int := scan s.has 0 256
/-- The next one: i a number of any kind. -/
def Q.next (s : Q) (i : Int) : Int := if i < 0 then s.first else scan s.has (i + 1).toNat (256 - (i + 1).toNat)
theorem Q.next_from (s : Q) {m : Nat} (hm : m < 256) : (s.from_ m).first = scan s.has m (256 - m) := by
  unfold Q.first
  rcases scan_is s.has (256 - m) m with ⟨h1, h2⟩ | ⟨L, h1, h2, h3, h4, h5⟩
  · rw [h1]
    refine scan_none (fun j a b => ?_)
    rw [Q.has_from s hm (by omega)]
    by_cases c : m ≤ j
    · rw [h2 j c (by omega)]; rfl
    · simp [c]
  · rw [h1]
    refine scan_some (by omega) (by omega) ?_ (fun j a b => ?_)
    · rw [Q.has_from s hm (by omega), h4]; simp [h2]
    · rw [Q.has_from s hm (by omega)]
      by_cases c : m ≤ j
      · rw [h5 j c b]; rfl
      · simp [c]
/-- The first word that is not 0, and its lowest bit. -/
theorem Q.first_of {s : Q} {k n : Nat} (hk : k < 4) (hn : n < 64) (h0 : ∀ j, j < k → s.w j = 0) (hb : (s.w k).testBit n = true) (hl : ∀ j, j < n → (s.w k).testBit j = false) : s.first = ((k * 64 + n : Nat) : Int) := by
  refine scan_some (by omega) (by omega) ?_ (fun j _ b => ?_)
  · rw [has_at s k n hn]; exact hb
  · unfold Q.has
    by_cases e : j / 64 = k
    · rw [e]; exact hl _ (by omega)
    · rw [h0 (j / 64) (by omega)]; simp
theorem Q.first_none {s : Q} (h : ∀ k, k < 4 → s.w k = 0) : s.first = -1 :=
  scan_none (fun j _ b => by unfold Q.has; rw [h (j / 64) (by omega)]; simp)
/-- How many of the first n. -/
def cnt (f : Nat → Bool) : Nat → Nat
  | 0 => 0
  | n + 1 => cnt f n + if f n then 1 else 0
theorem cnt_le (f : Nat → Bool) : ∀ n, cnt f n ≤ n
  | 0 => Nat.le_refl _
  | n + 1 => by have := cnt_le f n; unfold cnt; split <;> omega
theorem cnt_mono (f : Nat → Bool) {m : Nat} : ∀ {n : Nat}, m ≤ n → cnt f m ≤ cnt f n
  | 0, h => by rw [Nat.le_zero.1 h]; exact Nat.le_refl _
  | n + 1, h => by
    by_cases e : m = n + 1
    · subst e; exact Nat.le_refl _
    · have := cnt_mono f (m := m) (n := n) (by omega)
      exact Nat.le_trans this (Nat.le_add_right _ _)
theorem cnt_congr {f g : Nat → Bool} : ∀ {n : Nat}, (∀ j, j < n → f j = g j) → cnt f n = cnt g n
  | 0, _ => rfl
  | n + 1, h => by unfold cnt; rw [cnt_congr (n := n) (fun j hj => h j (by omega)), h n (by omega)]
theorem cnt_add (f : Nat → Bool) (m : Nat) : ∀ n, cnt f (m + n) = cnt f m + cnt (fun i => f (m + i)) n
  | 0 => rfl
  | n + 1 => by
    show cnt f (m + n) + (if f (m + n) then 1 else 0) = _ + (cnt _ n + (if f (m + n) then 1 else 0))
    rw [cnt_add f m n]; omega
theorem cnt_no {f : Nat → Bool} : ∀ {n : Nat}, (∀ j, j < n → f j = false) → cnt f n = 0
  | 0, _ => rfl
  | n + 1, h => by unfold cnt; rw [cnt_no (n := n) (fun j hj => h j (by omega)), h n (by omega)]; rfl
/-- One less. -/
theorem cnt_out {f : Nat → Bool} {L : Nat} (hf : f L = true) : ∀ {n : Nat}, L < n → cnt (fun j => f j && !decide (j = L)) n + 1 = cnt f n
  | 0, h => by omega
  | n + 1, h => by
    by_cases e : L = n
    · subst e
      have : cnt (fun j => f j && !decide (j = L)) L = cnt f L := cnt_congr (fun j hj => by
        have h2 : j ≠ L := Nat.ne_of_lt hj
        simp [h2])
      unfold cnt
      rw [this, hf]; simp
    · have := cnt_out hf (n := n) (by omega)
      have e' : n ≠ L := fun h => e h.symm
      unfold cnt
      simp only [e', decide_false, Bool.not_false, Bool.and_true]
      omega
def Q.count (s : Q) : Nat := cnt s.has 256
def pop (x : Nat) : Nat := cnt x.testBit 64
theorem Q.count_eq (s : Q) : s.count = pop s.a + pop s.b + pop s.c + pop s.d := by
  have h (k : Nat) : cnt (fun i => s.has (k * 64 + i)) 64 = cnt (s.w k).testBit 64 := cnt_congr (fun j hj => has_at s k j hj)
  have h0 := h 0
  have h1 := h 1
  have h2 := h 2
  have h3 := h 3
  have e : s.count = cnt s.has 64 + cnt (fun i => s.has (64 + i)) 64 + cnt (fun i => s.has (128 + i)) 64 + cnt (fun i => s.has (192 + i)) 64 := by
    unfold Q.count
    rw [show 256 = 64 + 64 + 64 + 64 from rfl, cnt_add, cnt_add, cnt_add]
  simp only [Nat.zero_mul, Nat.zero_add, Nat.one_mul] at h0 h1 h2 h3
  rw [e, h0, h1, h2, h3]
  rfl
/-- x & (x - 1) is x without its lowest bit. -/
theorem and_pred : ∀ (n x : Nat), 0 < x → x < 2 ^ n → ∃ L, L < n ∧ x.testBit L = true ∧ ∀ j, (x &&& (x - 1)).testBit j = (x.testBit j && !decide (j = L))
  | 0, x, h0, h => by simp at h; omega
  | n + 1, x, h0, h => by
    by_cases odd : x % 2 = 1
    · refine ⟨0, by omega, by simp [Nat.testBit_zero, odd], fun j => ?_⟩
      rw [Nat.testBit_and]
      cases j with
      | zero =>
        have : (x - 1) % 2 = 0 := by omega
        simp [Nat.testBit_zero, this]
      | succ j =>
        have : (x - 1) / 2 = x / 2 := by omega
        simp [Nat.testBit_succ, this]
    · obtain ⟨L, h1, h2, h3⟩ := and_pred n (x / 2) (by omega) (by rw [Nat.pow_succ] at h; omega)
      refine ⟨L + 1, by omega, by rw [Nat.testBit_succ]; exact h2, fun j => ?_⟩
      rw [Nat.testBit_and]
      cases j with
      | zero => simp [Nat.testBit_zero, odd]
      | succ j =>
        have e : (x - 1) / 2 = x / 2 - 1 := by omega
        have := h3 j
        rw [Nat.testBit_and] at this
        rw [Nat.testBit_succ, Nat.testBit_succ, e, this]
        simp
theorem pop_step {x : Nat} (h0 : 0 < x) (h : x < 18446744073709551616) : pop (x &&& (x - 1)) + 1 = pop x ∧ x &&& (x - 1) < x := by
  obtain ⟨L, h1, h2, h3⟩ := and_pred 64 x h0 (by rw [pow64]; exact h)
  refine ⟨?_, Nat.lt_of_le_of_lt Nat.and_le_right (by omega)⟩
  unfold pop
  rw [← cnt_out h2 h1, cnt_congr (fun j _ => h3 j)]
theorem pop_zero : pop 0 = 0 := cnt_no (fun j _ => by simp)
theorem pop_le (x : Nat) : pop x ≤ 64 := cnt_le _ _
/-- Where the lowest bit is. -/
structure Low (x n : Nat) : Prop where
  lt : n < 64
  bit : x.testBit n = true
  no : ∀ j, j < n → x.testBit j = false
theorem low_of {x n : Nat} (hn : n < 64) (h0 : x % 2 ^ n = 0) (h1 : x / 2 ^ n % 2 ≠ 0) : Low x n := by
  refine ⟨hn, ?_, fun j hj => ?_⟩
  · rw [Nat.testBit_eq_decide_div_mod_eq]; simp; omega
  · have := Nat.testBit_mod_two_pow x n j
    rw [h0] at this
    simpa [hj] using this.symm
end Go.Proofs.Ytgocjgipigjhbaa
