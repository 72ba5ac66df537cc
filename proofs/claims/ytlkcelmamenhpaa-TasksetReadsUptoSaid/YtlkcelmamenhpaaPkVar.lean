/- Plain mathematics of packed numbers: groups of seven bits, the least one first. -/
namespace Go.Proofs.Ytlkcelmamenhpaa
/-- A number's bytes; the first argument is as much fuel as is wanted. -/
def encF : Nat → Nat → List Nat
  | 0, n => [n]
  | f + 1, n => if n < 128 then [n] else (128 + n % 128) :: encF f (n / 128)
def enc7 (n : Nat) : List Nat := encF n n
theorem encF_any : ∀ (f g n : Nat), n ≤ f → n ≤ g → encF f n = encF g n
  | 0, 0, _, _, _ => rfl
  | 0, g + 1, n, h, _ => by
    have : n = 0 := by omega
    subst this
    rw [encF, encF, if_pos (by omega)]
  | f + 1, 0, n, _, h => by
    have : n = 0 := by omega
    subst this
    rw [encF, encF, if_pos (by omega)]
  | f + 1, g + 1, n, h, k => by
    rw [encF, encF]
    by_cases e : n < 128
    · rw [if_pos e, if_pos e]
    · rw [if_neg e, if_neg e, encF_any f g (n / 128) (by omega) (by omega)]
def val7 : List Nat → Nat
  | [] => 0
  | b :: t => b % 128 + 128 * val7 t
theorem enc7_small {n : Nat} (h : n < 128) : enc7 n = [n] := by
  unfold enc7
  cases n with
  | zero => rfl
  | succ m => rw [encF, if_pos h]
theorem enc7_great {n : Nat} (h : ¬ n < 128) : enc7 n = (128 + n % 128) :: enc7 (n / 128) := by
  unfold enc7
  cases n with
  | zero => omega
  | succ m => rw [encF, if_neg h, encF_any m ((m + 1) / 128) ((m + 1) / 128) (by omega) (by omega)]
/-- A number's bytes: those with the greatest bit, and the last one. -/
structure Num (m : List Nat) (z : Nat) : Prop where
  hi : ∀ b ∈ m, 128 ≤ b ∧ b < 256
  lo : z < 128
  form : m ≠ [] → z ≠ 0
theorem enc7_num (n : Nat) : ∃ m z, enc7 n = m ++ [z] ∧ Num m z := by
  induction n using Nat.strongRecOn with
  | _ n ih =>
    by_cases h : n < 128
    · exact ⟨[], n, enc7_small h, by simp, h, by simp⟩
    · obtain ⟨m, z, e, hm⟩ := ih (n / 128) (by omega)
      refine ⟨(128 + n % 128) :: m, z, by rw [enc7_great h, e]; rfl, fun b hb => ?_, hm.lo, fun _ => ?_⟩
      · rcases List.mem_cons.1 hb with rfl | hb
        · omega
        · exact hm.hi b hb
      · by_cases e0 : m = []
        · subst e0
          intro hz
          subst hz
          rw [List.nil_append] at e
          by_cases h2 : n / 128 < 128
          · rw [enc7_small h2] at e; simp at e; omega
          · rw [enc7_great h2] at e
            simp at e
        · exact hm.form e0
theorem val7_enc7 (n : Nat) : val7 (enc7 n) = n := by
  induction n using Nat.strongRecOn with
  | _ n ih =>
    by_cases h : n < 128
    · rw [enc7_small h]; simp [val7]; omega
    · rw [enc7_great h, val7, ih (n / 128) (by omega)]; omega
/-- What is in the right form is the encoding of what it says. -/
theorem enc7_val7 {m : List Nat} {z : Nat} (h : Num m z) : enc7 (val7 (m ++ [z])) = m ++ [z] := by
  induction m with
  | nil => simp only [List.nil_append, val7]; have := h.lo; rw [enc7_small (by omega)]; congr 1; omega
  | cons b t ih =>
    have ht : Num t z := ⟨fun c hc => h.hi c (by simp [hc]), h.lo, fun _ => h.form (by simp)⟩
    have ih2 := ih ht
    have hb := h.hi b (by simp)
    have hz := h.form (by simp)
    have hpos : 0 < val7 (t ++ [z]) := by
      have hl := h.lo
      clear ih2 ih h ht hb
      induction t with
      | nil => simp only [List.nil_append, val7]; omega
      | cons c r ir => simp only [List.cons_append, val7]; omega
    rw [List.cons_append, val7, enc7_great (by omega), show (b % 128 + 128 * val7 (t ++ [z])) / 128 = val7 (t ++ [z]) by omega, ih2]
    congr 1; omega
/-- How many bytes with the greatest bit stand at the beginning. -/
def lead : List Nat → Nat
  | [] => 0
  | b :: t => if 128 ≤ b then lead t + 1 else 0
theorem lead_le (s : List Nat) : lead s ≤ s.length := by
  induction s with
  | nil => exact Nat.le_refl _
  | cons b t ih => rw [lead]; by_cases h : 128 ≤ b <;> simp [h]; omega
theorem lead_num {m : List Nat} {z : Nat} (hi : ∀ b ∈ m, 128 ≤ b) (lo : z < 128) (t : List Nat) : lead (m ++ z :: t) = m.length := by
  induction m with
  | nil => rw [List.nil_append, lead, if_neg (by omega)]; rfl
  | cons b r ih => rw [List.cons_append, lead, if_pos (hi b (by simp)), ih (fun c hc => hi c (by simp [hc]))]; rfl
theorem lead_all {m : List Nat} (hi : ∀ b ∈ m, 128 ≤ b) : lead m = m.length := by
  induction m with
  | nil => rfl
  | cons b r ih => rw [lead, if_pos (hi b (by simp)), ih (fun c hc => hi c (by simp [hc]))]; rfl
/-- A text is all leading, or a number stands at its beginning. -/
theorem lead_cases (s : List Nat) : (lead s = s.length ∧ ∀ b ∈ s, 128 ≤ b) ∨ ∃ m z t, s = m ++ z :: t ∧ (∀ b ∈ m, 128 ≤ b) ∧ z < 128 ∧ lead s = m.length := by
  induction s with
  | nil => exact .inl ⟨rfl, by simp⟩
  | cons b t ih =>
    by_cases h : 128 ≤ b
    · rcases ih with ⟨h1, h2⟩ | ⟨m, z, r, e, h1, h2, h3⟩
      · exact .inl ⟨by rw [lead, if_pos h, h1]; rfl, fun c hc => (List.mem_cons.1 hc).elim (fun e => e ▸ h) (h2 c)⟩
      · exact .inr ⟨b :: m, z, r, by rw [e]; rfl, fun c hc => (List.mem_cons.1 hc).elim (fun e => e ▸ h) (h1 c), h2, by rw [lead, if_pos h, h3]; rfl⟩
    · exact .inr ⟨[], b, t, rfl, by simp, by omega, by rw [lead, if_neg h]; rfl⟩
/-- A number at the beginning of a text: the error, the number, how many bytes. -/
def one1 (s : List Nat) : Nat × Nat × Nat :=
  if lead s = s.length then (6, 0, 0)
  else if 0 < lead s ∧ s.getD (lead s) 0 = 0 then (8, 0, 0)
  else if 9 < lead s + 1 then (7, 0, 0)
  else if 4611686018427387904 < val7 (s.take (lead s + 1)) then (7, 0, 0)
  else (0, val7 (s.take (lead s + 1)), lead s + 1)
theorem enc7_len_le {n : Nat} (h : n ≤ 4611686018427387904) : (enc7 n).length ≤ 9 := by
  have key : ∀ k n : Nat, n < 128 ^ (k + 1) → (enc7 n).length ≤ k + 1 := by
    intro k
    induction k with
    | zero => intro n hn; rw [enc7_small (by simpa using hn)]; simp
    | succ k ih =>
      intro n hn
      by_cases hs : n < 128
      · rw [enc7_small hs]; simp
      · rw [enc7_great hs, List.length_cons]
        have : n / 128 < 128 ^ (k + 1) := by
          rw [Nat.div_lt_iff_lt_mul (by omega)]
          rw [Nat.pow_succ] at hn; exact hn
        have := ih (n / 128) this
        omega
  exact key 8 n (by omega)
theorem one1_enc7 {n : Nat} (h : n ≤ 4611686018427387904) (t : List Nat) : one1 (enc7 n ++ t) = (0, n, (enc7 n).length) := by
  obtain ⟨m, z, e, hm⟩ := enc7_num n
  have hl := enc7_len_le h
  have hv := val7_enc7 n
  rw [e] at hl hv ⊢
  have hi : ∀ b ∈ m, 128 ≤ b := fun b hb => (hm.hi b hb).1
  have e1 : m ++ [z] ++ t = m ++ z :: t := by simp
  have e2 := lead_num hi hm.lo t
  have e3 : (m ++ z :: t).take (m.length + 1) = m ++ [z] := by
    rw [← e1]; exact List.take_left' (by simp)
  have e4 : (m ++ z :: t).getD m.length 0 = z := by simp [List.getD]
  simp only [List.length_append, List.length_singleton] at hl
  unfold one1
  rw [e1, e2, e3, e4, hv, if_neg (by simp), if_neg (fun hh => hm.form (by intro hm0; subst hm0; simp at hh) hh.2), if_neg (by omega), if_neg (by omega), List.length_append]
  rfl
theorem one1_back {s : List Nat} {n k : Nat} (hb : ∀ b ∈ s, b < 256) (h : one1 s = (0, n, k)) : s = enc7 n ++ s.drop k ∧ n ≤ 4611686018427387904 ∧ k = (enc7 n).length ∧ 0 < k := by
  unfold one1 at h
  by_cases h1 : lead s = s.length
  · rw [if_pos h1] at h; simp at h
  · rw [if_neg h1] at h
    by_cases h2 : 0 < lead s ∧ s.getD (lead s) 0 = 0
    · rw [if_pos h2] at h; simp at h
    · rw [if_neg h2] at h
      by_cases h3 : 9 < lead s + 1
      · rw [if_pos h3] at h; simp at h
      · rw [if_neg h3] at h
        by_cases h4 : 4611686018427387904 < val7 (s.take (lead s + 1))
        · rw [if_pos h4] at h; simp at h
        · rw [if_neg h4] at h
          simp only [Prod.mk.injEq, true_and] at h
          obtain ⟨hn, hk⟩ := h
          rcases lead_cases s with ⟨e, _⟩ | ⟨m, z, t, e, hi, lo, el⟩
          · exact absurd e h1
          · have e3 : s.take (lead s + 1) = m ++ [z] := by
              rw [el, e, show m ++ z :: t = m ++ [z] ++ t by simp]; exact List.take_left' (by simp)
            have e4 : s.getD (lead s) 0 = z := by rw [el, e]; simp [List.getD]
            have hm : Num m z := ⟨fun b hbm => ⟨hi b hbm, hb b (by rw [e]; simp [hbm])⟩, lo, fun hm0 hz => h2 ⟨by rw [el]; exact List.length_pos_iff.2 hm0, by rw [e4]; exact hz⟩⟩
            have e5 := enc7_val7 hm
            rw [← e3, hn] at e5
            refine ⟨?_, by omega, ?_, by omega⟩
            · rw [e5, ← hk, List.take_append_drop]
            · rw [e5, ← hk, e3, el]; simp
/-- Reading: the numbers so far, the error; as much fuel as there are bytes. -/
def rdn : Nat → List Nat → List Nat → List Nat × Nat
  | _, acc, [] => (acc, 0)
  | 0, acc, _ => (acc, 0)
  | f + 1, acc, b :: s =>
    if (one1 (b :: s)).1 ≠ 0 then ([], (one1 (b :: s)).1)
    else if acc.length = 2000 then ([], 7)
    else rdn f (acc ++ [(one1 (b :: s)).2.1]) ((b :: s).drop (one1 (b :: s)).2.2)
def wrt (l : List Nat) : List Nat := l.flatMap enc7
theorem enc7_ne (n : Nat) : enc7 n ≠ [] := by
  obtain ⟨m, z, e, _⟩ := enc7_num n
  rw [e]; simp
theorem wrt_cons (n : Nat) (l : List Nat) : wrt (n :: l) = enc7 n ++ wrt l := rfl
theorem wrt_append (a b : List Nat) : wrt (a ++ b) = wrt a ++ wrt b := by unfold wrt; rw [List.flatMap_append]
theorem rdn_step {f : Nat} {acc s : List Nat} (hs : s ≠ []) : rdn (f + 1) acc s = if (one1 s).1 ≠ 0 then ([], (one1 s).1) else if acc.length = 2000 then ([], 7) else rdn f (acc ++ [(one1 s).2.1]) (s.drop (one1 s).2.2) := by
  cases s with
  | nil => exact absurd rfl hs
  | cons b t => rfl
/-- What was written is read, and then what is behind. -/
theorem rdn_wrt {l acc t : List Nat} {f : Nat} (hl : ∀ n ∈ l, n ≤ 4611686018427387904) (hn : acc.length + l.length ≤ 2000) (hf : (wrt l ++ t).length ≤ f) : ∃ f', t.length ≤ f' ∧ rdn f acc (wrt l ++ t) = rdn f' (acc ++ l) t := by
  induction l generalizing acc f with
  | nil => exact ⟨f, by simpa [wrt] using hf, by simp [wrt]⟩
  | cons n l ih =>
    have hne := enc7_ne n
    have hpos : 0 < (enc7 n).length := List.length_pos_iff.2 hne
    rw [wrt_cons, List.append_assoc] at hf ⊢
    rw [List.length_append] at hf
    obtain ⟨f, rfl⟩ : ∃ g, f = g + 1 := ⟨f - 1, by omega⟩
    rw [rdn_step (by simp [hne]), one1_enc7 (hl n (by simp))]
    simp only [List.length_cons] at hn
    rw [if_neg (by simp), if_neg (by omega), List.drop_left' rfl]
    obtain ⟨f', h1, h2⟩ := ih (acc := acc ++ [n]) (f := f) (fun m hm => hl m (by simp [hm])) (by simp; omega) (by omega)
    exact ⟨f', h1, by rw [h2]; simp⟩
theorem rdn_nil (f : Nat) (acc : List Nat) : rdn f acc [] = (acc, 0) := by cases f <;> rfl
theorem rdn_all {l : List Nat} (hl : ∀ n ∈ l, n ≤ 4611686018427387904) (hn : l.length ≤ 2000) : rdn (wrt l).length [] (wrt l) = (l, 0) := by
  obtain ⟨f', _, h⟩ := rdn_wrt (l := l) (acc := []) (t := []) (f := (wrt l).length) hl (by simpa using hn) (by simp)
  rw [List.append_nil, List.nil_append] at h
  rw [h, rdn_nil]
/-- What was read is written as it stood. -/
theorem rdn_back {f : Nat} {acc s l : List Nat} (hb : ∀ b ∈ s, b < 256) (hf : s.length ≤ f) (ha : acc.length ≤ 2000) (h : rdn f acc s = (l, 0)) : ∃ l2, l = acc ++ l2 ∧ wrt l2 = s ∧ l.length ≤ 2000 ∧ ∀ n ∈ l2, n ≤ 4611686018427387904 := by
  induction f generalizing acc s with
  | zero =>
    have : s = [] := List.eq_nil_of_length_eq_zero (by omega)
    subst this
    rw [rdn_nil] at h
    simp only [Prod.mk.injEq, and_true] at h
    exact ⟨[], by simp [h], rfl, by rw [← h]; exact ha, by simp⟩
  | succ f ih =>
    cases s with
    | nil =>
      rw [rdn_nil] at h
      simp only [Prod.mk.injEq, and_true] at h
      exact ⟨[], by simp [h], rfl, by rw [← h]; exact ha, by simp⟩
    | cons b t =>
      rw [rdn_step (by simp)] at h
      by_cases h1 : (one1 (b :: t)).1 ≠ 0
      · rw [if_pos h1] at h; simp only [Prod.mk.injEq] at h; exact absurd h.2 h1
      · rw [if_neg h1] at h
        by_cases h2 : acc.length = 2000
        · rw [if_pos h2] at h; simp at h
        · rw [if_neg h2] at h
          obtain ⟨e, n, k, ho⟩ : ∃ e n k, one1 (b :: t) = (e, n, k) := ⟨_, _, _, rfl⟩
          rw [ho] at h h1
          have he : e = 0 := by simpa using h1
          subst he
          obtain ⟨o1, o2, o3, o4⟩ := one1_back hb ho
          dsimp only at h
          obtain ⟨l2, e1, e2, e3, e4⟩ := ih (acc := acc ++ [n]) (s := (b :: t).drop k) (fun c hc => hb c (List.mem_of_mem_drop hc)) (by rw [List.length_drop]; omega) (by simp; omega) h
          refine ⟨n :: l2, by rw [e1]; simp, by rw [wrt_cons, e2]; exact o1.symm, e3, fun m hm => ?_⟩
          rcases List.mem_cons.1 hm with rfl | hm
          · exact o2
          · exact e4 m hm
/-- A text that ends within a number. -/
theorem one1_short {m : List Nat} (hi : ∀ b ∈ m, 128 ≤ b) : one1 m = (6, 0, 0) := by
  unfold one1; rw [if_pos (lead_all hi)]
/-- A beginning of what was written: whole numbers, and perhaps a beginning of one more. -/
theorem wrt_cut (l : List Nat) (k : Nat) (hk : k ≤ (wrt l).length) : ∃ j m, j ≤ l.length ∧ (wrt l).take k = wrt (l.take j) ++ m ∧ (∀ b ∈ m, 128 ≤ b) := by
  induction l generalizing k with
  | nil => exact ⟨0, [], by simp, by simp [wrt], by simp⟩
  | cons n l ih =>
    obtain ⟨m, z, e, hm⟩ := enc7_num n
    rw [wrt_cons]
    by_cases h : k < (enc7 n).length
    · refine ⟨0, m.take k, by simp, ?_, fun b hb => (hm.hi b (List.mem_of_mem_take hb)).1⟩
      rw [List.take_append_of_le_length (by omega), e]
      rw [e] at h
      simp only [List.length_append, List.length_singleton] at h
      rw [List.take_append_of_le_length (by omega)]
      simp [wrt]
    · rw [wrt_cons, List.length_append] at hk
      obtain ⟨j, m', hj, e2, h2⟩ := ih (k - (enc7 n).length) (by omega)
      refine ⟨j + 1, m', by simp; omega, ?_, h2⟩
      rw [List.take_append, List.take_of_length_le (by omega), e2, List.take_succ_cons, wrt_cons, List.append_assoc]
/-- Reading a beginning. -/
theorem rdn_cut {l m : List Nat} {j : Nat} (hl : ∀ n ∈ l, n ≤ 4611686018427387904) (hn : l.length ≤ 2000) (hi : ∀ b ∈ m, 128 ≤ b) : rdn (wrt (l.take j) ++ m).length [] (wrt (l.take j) ++ m) = if m = [] then (l.take j, 0) else ([], 6) := by
  obtain ⟨f', h1, h⟩ := rdn_wrt (l := l.take j) (acc := []) (t := m) (f := (wrt (l.take j) ++ m).length) (fun n hn => hl n (List.mem_of_mem_take hn)) (by simp; omega) (Nat.le_refl _)
  rw [h, List.nil_append]
  by_cases e : m = []
  · rw [if_pos e, e, rdn_nil]
  · rw [if_neg e]
    have hp : 0 < m.length := List.length_pos_iff.2 e
    obtain ⟨f, rfl⟩ : ∃ g, f' = g + 1 := ⟨f' - 1, by omega⟩
    rw [rdn_step e, one1_short hi, if_pos (by simp)]
/-- Where a beginning ends: with a whole number, or not. -/
theorem cut_last {l m : List Nat} {j : Nat} (hi : ∀ b ∈ m, 128 ≤ b) (hne : wrt (l.take j) ++ m ≠ []) : (m = []) ↔ ∃ b, (wrt (l.take j) ++ m).getLast? = some b ∧ b < 128 := by
  constructor
  · intro e
    subst e
    rw [List.append_nil] at hne ⊢
    cases hL : l.take j with
    | nil => rw [hL] at hne; exact absurd rfl hne
    | cons n r =>
      have : ∃ q y, n :: r = q ++ [y] := ⟨_, _, (List.dropLast_concat_getLast (by simp : n :: r ≠ [])).symm⟩
      obtain ⟨q, y, e⟩ := this
      obtain ⟨m', z, e2, hm⟩ := enc7_num y
      refine ⟨z, ?_, hm.lo⟩
      rw [e, wrt_append]
      have : wrt [y] = enc7 y := by simp [wrt]
      rw [this, e2]
      simp
  · rintro ⟨b, hb, hlt⟩
    by_cases e : m = []
    · exact e
    · obtain ⟨q, y, rfl⟩ : ∃ q y, m = q ++ [y] := ⟨_, _, (List.dropLast_concat_getLast e).symm⟩
      rw [← List.append_assoc, List.getLast?_concat] at hb
      have h1 := hi y (by simp)
      have : y = b := by simpa using hb
      omega
end Go.Proofs.Ytlkcelmamenhpaa
