/- Plain mathematics: the order of cores that a list makes; a set of marks. -/
import Derived.Test.YtaichiodlbdpjaaC3
namespace Go.Proofs.Ytaichiodlbdpjaa
open Go.ChangeShapes Go.WideShapes Go.ChangeAt Go.RowKit Go.Deep
/-- A core that is not there yet goes behind. -/
def stp (n : Nat) (L : List Int) (x : Int) : List Int := if 0 ≤ x ∧ x < n ∧ x ∉ L then L ++ [x] else L
def ordL (n : Nat) (L zs : List Int) : List Int := zs.foldl (stp n) L
def all (n : Nat) : List Int := (List.range n).map (fun k : Nat => (k : Int))
def ord (n : Nat) (zs : List Int) : List Int := ordL n [] (zs ++ all n)
theorem stp_in {n : Nat} {L : List Int} {x : Int} (h : 0 ≤ x ∧ x < n ∧ x ∉ L) : stp n L x = L ++ [x] := if_pos h
theorem stp_out {n : Nat} {L : List Int} {x : Int} (h : ¬ (0 ≤ x ∧ x < n ∧ x ∉ L)) : stp n L x = L := if_neg h
structure Gd (n : Nat) (L : List Int) : Prop where
  nd : L.Nodup
  rng : ∀ x ∈ L, 0 ≤ x ∧ x < n
theorem Gd.nil (n : Nat) : Gd n [] := ⟨List.nodup_nil, by simp⟩
theorem Gd.stp {n : Nat} {L : List Int} (h : Gd n L) (x : Int) : Gd n (stp n L x) := by
  unfold Ytaichiodlbdpjaa.stp
  split
  · rename_i hx
    refine ⟨?_, fun y hy => ?_⟩
    · rw [List.nodup_append]
      refine ⟨h.nd, by simp, ?_⟩
      rintro a ha b hb rfl
      simp at hb; subst hb
      exact hx.2.2 ha
    · rw [List.mem_append] at hy
      rcases hy with hy | hy
      · exact h.rng y hy
      · simp at hy; subst hy; exact ⟨hx.1, hx.2.1⟩
  · exact h
theorem Gd.fold {n : Nat} : ∀ (zs : List Int) {L : List Int}, Gd n L → Gd n (ordL n L zs)
  | [], _, h => h
  | z :: zs, _, h => Gd.fold zs (h.stp z)
theorem ordL_append (n : Nat) (L xs ys : List Int) : ordL n L (xs ++ ys) = ordL n (ordL n L xs) ys := List.foldl_append ..
theorem ordL_take {n k : Nat} (L : List Int) {zs : List Int} (h : k < zs.length) : ordL n L (zs.take (k + 1)) = stp n (ordL n L (zs.take k)) (zs.getD k 0) := by
  rw [take_snoc h, ordL_append]; rfl
theorem len_le : ∀ (n : Nat) (L : List Int), L.Nodup → (∀ x ∈ L, 0 ≤ x ∧ x < n) → L.length ≤ n
  | 0, L, _, h => by
    cases L with
    | nil => simp
    | cons a L => have := h a (by simp); omega
  | n + 1, L, hn, h => by
    have e := len_le n (L.erase (n : Int)) (hn.erase _) (fun x hx => by
      rw [hn.mem_erase_iff] at hx
      have := h x hx.2
      have := hx.1
      omega)
    have := List.length_erase (a := (n : Int)) (l := L)
    rw [this] at e
    split at e <;> omega
theorem le_len : ∀ (n : Nat) (L : List Int), (∀ k : Nat, k < n → (k : Int) ∈ L) → n ≤ L.length
  | 0, _, _ => by omega
  | n + 1, L, h => by
    have hm := h n (by omega)
    have e := le_len n (L.erase (n : Int)) (fun k hk => by
      rw [List.mem_erase_of_ne (by omega)]
      exact h k (by omega))
    rw [List.length_erase_of_mem hm] at e
    have : 0 < L.length := List.length_pos_of_mem hm
    omega
theorem Gd.len {n : Nat} {L : List Int} (h : Gd n L) : L.length ≤ n := len_le n L h.nd h.rng
theorem stp_mem {n : Nat} {L : List Int} {x : Int} (h0 : 0 ≤ x) (h1 : x < n) : x ∈ stp n L x := by
  unfold stp
  by_cases h : x ∈ L
  · rw [if_neg (fun e => e.2.2 h)]; exact h
  · rw [if_pos ⟨h0, h1, h⟩]; simp
theorem stp_pre (n : Nat) (L : List Int) (x : Int) : ∃ r, stp n L x = L ++ r := by
  unfold stp; split
  · exact ⟨[x], rfl⟩
  · exact ⟨[], by simp⟩
theorem ordL_pre (n : Nat) : ∀ (zs : List Int) (L : List Int), ∃ r, ordL n L zs = L ++ r
  | [], L => ⟨[], by simp [ordL]⟩
  | z :: zs, L => by
    obtain ⟨r, h⟩ := ordL_pre n zs (stp n L z)
    obtain ⟨r2, h2⟩ := stp_pre n L z
    refine ⟨r2 ++ r, ?_⟩
    show ordL n (stp n L z) zs = _
    rw [h, h2, List.append_assoc]
theorem ordL_mem (n : Nat) : ∀ (zs : List Int) (L : List Int) (x : Int), x ∈ zs → 0 ≤ x → x < n → x ∈ ordL n L zs
  | z :: zs, L, x, h, h0, h1 => by
    rcases List.mem_cons.1 h with rfl | h
    · obtain ⟨r, e⟩ := ordL_pre n zs (stp n L x)
      show x ∈ ordL n (stp n L x) zs
      rw [e, List.mem_append]
      exact .inl (stp_mem h0 h1)
    · exact ordL_mem n zs (stp n L z) x h h0 h1
theorem all_len (n : Nat) : (all n).length = n := by simp [all]
theorem all_getD {n k : Nat} (h : k < n) : (all n).getD k 0 = k := by simp [all, List.getD, h]
theorem ord_gd (n : Nat) (zs : List Int) : Gd n (ord n zs) := Gd.fold _ (Gd.nil n)
theorem ord_len (n : Nat) (zs : List Int) : (ord n zs).length = n := by
  apply Nat.le_antisymm (ord_gd n zs).len
  refine le_len n _ (fun k hk => ordL_mem n _ _ _ ?_ (by omega) (by omega))
  rw [List.mem_append]
  refine .inr ?_
  unfold all
  rw [List.mem_map]
  exact ⟨k, by simpa using hk, rfl⟩
theorem ordL_src (n : Nat) : ∀ (zs : List Int) (L : List Int) (x : Int), x ∈ ordL n L zs → x ∈ L ∨ x ∈ zs
  | [], L, x, h => .inl h
  | z :: zs, L, x, h => by
    rcases ordL_src n zs (stp n L z) x h with h | h
    · unfold stp at h
      split at h
      · rw [List.mem_append] at h
        rcases h with h | h
        · exact .inl h
        · simp at h; exact .inr (by simp [h])
      · exact .inl h
    · exact .inr (List.mem_cons_of_mem _ h)
theorem all_take {n k : Nat} {x : Int} (h : x ∈ (all n).take k) : x < k := by
  obtain ⟨j, hj, rfl⟩ := List.mem_iff_getElem.1 h
  simp [all] at hj ⊢
  omega
theorem all_get {n k : Nat} (h : k < n) (L : List Int) : ordL n L ((all n).take (k + 1)) = stp n (ordL n L ((all n).take k)) k := by
  rw [ordL_take L (by rw [all_len]; exact h), all_getD h]
theorem all_mem {n k : Nat} {L : List Int} : (k : Int) ∈ ordL n L ((all n).take k) ↔ (k : Int) ∈ L := by
  constructor
  · intro h
    rcases ordL_src n _ _ _ h with h | h
    · exact h
    · have := all_take h; omega
  · intro h
    obtain ⟨r, e⟩ := ordL_pre n ((all n).take k) L
    rw [e, List.mem_append]; exact .inl h
/-- m marks just the cores of L. -/
structure Mks (m : Nat) (L : List Int) : Prop where
  lt : m < 256
  at_ : ∀ k : Nat, k < 8 → (m.testBit k = true ↔ (k : Int) ∈ L)
theorem Mks.nil : Mks 0 [] := ⟨by omega, fun k _ => by simp⟩
theorem Mks.add {m k : Nat} {L : List Int} (h : Mks m L) (hk : k < 8) : Mks (m ||| 2 ^ k) (L ++ [(k : Int)]) := by
  refine ⟨Nat.or_lt_two_pow (n := 8) h.lt (Nat.pow_lt_pow_right (by omega) hk), fun j hj => ?_⟩
  rw [Nat.testBit_or, Nat.testBit_two_pow, Bool.or_eq_true, h.at_ j hj, List.mem_append]
  simp only [List.mem_singleton, decide_eq_true_eq]
  constructor
  · rintro (e | e)
    · exact .inl e
    · exact .inr (by omega)
  · rintro (e | e)
    · exact .inl e
    · exact .inr (by omega)
theorem pow_lt {k : Nat} (h : k < 8) : 2 ^ k < 256 := Nat.pow_lt_pow_right (a := 2) (n := 8) (by omega) h
theorem mark_and {m k : Nat} (hm : m < 256) (hk : k < 8) : bits .and .u64 (m : Int) ((2 ^ k : Nat) : Int) = ((m &&& 2 ^ k : Nat) : Int) := u64_and_nat m (2 ^ k) (by omega) (by have := pow_lt hk; omega)
theorem and_zero (x r : Nat) : x &&& 2 ^ r = 0 ↔ x.testBit r = false := by
  have h : ∀ j, (x &&& 2 ^ r).testBit j = (x.testBit j && decide (r = j)) := fun j => by rw [Nat.testBit_and, Nat.testBit_two_pow]
  constructor
  · intro e
    have := h r
    rw [e] at this
    simpa using this.symm
  · intro e
    apply Nat.eq_of_testBit_eq
    intro j
    rw [h j]
    by_cases hj : r = j
    · subst hj; simp [e]
    · simp [hj]
theorem mark_test {m k : Nat} {L : List Int} (h : Mks m L) (hk : k < 8) : (bits .and .u64 (m : Int) ((2 ^ k : Nat) : Int) == 0) = decide ((k : Int) ∉ L) := by
  rw [mark_and h.lt hk]
  have e1 := and_zero m k
  have e2 := h.at_ k hk
  by_cases hx : (k : Int) ∈ L
  · rw [decide_eq_false (by simpa using hx)]
    have : m.testBit k = true := e2.2 hx
    have : ¬ (m &&& 2 ^ k = 0) := fun c => by rw [e1.1 c] at this; cases this
    simp only [beq_eq_false_iff_ne, ne_eq]
    omega
  · rw [decide_eq_true hx]
    have : m.testBit k = false := by
      cases hb : m.testBit k with
      | false => rfl
      | true => exact absurd (e2.1 hb) hx
    have := e1.2 this
    simp [this]
theorem mark_or {m k : Nat} (hm : m < 256) (hk : k < 8) : bits .or .u64 (m : Int) ((2 ^ k : Nat) : Int) = ((m ||| 2 ^ k : Nat) : Int) := u64_or_nat m (2 ^ k) (by omega) (by have := pow_lt hk; omega)
end Go.Proofs.Ytaichiodlbdpjaa
