/- Two lists one behind the other; all Top; the law's own sum of what comes. -/
import Derived.Test.YtfpcnilcbaiojaaDeL
namespace Go.Proofs.Ytfpcnilcbaiojaa.dem
theorem ask_zero {l : List Wk} {bl rl t : Int} (h : askE l bl rl t = 0) : right l bl rl = true ∧ 1 ≤ t ∧ askO l bl rl t = false ∧ askV l bl rl t = askS l bl rl t := by
  rcases ask_cases l bl rl t with ⟨e, _⟩ | ⟨_, _, _, e, _⟩ | ⟨h1, h2, h3, _, h4⟩
  · omega
  · omega
  · exact ⟨h1, h2, h3, h4⟩
theorem ask_is {l : List Wk} {bl rl t : Int} (h1 : right l bl rl = true) (h2 : 1 ≤ t) (h3 : askO l bl rl t = false) : askE l bl rl t = 0 ∧ askV l bl rl t = askS l bl rl t := by
  rcases ask_cases l bl rl t with ⟨_, _, e⟩ | ⟨_, _, o, _⟩ | ⟨_, _, _, e, v⟩
  · exact absurd ⟨h1, h2⟩ e
  · rw [h3] at o; cases o
  · exact ⟨e, v⟩
theorem ask_in {l : List Wk} {bl rl t : Int} (h : askE l bl rl t = 0) : 0 ≤ askV l bl rl t ∧ askV l bl rl t ≤ 9223372036854775807 := by
  obtain ⟨h1, h2, h3, h4⟩ := ask_zero h
  rw [h4]
  exact ⟨sN_pos (right_iff.1 h1).2.1.1 (trm_all h1 h2) (Nat.le_refl _), (ov_not h3).1⟩
/-- Within more ticks no less, or too much. -/
theorem rises {l : List Wk} {bl rl t u : Int} (h : askE l bl rl t = 0) (hu : t ≤ u) : (askE l bl rl u = 0 ∧ askV l bl rl t ≤ askV l bl rl u) ∨ askE l bl rl u = 2 := by
  obtain ⟨h1, h2, h3, h4⟩ := ask_zero h
  rcases ask_cases l bl rl u with ⟨_, _, e⟩ | ⟨_, _, _, e, _⟩ | ⟨_, _, _, e, v⟩
  · exact absurd ⟨h1, by omega⟩ e
  · exact .inr e
  · rw [h4, v]; exact .inl ⟨e, ask_mono h1 h2 hu⟩
/-- What is asked of one and of the other. -/
theorem parts {l : List Wk} {bl rl t : Int} (h : askE l bl rl t = 0) (i : Nat) : askE (l.take i) bl rl t = 0 ∧ askE (l.drop i) 0 rl t = 0 ∧ askV (l.take i) bl rl t + askV (l.drop i) 0 rl t = askV l bl rl t := by
  obtain ⟨h1, h2, h3, h4⟩ := ask_zero h
  obtain ⟨a1, a2, a3, a4⟩ := right_iff.1 h1
  have r1 : right (l.take i) bl rl = true := right_iff.2 ⟨by rw [List.length_take]; omega, a2, a3, fun x hx => a4 x (List.mem_of_mem_take hx)⟩
  have r2 : right (l.drop i) 0 rl = true := right_iff.2 ⟨by rw [List.length_drop]; omega, ⟨by omega, by omega⟩, a3, fun x hx => a4 x (List.mem_of_mem_drop hx)⟩
  have hs : askS l bl rl t = askS (l.take i) bl rl t + askS (l.drop i) 0 rl t := by
    have e : sL (trm rl t) l = sL (trm rl t) (l.take i ++ l.drop i) := by rw [List.take_append_drop]
    rw [askS_L, askS_L, askS_L, e, sL_app]; omega
  have p1 : 0 ≤ askS (l.take i) bl rl t := sN_pos a2.1 (trm_all r1 h2) (Nat.le_refl _)
  have p2 : 0 ≤ askS (l.drop i) 0 rl t := sN_pos (Int.le_refl 0) (trm_all r2 h2) (Nat.le_refl _)
  obtain ⟨m1, m2⟩ := ov_not h3
  have fac : ∀ x ∈ l, up t x.p + 2 ≤ 9223372036854775807 := fun x hx => by
    obtain ⟨j, hj⟩ := List.mem_iff_getElem?.1 hx
    exact m2 j x (List.getElem?_eq_some_iff.1 hj).1 hj
  have o1 : askO (l.take i) bl rl t = false := by
    cases e : askO (l.take i) bl rl t with
    | false => rfl
    | true =>
      rcases ov_iff.1 e with e | ⟨j, x, _, hx, e⟩
      · unfold askS at hs p2; omega
      · have := fac x (List.mem_of_mem_take (List.mem_of_getElem? hx)); omega
  have o2 : askO (l.drop i) 0 rl t = false := by
    cases e : askO (l.drop i) 0 rl t with
    | false => rfl
    | true =>
      rcases ov_iff.1 e with e | ⟨j, x, _, hx, e⟩
      · unfold askS at hs p1; omega
      · have := fac x (List.mem_of_mem_drop (List.mem_of_getElem? hx)); omega
  obtain ⟨e1, v1⟩ := ask_is r1 h2 o1
  obtain ⟨e2, v2⟩ := ask_is r2 h2 o2
  exact ⟨e1, e2, by rw [v1, v2, h4, hs]⟩
/-- All works as Top. -/
def tops (l : List Wk) : List Wk := l.map fun x => ⟨x.w, x.p, x.d, true⟩
theorem tops_right (l : List Wk) (bl rl : Int) : right (tops l) bl rl = right l bl rl := by
  unfold right tops
  rw [List.length_map, List.all_map]
  rfl
theorem tops_least (l : List Wk) (i : Nat) : lsN (tops l) i = 0 := by
  induction i with
  | zero => rfl
  | succ i ih =>
    rw [lsN, ih]
    split
    · rename_i h
      unfold tops at h ⊢
      by_cases hi : i < l.length
      · simp [List.getD, hi] at h
      · simp [List.getD, hi, wk0]
    · rfl
theorem tops_test (l : List Wk) (bl rl : Int) : testV (tops l) bl rl = if right l bl rl = true then 0 else 1 := by
  unfold testV
  rw [tops_right]
  by_cases h : right l bl rl = true
  · rw [if_pos h, if_pos h, if_pos (show least (tops l) = 0 from tops_least l _)]
  · rw [if_neg h, if_neg h]
theorem tops_ask {l : List Wk} {bl rl t : Int} (h : askE l bl rl t = 0) (h' : askE (tops l) bl rl t = 0) : askV l bl rl t ≤ askV (tops l) bl rl t := by
  obtain ⟨h1, h2, _, h4⟩ := ask_zero h
  obtain ⟨_, _, _, h4'⟩ := ask_zero h'
  rw [h4, h4', askS_L, askS_L]
  have : ∀ k : List Wk, (∀ x ∈ k, okW x = true) → sL (trm rl t) k ≤ sL (trm rl t) (tops k) := fun k hk => by
    induction k with
    | nil => exact Int.le_refl 0
    | cons x k ih =>
      have e : tops (x :: k) = ⟨x.w, x.p, x.d, true⟩ :: tops k := rfl
      rw [e, sL, sL]
      have i1 := ih (fun y hy => hk y (by simp [hy]))
      have i2 := (fst_bd h2 (hk x (by simp))).2
      have i3 : trm rl t x ≤ trm rl t ⟨x.w, x.p, x.d, true⟩ := by
        unfold trm
        have : fst t ⟨x.w, x.p, x.d, true⟩ = (up t x.p + 1) * x.w := by unfold fst; rw [if_pos rfl]
        rw [this]; dsimp only; omega
      omega
  have := this l (right_iff.1 h1).2.2.2
  omega
theorem up_eq {n p : Int} (_ : 1 ≤ n) (hp : 1 ≤ p) : up n p = (n - 1) / p + 1 := by
  unfold up
  have e1 := Int.emod_add_mul_ediv n p
  have k1 := Int.emod_nonneg n (show p ≠ 0 by omega)
  have k2 := Int.emod_lt_of_pos n (show 0 < p by omega)
  by_cases h : 0 < n % p
  · rw [if_pos h]
    have : (n - 1) / p = n / p := by
      have : n - 1 = (n % p - 1) + p * (n / p) := by omega
      rw [this, Int.add_mul_ediv_left _ _ (by omega), Int.ediv_eq_zero_of_lt (by omega) (by omega)]; omega
    omega
  · rw [if_neg h]
    have : (n - 1) / p = n / p - 1 := by
      have e : p * (n / p - 1) = p * (n / p) - p := by rw [Int.mul_sub, Int.mul_one]
      have : n - 1 = (p - 1) + p * (n / p - 1) := by omega
      rw [this, Int.add_mul_ediv_left _ _ (by omega), Int.ediv_eq_zero_of_lt (by omega) (by omega)]; omega
    omega
end Go.Proofs.Ytfpcnilcbaiojaa.dem
