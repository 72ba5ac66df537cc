/- The properties of chapter 15's sums: what grows, what is whole. -/
import Derived.Test.YtfpcnilcbaiojaaDeM
namespace Go.Proofs.Ytfpcnilcbaiojaa.dem
theorem trm_all {l : List Wk} {bl rl t : Int} (h : right l bl rl = true) (ht : 1 ≤ t) : ∀ x ∈ l, 0 ≤ trm rl t x := fun x hx => (trm_bd ht (right_iff.1 h).2.2.1.1 ((right_iff.1 h).2.2.2 x hx)).1
theorem cmt_all {l : List Wk} {bl rl t : Int} (h : right l bl rl = true) (ht : 1 ≤ t) : ∀ x ∈ l, 0 ≤ cmt rl t x := fun x hx => by
  have := trm_bd ht (right_iff.1 h).2.2.1.1 ((right_iff.1 h).2.2.2 x hx); omega
/-- Term by term no more. -/
theorem sN_le {bl bl' : Int} {f g : Wk → Int} {l : List Wk} (hb : bl ≤ bl') (h : ∀ x ∈ l, f x ≤ g x) {i : Nat} (hi : i ≤ l.length) : sN bl f l i ≤ sN bl' g l i := by
  induction i with
  | zero => exact hb
  | succ i ih =>
    have hx : l[i]? = some l[i] := List.getElem?_eq_getElem (by omega)
    rw [sN_succ hx, sN_succ hx]
    have := h _ (List.mem_of_getElem? hx)
    have := ih (by omega)
    omega
theorem fac_le {l : List Wk} {bl rl m t : Int} (h : right l bl rl = true) (hm : 1 ≤ m) (hmt : m ≤ t) {j : Nat} {x : Wk} (hx : l[j]? = some x) : up m x.p + 2 ≤ up t x.p + 2 := by
  have := up_mono hm hmt ((okW_iff.1 ((right_iff.1 h).2.2.2 x (List.mem_of_getElem? hx))).2.1.1)
  omega
/-- Within more ticks no less may be asked; and where more is not too much, less is not. -/
theorem ask_mono {l : List Wk} {bl rl m t : Int} (h : right l bl rl = true) (hm : 1 ≤ m) (hmt : m ≤ t) : askS l bl rl m ≤ askS l bl rl t :=
  sN_le (Int.le_refl _) (fun x hx => trm_mono hm hmt (right_iff.1 h).2.2.1.1 ((right_iff.1 h).2.2.2 x hx)) (Nat.le_refl _)
theorem ov_less {bl bl' : Int} {f g : Wk → Int} {m t : Int} {l : List Wk} (hs : sN bl f l l.length ≤ sN bl' g l l.length) (hf : ∀ (j : Nat) (x : Wk), l[j]? = some x → up m x.p + 2 ≤ up t x.p + 2) (h : ov bl' g t l l.length = false) : ov bl f m l l.length = false := by
  obtain ⟨h1, h2⟩ := ov_not h
  cases e : ov bl f m l l.length with
  | false => rfl
  | true =>
    rcases ov_iff.1 e with e | ⟨j, x, hj, hx, e⟩
    · omega
    · have := h2 j x hj hx
      have := hf j x hx
      omega
theorem askO_mono {l : List Wk} {bl rl m t : Int} (h : right l bl rl = true) (hm : 1 ≤ m) (hmt : m ≤ t) (ho : askO l bl rl t = false) : askO l bl rl m = false :=
  ov_less (ask_mono h hm hmt) (fun _ _ hx => fac_le h hm hmt hx) ho
theorem ask_com {l : List Wk} {bl rl t : Int} (h : right l bl rl = true) (ht : 1 ≤ t) : askS l bl rl t ≤ comS l bl rl t :=
  sN_le (Int.le_refl _) (fun x hx => (trm_bd ht (right_iff.1 h).2.2.1.1 ((right_iff.1 h).2.2.2 x hx)).2) (Nat.le_refl _)
theorem askO_com {l : List Wk} {bl rl t : Int} (h : right l bl rl = true) (ht : 1 ≤ t) (ho : comO l bl rl t = false) : askO l bl rl t = false :=
  ov_less (ask_com h ht) (fun _ _ _ => Int.le_refl _) ho
theorem com_mono {l : List Wk} {bl rl m t : Int} (h : right l bl rl = true) (hm : 1 ≤ m) (hmt : m ≤ t) : comS l bl rl m ≤ comS l bl rl t :=
  sN_le (Int.le_refl _) (fun x hx => cmt_mono hm hmt (right_iff.1 h).2.2.1.1 ((right_iff.1 h).2.2.2 x hx)) (Nat.le_refl _)
theorem comO_mono {l : List Wk} {bl rl m t : Int} (h : right l bl rl = true) (hm : 1 ≤ m) (hmt : m ≤ t) (ho : comO l bl rl t = false) : comO l bl rl m = false :=
  ov_less (com_mono h hm hmt) (fun _ _ hx => fac_le h hm hmt hx) ho
/-- What Ask answers, taken apart. -/
theorem ask_cases (l : List Wk) (bl rl t : Int) : (askE l bl rl t = 1 ∧ askV l bl rl t = 0 ∧ ¬ (right l bl rl = true ∧ 1 ≤ t)) ∨ (right l bl rl = true ∧ 1 ≤ t ∧ askO l bl rl t = true ∧ askE l bl rl t = 2 ∧ askV l bl rl t = 0) ∨ (right l bl rl = true ∧ 1 ≤ t ∧ askO l bl rl t = false ∧ askE l bl rl t = 0 ∧ askV l bl rl t = askS l bl rl t) := by
  unfold askV askE
  by_cases h : right l bl rl = true ∧ 1 ≤ t
  · rw [if_pos h]
    cases ho : askO l bl rl t with
    | true => exact .inr (.inl ⟨h.1, h.2, rfl, by simp, by simp⟩)
    | false => exact .inr (.inr ⟨h.1, h.2, rfl, by simp, by simp⟩)
  · rw [if_neg h]
    exact .inl ⟨rfl, by simp, h⟩
/-- The search for Busy, from n on: it ends at the least number that is not less than what comes, if all before it are less. -/
theorem busy_go {l : List Wk} {bl rl : Int} (h : right l bl rl = true) : ∀ (k : Nat) (n : Int), 1 ≤ n → (∀ m, 1 ≤ m → m < n → m < comS l bl rl m) → (busyGo l bl rl k n).2 = 0 →
    n ≤ (busyGo l bl rl k n).1 ∧ comO l bl rl (busyGo l bl rl k n).1 = false ∧ comS l bl rl (busyGo l bl rl k n).1 ≤ (busyGo l bl rl k n).1 ∧ ∀ m, 1 ≤ m → m < (busyGo l bl rl k n).1 → m < comS l bl rl m
  | 0, n, _, _, h0 => by rw [busyGo] at h0; cases h0
  | k + 1, n, h1, hm, h0 => by
    rw [busyGo] at h0 ⊢
    cases ho : comO l bl rl n with
    | true => rw [ho, if_pos rfl] at h0; cases h0
    | false =>
      rw [ho, if_neg (by simp)] at h0
      rw [if_neg (by simp)]
      by_cases hc : comS l bl rl n ≤ n
      · rw [if_pos hc]
        exact ⟨Int.le_refl _, ho, hc, hm⟩
      · rw [if_neg hc] at h0 ⊢
        obtain ⟨a, b, c, d⟩ := busy_go h k (comS l bl rl n) (by omega) (fun m m1 m2 => by
          by_cases e : m < n
          · exact hm m m1 e
          · have := com_mono h h1 (show n ≤ m by omega)
            omega) h0
        exact ⟨by omega, b, c, d⟩
theorem busy_ok {l : List Wk} {bl rl : Int} (h0 : (busyP l bl rl).2 = 0) : right l bl rl = true ∧ 1 ≤ (busyP l bl rl).1 ∧ comO l bl rl (busyP l bl rl).1 = false ∧ comS l bl rl (busyP l bl rl).1 ≤ (busyP l bl rl).1 ∧ ∀ m, 1 ≤ m → m < (busyP l bl rl).1 → m < comS l bl rl m := by
  unfold busyP at h0 ⊢
  cases h : right l bl rl with
  | false => rw [h, if_neg (by simp)] at h0; cases h0
  | true =>
    rw [h, if_pos rfl] at h0
    rw [if_pos rfl]
    by_cases hm : 4294967296 < ldS rl l
    · rw [if_pos hm] at h0; cases h0
    · rw [if_neg hm] at h0 ⊢
      obtain ⟨a, b, c, d⟩ := busy_go h 5000 1 (by omega) (fun m m1 m2 => by omega) h0
      exact ⟨rfl, a, b, c, d⟩
/-- The search of Test, from t on down to the least deadline: OK means that no demand is greater. -/
theorem test_go {l : List Wk} {bl rl ls : Int} (h : right l bl rl = true) (hl : 1 ≤ ls) : ∀ (k : Nat) (t : Int), testGo l bl rl ls k t = 0 → ∀ m, ls ≤ m → m ≤ t → askS l bl rl m ≤ m
  | 0, t, h0 => by rw [testGo] at h0; cases h0
  | k + 1, t, h0 => fun m m1 m2 => by
    rw [testGo, if_neg (by omega)] at h0
    rcases ask_cases l bl rl t with ⟨_, _, e⟩ | ⟨_, _, _, e, _⟩ | ⟨_, t1, _, e, v⟩
    · exact absurd ⟨h, by omega⟩ e
    · rw [if_pos (by omega), e] at h0; cases h0
    · rw [if_neg (by omega), v] at h0
      have hmono := ask_mono h (show 1 ≤ m by omega) m2
      by_cases h1 : t < askS l bl rl t
      · rw [if_pos h1] at h0; cases h0
      · rw [if_neg h1] at h0
        by_cases h2 : askS l bl rl t < t
        · rw [if_pos h2] at h0
          by_cases h3 : m ≤ askS l bl rl t
          · exact test_go h hl k _ h0 m m1 h3
          · omega
        · rw [if_neg h2] at h0
          by_cases h3 : m ≤ t - 1
          · exact test_go h hl k _ h0 m m1 h3
          · omega
/-- Where no demand is greater, Test says OK, or the steps are too many. -/
theorem test_fine {l : List Wk} {bl rl ls : Int} (h : right l bl rl = true) (hl : 1 ≤ ls) : ∀ (k : Nat) (t : Int), (∀ m, ls ≤ m → m ≤ t → askO l bl rl m = false ∧ askS l bl rl m ≤ m) → testGo l bl rl ls k t = 0 ∨ testGo l bl rl ls k t = 11
  | 0, t, _ => .inr rfl
  | k + 1, t, hm => by
    rw [testGo]
    by_cases h0 : t < ls
    · rw [if_pos h0]; exact .inl rfl
    · rw [if_neg h0]
      obtain ⟨ho, hs⟩ := hm t (by omega) (Int.le_refl _)
      rcases ask_cases l bl rl t with ⟨_, _, e⟩ | ⟨_, _, o, _, _⟩ | ⟨_, t1, _, e, v⟩
      · exact absurd ⟨h, by omega⟩ e
      · rw [ho] at o; cases o
      · rw [if_neg (by omega), v, if_neg (by omega)]
        by_cases h2 : askS l bl rl t < t
        · rw [if_pos h2]; exact test_fine h hl k _ (fun m m1 m2 => hm m m1 (by omega))
        · rw [if_neg h2]; exact test_fine h hl k _ (fun m m1 m2 => hm m m1 (by omega))
end Go.Proofs.Ytfpcnilcbaiojaa.dem
