/- Sums over lists of works; the least deadline; lists that ask less. -/
import Derived.Test.YtfpcnilcbaiojaaDeQ
namespace Go.Proofs.Ytfpcnilcbaiojaa.dem
def sL (f : Wk → Int) : List Wk → Int
  | [] => 0
  | x :: l => f x + sL f l
theorem sL_app (f : Wk → Int) (a b : List Wk) : sL f (a ++ b) = sL f a + sL f b := by
  induction a with
  | nil => simp [sL]
  | cons x a ih => rw [List.cons_append, sL, sL, ih]; omega
theorem sN_take (bl : Int) (f : Wk → Int) (l : List Wk) {i : Nat} (hi : i ≤ l.length) : sN bl f l i = bl + sL f (l.take i) := by
  induction i with
  | zero => simp [sN, sL]
  | succ i ih =>
    have hx : l[i]? = some l[i] := List.getElem?_eq_getElem (by omega)
    rw [sN_succ hx, ih (by omega), List.take_add_one, hx, sL_app]
    simp [sL]; omega
theorem sN_all (bl : Int) (f : Wk → Int) (l : List Wk) : sN bl f l l.length = bl + sL f l := by
  rw [sN_take bl f l (Nat.le_refl _), List.take_length]
theorem sL_le {f g : Wk → Int} {l : List Wk} (h : ∀ x ∈ l, f x ≤ g x) : sL f l ≤ sL g l := by
  induction l with
  | nil => exact Int.le_refl 0
  | cons x l ih =>
    rw [sL, sL]
    have := h x (by simp)
    have := ih (fun y hy => h y (by simp [hy]))
    omega
theorem sL_pos {f : Wk → Int} {l : List Wk} (h : ∀ x ∈ l, 0 ≤ f x) : 0 ≤ sL f l := by
  induction l with
  | nil => exact Int.le_refl 0
  | cons x l ih =>
    rw [sL]
    have := h x (by simp)
    have := ih (fun y hy => h y (by simp [hy]))
    omega
/-- A list at one of its places. -/
theorem split_at {l : List Wk} {i : Nat} {x : Wk} (h : l[i]? = some x) : l = l.take i ++ x :: l.drop (i + 1) := by
  have hl := (List.getElem?_eq_some_iff.1 h).1
  have e : l.drop i = x :: l.drop (i + 1) := by
    rw [List.drop_eq_getElem_cons hl]
    have := (List.getElem?_eq_some_iff.1 h).2
    rw [this]
  rw [← e, List.take_append_drop]
theorem set_at {l : List Wk} {i : Nat} {x y : Wk} (h : l[i]? = some x) : l.set i y = l.take i ++ y :: l.drop (i + 1) := by
  have hl := (List.getElem?_eq_some_iff.1 h).1
  rw [List.set_eq_take_append_cons_drop, if_pos hl]
/-- The least deadline: there is none if all are Top. -/
theorem lsN_char {l : List Wk} (hd : ∀ x ∈ l, 1 ≤ x.d) {i : Nat} (hi : i ≤ l.length) : (lsN l i = 0 ∧ ∀ j x, j < i → l[j]? = some x → x.top = true) ∨ (1 ≤ lsN l i ∧ (∃ j x, j < i ∧ l[j]? = some x ∧ x.top = false ∧ x.d = lsN l i) ∧ ∀ j x, j < i → l[j]? = some x → x.top = false → lsN l i ≤ x.d) := by
  induction i with
  | zero => exact .inl ⟨rfl, fun j _ hj => absurd hj (by omega)⟩
  | succ i ih =>
    have hx : l[i]? = some l[i] := List.getElem?_eq_getElem (by omega)
    have hdx := hd _ (List.mem_of_getElem? hx)
    have old : ∀ {j : Nat} {y : Wk}, j < i + 1 → l[j]? = some y → j < i ∨ (j = i ∧ y = l[i]) := fun {j y} hj hy => by
      by_cases e : j = i
      · subst e; rw [hx] at hy; cases hy; exact .inr ⟨rfl, rfl⟩
      · exact .inl (by omega)
    rw [lsN, getD_some hx]
    generalize l[i] = x at hx hdx old
    rcases ih (by omega) with ⟨e, ha⟩ | ⟨e, ⟨j, y, hj, hy, ht, hyd⟩, ha⟩
    · rw [e]
      cases htop : x.top with
      | true =>
        rw [if_neg (fun h => by simp at h)]
        refine .inl ⟨rfl, fun j y hj hy => ?_⟩
        rcases old hj hy with h | ⟨_, rfl⟩
        · exact ha j y h hy
        · exact htop
      | false =>
        rw [if_pos ⟨rfl, .inl rfl⟩]
        refine .inr ⟨hdx, ⟨i, x, by omega, hx, htop, rfl⟩, fun j y hj hy ht => ?_⟩
        rcases old hj hy with h | ⟨_, rfl⟩
        · rw [ha j y h hy] at ht; cases ht
        · exact Int.le_refl _
    · by_cases hc : x.top = false ∧ (lsN l i = 0 ∨ x.d < lsN l i)
      · rw [if_pos hc]
        refine .inr ⟨hdx, ⟨i, x, by omega, hx, hc.1, rfl⟩, fun q z hq hz ht' => ?_⟩
        rcases old hq hz with h | ⟨_, rfl⟩
        · have := ha q z h hz ht'; omega
        · exact Int.le_refl _
      · rw [if_neg hc]
        refine .inr ⟨e, ⟨j, y, by omega, hy, ht, hyd⟩, fun q z hq hz ht' => ?_⟩
        rcases old hq hz with h | ⟨_, rfl⟩
        · exact ha q z h hz ht'
        · by_cases h9 : lsN l i ≤ z.d
          · exact h9
          · exact absurd ⟨ht', .inr (by omega)⟩ hc
theorem least_char {l : List Wk} (hd : ∀ x ∈ l, 1 ≤ x.d) : (least l = 0 ∧ ∀ x ∈ l, x.top = true) ∨ (1 ≤ least l ∧ (∃ x ∈ l, x.top = false ∧ x.d = least l) ∧ ∀ x ∈ l, x.top = false → least l ≤ x.d) := by
  rcases lsN_char hd (Nat.le_refl l.length) with ⟨e, h⟩ | ⟨e, ⟨j, x, _, hx, h1, h2⟩, h⟩
  · refine .inl ⟨e, fun x hx => ?_⟩
    obtain ⟨j, hj⟩ := List.mem_iff_getElem?.1 hx
    exact h j x (List.getElem?_eq_some_iff.1 hj).1 hj
  · refine .inr ⟨e, ⟨x, List.mem_of_getElem? hx, h1, h2⟩, fun x hx ht => ?_⟩
    obtain ⟨j, hj⟩ := List.mem_iff_getElem?.1 hx
    exact h j x (List.getElem?_eq_some_iff.1 hj).1 hj ht
theorem okW_d {l : List Wk} {bl rl : Int} (h : right l bl rl = true) : ∀ x ∈ l, 1 ≤ x.d := fun x hx => (okW_iff.1 ((right_iff.1 h).2.2.2 x hx)).2.2.1
theorem least_less {l l' : List Wk} (hd : ∀ x ∈ l, 1 ≤ x.d) (hd' : ∀ x ∈ l', 1 ≤ x.d) (h : ∀ x ∈ l', x.top = false → ∃ y ∈ l, y.top = false ∧ y.d ≤ x.d) : least l' = 0 ∨ (least l ≠ 0 ∧ least l ≤ least l') := by
  rcases least_char hd' with ⟨e, _⟩ | ⟨_, ⟨x, hx, ht, hxd⟩, _⟩
  · exact .inl e
  · obtain ⟨y, hy, hyt, hyd⟩ := h x hx ht
    rcases least_char hd with ⟨_, h2⟩ | ⟨e, _, h2⟩
    · rw [h2 y hy] at hyt; cases hyt
    · have := h2 y hy hyt
      exact .inr ⟨by omega, by omega⟩
theorem askS_L (l : List Wk) (bl rl t : Int) : askS l bl rl t = bl + sL (trm rl t) l := sN_all _ _ _
theorem comS_L (l : List Wk) (bl rl t : Int) : comS l bl rl t = bl + sL (cmt rl t) l := sN_all _ _ _
theorem ldS_L (rl : Int) (l : List Wk) : ldS rl l = sL (fun x => qar.tm x.w x.p + qar.tm rl x.p) l := by unfold ldS; rw [sN_all]; omega
theorem ld_pos {l : List Wk} {bl rl : Int} (h : right l bl rl = true) : ∀ x ∈ l, 0 ≤ qar.tm x.w x.p + qar.tm rl x.p := fun x hx => by
  obtain ⟨_, _, ⟨r0, _⟩, ha⟩ := right_iff.1 h
  obtain ⟨⟨w0, _⟩, ⟨p0, _⟩, _⟩ := okW_iff.1 (ha x hx)
  have := qar.tm_nonneg w0 (show 0 < x.p by omega)
  have := qar.tm_nonneg r0 (show 0 < x.p by omega)
  omega
/-- All but one. -/
theorem less_rest {l : List Wk} {bl rl : Int} {i : Nat} {x : Wk} (h : right l bl rl = true) (hx : l[i]? = some x) : Less l (l.take i ++ l.drop (i + 1)) bl bl rl := by
  have hs := split_at hx
  have hmem : ∀ y ∈ l.take i ++ l.drop (i + 1), y ∈ l := fun y hy => by
    rcases List.mem_append.1 hy with hy | hy
    · exact List.mem_of_mem_take hy
    · exact List.mem_of_mem_drop hy
  obtain ⟨h1, h2, h3, h4⟩ := right_iff.1 h
  have hr : right (l.take i ++ l.drop (i + 1)) bl rl = true := right_iff.2 ⟨by rw [List.length_append, List.length_take, List.length_drop]; omega, h2, h3, fun y hy => h4 y (hmem y hy)⟩
  have hsum : ∀ f : Wk → Int, 0 ≤ f x → sL f (l.take i ++ l.drop (i + 1)) ≤ sL f l := fun f hf => by
    have e : sL f l = sL f (l.take i ++ x :: l.drop (i + 1)) := by rw [← hs]
    rw [e, sL_app, sL_app, sL]; omega
  have hxm := List.mem_of_getElem? hx
  refine ⟨hr, fun m hm => ?_, fun m hm => ?_, fun y hy => ⟨y, hmem y hy, rfl⟩, ?_, least_less (okW_d h) (okW_d hr) (fun y hy ht => ⟨y, hmem y hy, ht, Int.le_refl _⟩)⟩
  · rw [askS_L, askS_L]; have := hsum _ (trm_all h hm x hxm); omega
  · rw [comS_L, comS_L]; have := hsum _ (cmt_all h hm x hxm); omega
  · rw [ldS_L, ldS_L]; exact hsum _ (ld_pos h x hxm)
/-- One work put in the place of another one. -/
theorem less_set {l : List Wk} {bl rl : Int} {i : Nat} {x y : Wk} (h : right l bl rl = true) (hx : l[i]? = some x) (hy : okW y = true) (hp : y.p = x.p) (ht : y.top = x.top) (hd : x.d ≤ y.d) (hw : qar.tm y.w y.p ≤ qar.tm x.w x.p)
    (ha : ∀ m, 1 ≤ m → trm rl m y ≤ trm rl m x) (hc : ∀ m, 1 ≤ m → cmt rl m y ≤ cmt rl m x) : Less l (l.set i y) bl bl rl := by
  have hs := split_at hx
  have hset := set_at (y := y) hx
  have hxm := List.mem_of_getElem? hx
  have hmem : ∀ z ∈ l.set i y, z = y ∨ z ∈ l := fun z hz => by
    rw [hset] at hz
    rcases List.mem_append.1 hz with hz | hz
    · exact .inr (List.mem_of_mem_take hz)
    · rcases List.mem_cons.1 hz with e | hz
      · exact .inl e
      · exact .inr (List.mem_of_mem_drop hz)
  obtain ⟨h1, h2, h3, h4⟩ := right_iff.1 h
  have hr : right (l.set i y) bl rl = true := right_iff.2 ⟨by rw [List.length_set]; exact h1, h2, h3, fun z hz => by
    rcases hmem z hz with rfl | hz
    · exact hy
    · exact h4 z hz⟩
  have hsum : ∀ f : Wk → Int, f y ≤ f x → sL f (l.set i y) ≤ sL f l := fun f hf => by
    have e : sL f l = sL f (l.take i ++ x :: l.drop (i + 1)) := by rw [← hs]
    rw [hset, e, sL_app, sL_app, sL, sL]; omega
  refine ⟨hr, fun m hm => ?_, fun m hm => ?_, fun z hz => ?_, ?_, least_less (okW_d h) (okW_d hr) (fun z hz hzt => ?_)⟩
  · rw [askS_L, askS_L]; have := hsum _ (ha m hm); omega
  · rw [comS_L, comS_L]; have := hsum _ (hc m hm); omega
  · rcases hmem z hz with rfl | hz
    · exact ⟨x, hxm, hp.symm⟩
    · exact ⟨z, hz, rfl⟩
  · rw [ldS_L, ldS_L]; exact hsum _ (by show _ + _ ≤ _ + _; rw [hp] at hw ⊢; omega)
  · rcases hmem z hz with rfl | hz
    · exact ⟨x, hxm, by rw [← ht]; exact hzt, hd⟩
    · exact ⟨z, hz, hzt, Int.le_refl _⟩
theorem tm_mono {a b t : Int} (_ : 0 ≤ a) (hab : a ≤ b) (ht : 0 < t) : qar.tm a t ≤ qar.tm b t := by
  unfold qar.tm qar.mdQ
  simp only [true_and]
  have h1 : a * 4294967296 / t ≤ b * 4294967296 / t := Int.ediv_le_ediv ht (by omega)
  have e1 := Int.emod_add_mul_ediv (a * 4294967296) t
  have e2 := Int.emod_add_mul_ediv (b * 4294967296) t
  have k1 := Int.emod_nonneg (a * 4294967296) (show t ≠ 0 by omega)
  have k2 := Int.emod_nonneg (b * 4294967296) (show t ≠ 0 by omega)
  rcases (show a * 4294967296 / t = b * 4294967296 / t ∨ a * 4294967296 / t + 1 ≤ b * 4294967296 / t by omega) with e | e
  · rw [e] at e1 ⊢
    split <;> split <;> omega
  · split <;> split <;> omega
theorem less_part {l : List Wk} {bl rl v : Int} {i : Nat} {x : Wk} (h : right l bl rl = true) (hx : l[i]? = some x) (h0 : 0 ≤ v) (h1 : v ≤ x.w) : Less l (l.set i ⟨v, x.p, x.d, x.top⟩) bl bl rl := by
  have hk := (right_iff.1 h).2.2.2 x (List.mem_of_getElem? hx)
  obtain ⟨⟨w0, w1⟩, ⟨p0, p1⟩, d0, d1⟩ := okW_iff.1 hk
  have hf : ∀ m, 1 ≤ m → fst m ⟨v, x.p, x.d, x.top⟩ ≤ fst m x := fun m hm => by
    have hu := up_bd hm p0
    unfold fst
    dsimp only
    split
    · exact Int.mul_le_mul_of_nonneg_left h1 (by omega)
    · split
      · rename_i hd
        exact Int.mul_le_mul_of_nonneg_left h1 (by have := div_up d0 hd p0; omega)
      · exact Int.le_refl 0
  refine less_set h hx (okW_iff.2 ⟨⟨h0, by dsimp only; omega⟩, ⟨p0, p1⟩, d0, d1⟩) rfl rfl (Int.le_refl _) (tm_mono h0 h1 (by dsimp only; omega)) (fun m hm => ?_) (fun m hm => ?_)
  · have := hf m hm
    unfold trm; dsimp only; omega
  · have hu := up_bd hm p0
    have := Int.mul_le_mul_of_nonneg_left h1 (show 0 ≤ up m x.p + 1 by omega)
    unfold cmt; dsimp only; omega
theorem less_late {l : List Wk} {bl rl v : Int} {i : Nat} {x : Wk} (h : right l bl rl = true) (hx : l[i]? = some x) (h0 : x.d ≤ v) (h1 : v ≤ 1099511627776) : Less l (l.set i ⟨x.w, x.p, v, x.top⟩) bl bl rl := by
  have hk := (right_iff.1 h).2.2.2 x (List.mem_of_getElem? hx)
  obtain ⟨⟨w0, w1⟩, ⟨p0, p1⟩, d0, d1⟩ := okW_iff.1 hk
  refine less_set h hx (okW_iff.2 ⟨⟨w0, w1⟩, ⟨p0, p1⟩, by dsimp only; omega, h1⟩) rfl rfl h0 (Int.le_refl _) (fun m hm => ?_) (fun m hm => Int.le_refl _)
  have : fst m ⟨x.w, x.p, v, x.top⟩ ≤ fst m x := by
    have hb := (fst_bd hm hk).1
    by_cases ht : x.top = true
    · unfold fst; dsimp only; rw [if_pos ht, if_pos ht]; exact Int.le_refl _
    · by_cases hv : v ≤ m
      · unfold fst; dsimp only
        rw [if_neg ht, if_neg ht, if_pos hv, if_pos (by omega)]
        exact Int.mul_le_mul_of_nonneg_right (by have := div_mono (m := m - v) (n := m - x.d) (d := x.p) (by omega) p0; omega) w0
      · have e : fst m ⟨x.w, x.p, v, x.top⟩ = 0 := by unfold fst; dsimp only; rw [if_neg ht, if_neg hv]
        rw [e]; exact hb
  unfold trm; dsimp only; omega
theorem less_block {l : List Wk} {bl bl' rl : Int} (h : right l bl rl = true) (h0 : 0 ≤ bl') (h1 : bl' ≤ bl) : Less l l bl bl' rl := by
  obtain ⟨a, b, c, d⟩ := right_iff.1 h
  have hr : right l bl' rl = true := right_iff.2 ⟨a, by omega, c, d⟩
  refine ⟨hr, fun m hm => ?_, fun m hm => ?_, fun x hx => ⟨x, hx, rfl⟩, Int.le_refl _, least_less (okW_d h) (okW_d h) (fun x hx ht => ⟨x, hx, ht, Int.le_refl _⟩)⟩
  · rw [askS_L, askS_L]; omega
  · rw [comS_L, comS_L]; omega
end Go.Proofs.Ytfpcnilcbaiojaa.dem
