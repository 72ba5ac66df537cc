/- The document's list, in the order of adding, beside the list in the order of expiry. -/
import Derived.Test.YtfejnokljddomaaM
namespace Go.Proofs.Ytfejnokljddomaa
def isort (K : List Tm) : List Tm := K.foldl (fun l x => ins x l) []
theorem isort_snoc (K : List Tm) (x : Tm) : isort (K ++ [x]) = ins x (isort K) := by
  unfold isort; rw [List.foldl_append]; rfl
/-- By the last one. -/
theorem snoc_ind {p : List Tm → Prop} (h0 : p []) (h1 : ∀ K x, p K → p (K ++ [x])) (K : List Tm) : p K := by
  have : ∀ K : List Tm, p K.reverse := by
    intro K
    induction K with
    | nil => exact h0
    | cons x t ih => rw [List.reverse_cons]; exact h1 _ x ih
  have h := this K.reverse
  rwa [List.reverse_reverse] at h
theorem mem_isort {K : List Tm} {y : Tm} : y ∈ isort K ↔ y ∈ K := by
  induction K using snoc_ind with
  | h0 => exact Iff.rfl
  | h1 K x ih => rw [isort_snoc, mem_ins, ih, List.mem_append, List.mem_singleton, or_comm]
theorem length_isort (K : List Tm) : (isort K).length = K.length := by
  induction K using snoc_ind with
  | h0 => rfl
  | h1 K x ih => rw [isort_snoc, length_ins, ih, List.length_append]; rfl
theorem ins_srt {x : Tm} {L : List Tm} (h : L.Pairwise (fun a b => a.left ≤ b.left)) : (ins x L).Pairwise (fun a b => a.left ≤ b.left) :=
  ins_pair h (fun _ _ hle => hle) (fun z _ ⟨y, _, h1, h2⟩ => by
    rcases h2 with rfl | h2
    · omega
    · omega)
theorem isort_srt (K : List Tm) : (isort K).Pairwise (fun a b => a.left ≤ b.left) := by
  induction K using snoc_ind with
  | h0 => exact List.Pairwise.nil
  | h1 K x ih => rw [isort_snoc]; exact ins_srt ih
theorem ins_front {x : Tm} {L : List Tm} (h : ∀ y ∈ L, x.left < y.left) : ins x L = x :: L := by
  cases L with
  | nil => rfl
  | cons y t => have := h y (by simp); rw [ins, if_neg (by omega)]
theorem ins_filter {p : Tm → Bool} {x : Tm} {L : List Tm} (h : L.Pairwise (fun a b => a.left ≤ b.left)) : (ins x L).filter p = if p x = true then ins x (L.filter p) else L.filter p := by
  induction L with
  | nil => by_cases hp : p x = true <;> simp [ins, hp]
  | cons y t ih =>
    rw [List.pairwise_cons] at h
    have ih := ih h.2
    by_cases hy : y.left ≤ x.left
    · rw [ins, if_pos hy]
      by_cases hp : p y = true
      · rw [List.filter_cons_of_pos hp, List.filter_cons_of_pos hp, ih]
        by_cases hx : p x = true
        · rw [if_pos hx, if_pos hx, ins, if_pos hy]
        · rw [if_neg hx, if_neg hx]
      · rw [List.filter_cons_of_neg hp, List.filter_cons_of_neg hp, ih]
    · rw [ins, if_neg hy]
      have hall : ∀ z ∈ (y :: t).filter p, x.left < z.left := by
        intro z hz
        rcases List.mem_cons.1 (List.mem_filter.1 hz).1 with rfl | hz
        · omega
        · have := h.1 z hz; omega
      by_cases hx : p x = true
      · rw [if_pos hx, List.filter_cons_of_pos hx, ins_front hall]
      · rw [if_neg hx, List.filter_cons_of_neg hx]
theorem isort_filter (p : Tm → Bool) (K : List Tm) : (isort K).filter p = isort (K.filter p) := by
  induction K using snoc_ind with
  | h0 => rfl
  | h1 K x ih =>
    rw [isort_snoc, ins_filter (isort_srt K), ih, List.filter_append]
    by_cases hx : p x = true
    · rw [if_pos hx, List.filter_cons_of_pos hx, List.filter_nil, isort_snoc]
    · rw [if_neg hx, List.filter_cons_of_neg hx, List.filter_nil, List.append_nil]
theorem ins_dn (m : Int) (x : Tm) (L : List Tm) : (ins x L).map (dn m) = ins (dn m x) (L.map (dn m)) := by
  induction L with
  | nil => rfl
  | cons y t ih =>
    rw [List.map_cons]
    by_cases hy : y.left ≤ x.left
    · rw [ins, if_pos hy, ins, if_pos (by rw [dnl, dnl]; omega), List.map_cons, ih]
    · rw [ins, if_neg hy, ins, if_neg (by rw [dnl, dnl]; omega), List.map_cons, List.map_cons]
theorem isort_dn (m : Int) (K : List Tm) : (isort K).map (dn m) = isort (K.map (dn m)) := by
  induction K using snoc_ind with
  | h0 => rfl
  | h1 K x ih => rw [isort_snoc, ins_dn, ih, List.map_append, List.map_cons, List.map_nil, isort_snoc]
theorem ins_last {x : Tm} {L : List Tm} (h : ∀ y ∈ L, y.left ≤ x.left) : ins x L = L ++ [x] := by
  have := ins_split (x := x) (P := L) (B := []) h (by simp)
  rw [List.append_nil] at this; exact this
theorem isort_same {K : List Tm} {v : Int} (h : ∀ y ∈ K, y.left = v) : isort K = K := by
  induction K using snoc_ind with
  | h0 => rfl
  | h1 K x ih =>
    have hx := h x (by simp)
    rw [isort_snoc, ih (fun y hy => h y (by simp [hy]))]
    exact ins_last (fun y hy => by have := h y (by simp [hy]); omega)
/-- What goes off with the m-th tick, if none is earlier. -/
def rOut (m : Int) (K : List Tm) : List Int := (K.filter (fun x => x.left == m)).map Tm.id
def rRst (m : Int) (K : List Tm) : List Tm := (K.filter (fun x => x.left != m)).map (dn m)
theorem out_isort {m : Int} {K : List Tm} (h : ∀ x ∈ K, m ≤ x.left) : out m (isort K) = rOut m K := by
  unfold out rOut
  rw [isort_filter]
  have e : K.filter (fun x => decide (x.left ≤ m)) = K.filter (fun x => x.left == m) := List.filter_congr (fun x hx => by
    have := h x hx
    by_cases e : x.left = m
    · simp [e]
    · have : ¬ x.left ≤ m := by omega
      simp [e, this])
  rw [e, isort_same (v := m)]
  intro y hy
  simpa using (List.mem_filter.1 hy).2
theorem rst_isort {m : Int} {K : List Tm} (h : ∀ x ∈ K, m ≤ x.left) : rst m (isort K) = isort (rRst m K) := by
  unfold rst rRst
  rw [isort_filter, isort_dn]
  have e : K.filter (fun x => decide (m < x.left)) = K.filter (fun x => x.left != m) := List.filter_congr (fun x hx => by
    have := h x hx
    by_cases e : x.left = m
    · simp [e]
    · have : m < x.left := by omega
      simp [e, this])
  rw [e]
theorem rmv_isort (K : List Tm) (a : Int) : rmv (isort K) a = isort (rmv K a) := isort_filter _ K
theorem hasT_isort (K : List Tm) (a : Int) : hasT (isort K) a = hasT K a := by
  cases h : hasT K a with
  | true =>
    obtain ⟨x, hx, e⟩ := (hasT_iff K a).1 h
    exact (hasT_iff _ a).2 ⟨x, mem_isort.2 hx, e⟩
  | false =>
    refine (hasT_not _ a).2 (fun x hx => (hasT_not K a).1 h x (mem_isort.1 hx))
theorem lft_isort {K : List Tm} (h : K.Pairwise (fun a b => a.id ≠ b.id)) (a : Int) : lft (isort K) a = lft K a := by
  rcases lft_cases (isort K) a with ⟨x, hx, h1, h2⟩ | ⟨h1, h2⟩
  · rw [h2, ← h1]; exact (lft_mem h (mem_isort.1 hx)).symm
  · rw [h2]; exact (lft_none (fun x hx => h1 x (mem_isort.2 hx))).symm
theorem addE_isort (R : Int) (K : List Tm) (a n : Int) : addE R (isort K) a n = addE R K a n := by
  unfold addE; rw [hasT_isort, length_isort]
def rAdd (R : Int) (K : List Tm) (a n : Int) : List Tm := if addE R K a n = 0 then K ++ [⟨a, n⟩] else K
theorem addL_isort (R : Int) (K : List Tm) (a n : Int) : addL R (isort K) a n = isort (rAdd R K a n) := by
  unfold addL rAdd
  rw [addE_isort]
  by_cases h : addE R K a n = 0
  · rw [if_pos h, if_pos h, isort_snoc]
  · rw [if_neg h, if_neg h]
/-- The document's list as it may be. -/
structure Kd (K : List Tm) : Prop where
  nd : K.Pairwise (fun a b => a.id ≠ b.id)
  rng : ∀ x ∈ K, 1 ≤ x.left ∧ x.left ≤ 9007199254740991
  len : K.length ≤ 256
theorem Kd.of {R : Int} {K : List Tm} (h : Gd R (isort K)) (nd : K.Pairwise (fun a b => a.id ≠ b.id)) : Kd K :=
  ⟨nd, fun x hx => h.rng x (mem_isort.2 hx), by have := h.len; have := h.r1; rw [length_isort] at *; omega⟩
theorem nd_rAdd {R : Int} {K : List Tm} {a n : Int} (h : K.Pairwise (fun a b => a.id ≠ b.id)) : (rAdd R K a n).Pairwise (fun a b => a.id ≠ b.id) := by
  unfold rAdd
  by_cases he : addE R K a n = 0
  · rw [if_pos he, List.pairwise_append]
    refine ⟨h, by simp, fun x hx y hy => ?_⟩
    rw [List.mem_singleton] at hy
    subst hy
    unfold addE at he
    by_cases h1 : n < 1 ∨ 9007199254740991 < n
    · rw [if_pos h1] at he; omega
    · rw [if_neg h1] at he
      cases hh : hasT K a with
      | true => rw [hh, if_pos rfl] at he; omega
      | false => exact (hasT_not K a).1 hh x hx
  · rw [if_neg he]; exact h
theorem nd_rRst {m : Int} {K : List Tm} (h : K.Pairwise (fun a b => a.id ≠ b.id)) : (rRst m K).Pairwise (fun a b => a.id ≠ b.id) :=
  (h.sublist List.filter_sublist).map _ (fun _ _ hab => hab)
theorem nd_rmv {K : List Tm} {a : Int} (h : K.Pairwise (fun a b => a.id ≠ b.id)) : (rmv K a).Pairwise (fun a b => a.id ≠ b.id) := h.sublist List.filter_sublist
theorem mem_rRst {m : Int} {K : List Tm} {y : Tm} (h : y ∈ rRst m K) : ∃ x ∈ K, x.left ≠ m ∧ dn m x = y := by
  unfold rRst at h
  obtain ⟨x, hx, e⟩ := List.mem_map.1 h
  have := List.mem_filter.1 hx
  exact ⟨x, this.1, by simpa using this.2, e⟩
theorem Kd.rRst {m : Int} {K : List Tm} (h : Kd K) (hm : ∀ x ∈ K, m ≤ x.left) (h0 : 0 ≤ m) : Kd (rRst m K) := by
  refine ⟨nd_rRst h.nd, fun y hy => ?_, ?_⟩
  · obtain ⟨x, hx, hne, rfl⟩ := mem_rRst hy
    have h1 := h.rng x hx
    have h2 := hm x hx
    rw [dnl]; omega
  · have := h.len
    have h2 : (Ytfejnokljddomaa.rRst m K).length ≤ K.length := by unfold Ytfejnokljddomaa.rRst; rw [List.length_map]; exact List.length_filter_le _ _
    omega
/-- As many ticks nearer, so that the nearest has one left. -/
theorem rOut_up (m : Int) (K : List Tm) : rOut 1 (K.map (dn (m - 1))) = rOut m K := by
  unfold rOut
  induction K with
  | nil => rfl
  | cons x t ih =>
    rw [List.map_cons]
    by_cases e : x.left = m
    · rw [List.filter_cons_of_pos (by rw [dnl]; simp; omega), List.filter_cons_of_pos (by simpa using e), List.map_cons, List.map_cons, ih]; rfl
    · rw [List.filter_cons_of_neg (by rw [dnl]; simp; omega), List.filter_cons_of_neg (by simpa using e), ih]
theorem rRst_up (m : Int) (K : List Tm) : rRst 1 (K.map (dn (m - 1))) = rRst m K := by
  unfold rRst
  induction K with
  | nil => rfl
  | cons x t ih =>
    rw [List.map_cons]
    by_cases e : x.left = m
    · rw [List.filter_cons_of_neg (by rw [dnl]; simp; omega), List.filter_cons_of_neg (by simpa using e), ih]
    · rw [List.filter_cons_of_pos (by rw [dnl]; simp; omega), List.filter_cons_of_pos (by simpa using e), List.map_cons, List.map_cons, ih, dn_dn, show m - 1 + 1 = m by omega]
def tm0 : Tm := ⟨0, 0⟩
theorem take_snocT {K : List Tm} {j : Nat} (h : j < K.length) : K.take (j + 1) = K.take j ++ [K.getD j tm0] := by
  rw [List.take_succ_eq_append_getElem h]; simp [List.getD, List.getElem?_eq_getElem h]
theorem rOut_snoc (K : List Tm) (x : Tm) (m : Int) : rOut m (K ++ [x]) = rOut m K ++ (if x.left = m then [x.id] else []) := by
  unfold rOut
  rw [List.filter_append, List.map_append]
  by_cases e : x.left = m
  · rw [if_pos e, List.filter_cons_of_pos (by simpa using e)]; rfl
  · rw [if_neg e, List.filter_cons_of_neg (by simpa using e)]; rfl
theorem rRst_snoc (K : List Tm) (x : Tm) (m : Int) : rRst m (K ++ [x]) = rRst m K ++ (if x.left = m then [] else [dn m x]) := by
  unfold rRst
  rw [List.filter_append, List.map_append]
  by_cases e : x.left = m
  · rw [if_pos e, List.filter_cons_of_neg (by simpa using e)]; rfl
  · rw [if_neg e, List.filter_cons_of_pos (by simpa using e)]; rfl
/-- The place of an id. -/
def idx : List Tm → Int → Int
  | [], _ => -1
  | x :: t, a => if x.id = a then 0 else if idx t a < 0 then -1 else idx t a + 1
theorem idx_cases (K : List Tm) (a : Int) : (∃ k : Nat, idx K a = k ∧ k < K.length ∧ (K.getD k tm0).id = a ∧ ∀ j, j < k → (K.getD j tm0).id ≠ a) ∨ (idx K a = -1 ∧ ∀ j, j < K.length → (K.getD j tm0).id ≠ a) := by
  induction K with
  | nil => exact .inr ⟨rfl, fun j hj => absurd hj (by simp)⟩
  | cons x t ih =>
    by_cases e : x.id = a
    · exact .inl ⟨0, by rw [idx, if_pos e]; rfl, by simp, by simpa using e, fun j hj => absurd hj (by omega)⟩
    · rcases ih with ⟨k, h1, h2, h3, h4⟩ | ⟨h1, h2⟩
      · refine .inl ⟨k + 1, by rw [idx, if_neg e, h1, if_neg (by omega)]; omega, by simp; omega, by simpa using h3, fun j hj => ?_⟩
        cases j with
        | zero => simpa using e
        | succ j => have := h4 j (by omega); simpa using this
      · refine .inr ⟨by rw [idx, if_neg e, h1, if_pos (by omega)], fun j hj => ?_⟩
        cases j with
        | zero => simpa using e
        | succ j => have := h2 j (by simpa using hj); simpa using this
theorem idx_in {K : List Tm} {a : Int} {k : Nat} (hk : k < K.length) (h1 : (K.getD k tm0).id = a) (h2 : ∀ j, j < k → (K.getD j tm0).id ≠ a) : idx K a = k := by
  rcases idx_cases K a with ⟨i, e, hi, e1, e2⟩ | ⟨_, e2⟩
  · have : i = k := by
      rcases Nat.lt_trichotomy i k with h | h | h
      · exact absurd e1 (h2 i h)
      · exact h
      · exact absurd h1 (e2 k h)
    rw [e, this]
  · exact absurd h1 (e2 k hk)
theorem idx_out {K : List Tm} {a : Int} (h : ∀ j, j < K.length → (K.getD j tm0).id ≠ a) : idx K a = -1 := by
  rcases idx_cases K a with ⟨k, _, hk, h1, _⟩ | ⟨h1, _⟩
  · exact absurd h1 (h k hk)
  · exact h1
theorem getD_mem {K : List Tm} {k : Nat} (hk : k < K.length) : K.getD k tm0 ∈ K := by
  have : K.getD k tm0 = K[k] := by simp [List.getD, List.getElem?_eq_getElem hk]
  rw [this]; exact List.getElem_mem hk
theorem mem_getD {K : List Tm} {x : Tm} (h : x ∈ K) : ∃ k, k < K.length ∧ K.getD k tm0 = x := by
  obtain ⟨k, hk, e⟩ := List.getElem_of_mem h
  exact ⟨k, hk, by simp [List.getD, List.getElem?_eq_getElem hk, e]⟩
theorem has_idx (K : List Tm) (a : Int) : hasT K a = decide (0 ≤ idx K a) := by
  rcases idx_cases K a with ⟨k, e, hk, h1, _⟩ | ⟨e, h2⟩
  · rw [(hasT_iff K a).2 ⟨_, getD_mem hk, h1⟩, e]; simp
  · rw [(hasT_not K a).2 (fun x hx => ?_), e]
    · rfl
    · obtain ⟨k, hk, ek⟩ := mem_getD hx
      have := h2 k hk
      rwa [ek] at this
theorem lft_idx {K : List Tm} (h : K.Pairwise (fun a b => a.id ≠ b.id)) (a : Int) : lft K a = if 0 ≤ idx K a then (K.getD (idx K a).toNat tm0).left else 0 := by
  rcases idx_cases K a with ⟨k, e, hk, h1, _⟩ | ⟨e, h2⟩
  · rw [e, if_pos (by omega), ← h1]
    exact lft_mem h (getD_mem hk)
  · rw [e, if_neg (by omega)]
    refine lft_none (fun x hx => ?_)
    obtain ⟨k, hk, ek⟩ := mem_getD hx
    have := h2 k hk
    rwa [ek] at this
theorem rmv_idx {K : List Tm} (h : K.Pairwise (fun a b => a.id ≠ b.id)) {a : Int} {k : Nat} (hk : k < K.length) (h1 : (K.getD k tm0).id = a) : rmv K a = K.eraseIdx k := by
  have e : K = K.take k ++ K.getD k tm0 :: K.drop (k + 1) := by
    have : K.getD k tm0 = K[k] := by simp [List.getD, List.getElem?_eq_getElem hk]
    rw [this, ← List.drop_eq_getElem_cons hk, List.take_append_drop]
  have hr : rmv K a = K.take k ++ K.drop (k + 1) := by
    have h' := h
    rw [e] at h'
    have := rmv_split h' h1
    rw [← e] at this; exact this
  rw [hr, List.eraseIdx_eq_take_drop_succ]
end Go.Proofs.Ytfejnokljddomaa
