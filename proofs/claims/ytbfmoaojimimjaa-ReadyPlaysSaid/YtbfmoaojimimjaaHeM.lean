/- Plain mathematics of layer 2: binary heaps as functions of places, and lists in their order. -/
import Derived.Test.YtbfmoaojimimjaaBase
namespace Go.Proofs.Ytbfmoaojimimjaa.hea
/-- An item of a heap. -/
structure It where
  id : Int
  key : Int
  turn : Int
/-- a comes before b. -/
def Ah (a b : It) : Prop := a.key < b.key ∨ (a.key = b.key ∧ a.turn < b.turn)
def ahB (a b : It) : Bool := if a.key = b.key then decide (a.turn < b.turn) else decide (a.key < b.key)
theorem ahB_iff (a b : It) : ahB a b = true ↔ Ah a b := by
  unfold ahB Ah; split <;> simp <;> omega
theorem ahB_true {a b : It} (h : Ah a b) : ahB a b = true := (ahB_iff a b).2 h
theorem ahB_false {a b : It} (h : ¬ Ah a b) : ahB a b = false := by
  cases e : ahB a b with
  | false => rfl
  | true => exact absurd ((ahB_iff a b).1 e) h
theorem Ah.asymm {a b : It} (h : Ah a b) : ¬ Ah b a := by unfold Ah at *; omega
theorem Ah.trans {a b c : It} (h : Ah a b) (k : Ah b c) : Ah a c := by unfold Ah at *; omega
theorem Ah.irr (a : It) : ¬ Ah a a := by unfold Ah; omega
theorem nah_trans {a b c : It} (h : ¬ Ah b a) (k : ¬ Ah c b) : ¬ Ah c a := by unfold Ah at *; omega
def upd (f : Nat → It) (i : Nat) (x : It) : Nat → It := fun k => if k = i then x else f k
def swp (f : Nat → It) (i j : Nat) : Nat → It := upd (upd f i (f j)) j (f i)
theorem upd_same (f : Nat → It) (i : Nat) (x : It) : upd f i x i = x := by simp [upd]
theorem upd_other (f : Nat → It) {i k : Nat} (x : It) (h : k ≠ i) : upd f i x k = f k := by simp [upd, h]
theorem swp_right (f : Nat → It) (i j : Nat) : swp f i j j = f i := by simp [swp, upd]
theorem swp_left (f : Nat → It) (i j : Nat) : swp f i j i = f j := by
  unfold swp upd; by_cases h : i = j <;> simp [h]
theorem swp_other (f : Nat → It) {i j k : Nat} (h : k ≠ i) (h' : k ≠ j) : swp f i j k = f k := by simp [swp, upd, h, h']
/-- The parent of a place. -/
def par (k : Nat) : Nat := (k - 1) / 2
def HeapOK (n : Nat) (f : Nat → It) : Prop := ∀ k, 0 < k → k < n → ¬ Ah (f k) (f (par k))
def Kids (n : Nat) (f : Nat → It) (i : Nat) : Prop := ∀ k, 0 < k → k < n → par k = i → 0 < i → ¬ Ah (f k) (f (par i))
def Almost (n : Nat) (f : Nat → It) (i : Nat) : Prop := (∀ k, 0 < k → k < n → k ≠ i → par k ≠ i → ¬ Ah (f k) (f (par k))) ∧ Kids n f i
def Up (n : Nat) (f : Nat → It) (i : Nat) : Prop := (∀ k, 0 < k → k < n → k ≠ i → ¬ Ah (f k) (f (par k))) ∧ Kids n f i
def Dn (n : Nat) (f : Nat → It) (i : Nat) : Prop := (∀ k, 0 < k → k < n → par k ≠ i → ¬ Ah (f k) (f (par k))) ∧ Kids n f i
theorem Up.almost {n : Nat} {f : Nat → It} {i : Nat} (h : Up n f i) : Almost n f i := ⟨fun k a b c _ => h.1 k a b c, h.2⟩
theorem par_lt {k : Nat} (h : 0 < k) : par k < k := by unfold par; omega
theorem Almost.up {n : Nat} {f : Nat → It} {i : Nat} (h : Almost n f i) (h0 : 0 < i) (hn : i < n) (ha : Ah (f i) (f (par i))) : Up n (swp f i (par i)) (par i) := by
  obtain ⟨h1, h2⟩ := h
  have hp : par i < i := par_lt h0
  refine ⟨fun k k0 kn kp => ?_, fun k k0 kn kp p0 => ?_⟩
  · by_cases e : k = i
    · subst e
      rw [swp_left, swp_right]; exact ha.asymm
    · rw [swp_other f e kp]
      by_cases e1 : par k = i
      · rw [e1, swp_left]; exact h2 k k0 kn e1 h0
      · by_cases e2 : par k = par i
        · rw [e2, swp_right]
          intro hk
          have := h1 k k0 kn e e1
          rw [e2] at this
          exact this (hk.trans ha)
        · rw [swp_other f e1 e2]; exact h1 k k0 kn e e1
  · have hpp : par (par i) < par i := par_lt p0
    rw [swp_other (k := par (par i)) f (by omega) (by omega)]
    have hpi := h1 (par i) p0 (by omega) (by omega) (by omega)
    by_cases e : k = i
    · subst e; rw [swp_left]; exact hpi
    · have hk : k ≠ par i := by intro e'; rw [e'] at kp; omega
      rw [swp_other f e hk]
      have := h1 k k0 kn e (by omega)
      rw [kp] at this
      exact nah_trans hpi this
theorem Up.done {n : Nat} {f : Nat → It} {i : Nat} (h : Up n f i) (hd : i = 0 ∨ ¬ Ah (f i) (f (par i))) : HeapOK n f := by
  intro k k0 kn
  by_cases e : k = i
  · subst e; rcases hd with hd | hd
    · omega
    · exact hd
  · exact h.1 k k0 kn e
theorem Almost.dn {n : Nat} {f : Nat → It} {i : Nat} (h : Almost n f i) (hd : i = 0 ∨ ¬ Ah (f i) (f (par i))) : Dn n f i := by
  refine ⟨fun k k0 kn kp => ?_, h.2⟩
  by_cases e : k = i
  · subst e; rcases hd with hd | hd
    · omega
    · exact hd
  · exact h.1 k k0 kn e kp
theorem HeapOK.dn {n : Nat} {f : Nat → It} (i : Nat) (hn : i < n) (h : HeapOK n f) : Dn n f i :=
  ⟨fun k k0 kn _ => h k k0 kn, fun k k0 kn kp i0 => nah_trans (h i i0 hn) (by have := h k k0 kn; rw [kp] at this; exact this)⟩
/-- Which place has the first item of i and its children. -/
def Fam (n : Nat) (f : Nat → It) (i j : Nat) : Prop := (j = i ∨ (par j = i ∧ 0 < j ∧ j < n ∧ Ah (f j) (f i))) ∧ ∀ k, 0 < k → k < n → par k = i → ¬ Ah (f k) (f j)
theorem Dn.done {n : Nat} {f : Nat → It} {i : Nat} (h : Dn n f i) (hf : Fam n f i i) : HeapOK n f := by
  intro k k0 kn
  by_cases e : par k = i
  · rw [e]; exact hf.2 k k0 kn e
  · exact h.1 k k0 kn e
theorem Dn.dn {n : Nat} {f : Nat → It} {i j : Nat} (h : Dn n f i) (hf : Fam n f i j) (hne : j ≠ i) : j < n ∧ i < j ∧ Dn n (swp f i j) j := by
  obtain ⟨h1, h2⟩ := h
  obtain ⟨hj, hl⟩ := hf
  rcases hj with hj | ⟨pj, j0, jn, ja⟩
  · exact absurd hj hne
  have hij : i < j := by have := par_lt j0; omega
  refine ⟨jn, hij, fun k k0 kn kp => ?_, fun k k0 kn kp _ => ?_⟩
  · by_cases e : k = j
    · subst e; rw [swp_right, pj, swp_left]; exact ja.asymm
    · by_cases e1 : k = i
      · subst e1
        have hp : par k < k := par_lt k0
        rw [swp_left, swp_other f (by omega) (by omega)]
        exact h2 j j0 jn pj k0
      · rw [swp_other f e1 e]
        by_cases e2 : par k = i
        · rw [e2, swp_left]; exact hl k k0 kn e2
        · rw [swp_other f e2 kp]; exact h1 k k0 kn e2
  · have hk : j < k := by have := par_lt k0; omega
    rw [pj, swp_left, swp_other f (by omega) (by omega)]
    have := h1 k k0 kn (by omega)
    rw [kp] at this; exact this
theorem HeapOK.fam {n : Nat} {f : Nat → It} {i j : Nat} (h : HeapOK n f) (hf : Fam n f i j) : j = i := by
  rcases hf.1 with e | ⟨pj, j0, jn, ja⟩
  · exact e
  · have := h j j0 jn; rw [pj] at this; exact absurd ja this
/-- The same items at other places. -/
def Same (n : Nat) (f g : Nat → It) : Prop := ∀ x, (∃ k, k < n ∧ g k = x) ↔ ∃ k, k < n ∧ f k = x
theorem Same.refl (n : Nat) (f : Nat → It) : Same n f f := fun _ => Iff.rfl
theorem Same.trans {n : Nat} {f g h : Nat → It} (a : Same n f g) (b : Same n g h) : Same n f h := fun x => (b x).trans (a x)
theorem Same.swp {n : Nat} (f : Nat → It) {i j : Nat} (hi : i < n) (hj : j < n) : Same n f (swp f i j) := by
  intro x
  constructor
  · rintro ⟨k, hk, rfl⟩
    by_cases e : k = i
    · subst e; exact ⟨j, hj, (swp_left f k j).symm⟩
    · by_cases e1 : k = j
      · subst e1; exact ⟨i, hi, (swp_right f i k).symm⟩
      · exact ⟨k, hk, (swp_other f e e1).symm⟩
  · rintro ⟨k, hk, rfl⟩
    by_cases e : k = i
    · subst e; exact ⟨j, hj, swp_right f k j⟩
    · by_cases e1 : k = j
      · subst e1; exact ⟨i, hi, swp_left f i k⟩
      · exact ⟨k, hk, swp_other f e e1⟩
theorem HeapOK.min {n : Nat} {f : Nat → It} (h : HeapOK n f) : ∀ k, k < n → ¬ Ah (f k) (f 0) := by
  intro k
  induction k using Nat.strongRecOn with
  | ind k ih =>
    intro hk
    by_cases e : k = 0
    · subst e; exact Ah.irr _
    · exact nah_trans (ih (par k) (par_lt (by omega)) (by have := par_lt (show 0 < k by omega); omega)) (h k (by omega) hk)
/-- The items of the first n places, in their order. -/
structure Inv (n : Nat) (f : Nat → It) (L : List It) : Prop where
  len : L.length = n
  mem : ∀ x, x ∈ L ↔ ∃ k, k < n ∧ f k = x
  srt : L.Pairwise Ah
  nd : L.Pairwise (fun a b => a.id ≠ b.id)
theorem Inv.same {n : Nat} {f g : Nat → It} {L : List It} (h : Inv n f L) (s : Same n f g) : Inv n g L :=
  ⟨h.len, fun x => (h.mem x).trans (s x).symm, h.srt, h.nd⟩
theorem Inv.nil (f : Nat → It) : Inv 0 f [] := ⟨rfl, fun x => by simp, List.Pairwise.nil, List.Pairwise.nil⟩
theorem Inv.uniq {L : List It} (h : L.Pairwise (fun a b => a.id ≠ b.id)) : ∀ {x y : It}, x ∈ L → y ∈ L → x.id = y.id → x = y := by
  induction h with
  | nil => intro x y hx; cases hx
  | cons ha _ ih =>
    intro x y hx hy e
    rcases List.mem_cons.1 hx with rfl | hx'
    · rcases List.mem_cons.1 hy with rfl | hy'
      · rfl
      · exact absurd e (ha _ hy')
    · rcases List.mem_cons.1 hy with rfl | hy'
      · exact absurd e.symm (ha _ hx')
      · exact ih hx' hy' e
/-- Behind all whose key is not greater. -/
def ins (x : It) (L : List It) : List It := L.takeWhile (fun y => decide (y.key ≤ x.key)) ++ x :: L.dropWhile (fun y => decide (y.key ≤ x.key))
theorem mem_ins {x y : It} {L : List It} : y ∈ ins x L ↔ y = x ∨ y ∈ L := by
  unfold ins
  rw [List.mem_append, List.mem_cons]
  have : y ∈ L ↔ y ∈ L.takeWhile (fun y => decide (y.key ≤ x.key)) ∨ y ∈ L.dropWhile (fun y => decide (y.key ≤ x.key)) := by
    rw [← List.mem_append, List.takeWhile_append_dropWhile]
  rw [this]
  constructor
  · rintro (h | h | h)
    · exact .inr (.inl h)
    · exact .inl h
    · exact .inr (.inr h)
  · rintro (h | h | h)
    · exact .inr (.inl h)
    · exact .inl h
    · exact .inr (.inr h)
theorem length_ins (x : It) (L : List It) : (ins x L).length = L.length + 1 := by
  unfold ins
  have : L.length = (L.takeWhile (fun y => decide (y.key ≤ x.key)) ++ L.dropWhile (fun y => decide (y.key ≤ x.key))).length := by rw [List.takeWhile_append_dropWhile]
  rw [List.length_append] at this
  rw [List.length_append, List.length_cons]; omega
theorem mem_takeWhile {α : Type} {p : α → Bool} : ∀ {L : List α} {y : α}, y ∈ L.takeWhile p → p y = true
  | [], _, h => by cases h
  | a :: L, y, h => by
    rw [List.takeWhile_cons] at h
    split at h
    · rcases List.mem_cons.1 h with rfl | h'
      · assumption
      · exact mem_takeWhile h'
    · cases h
theorem dropWhile_gt {x : It} : ∀ {L : List It}, L.Pairwise Ah → ∀ y ∈ L.dropWhile (fun y => decide (y.key ≤ x.key)), x.key < y.key
  | [], _, y, h => by cases h
  | a :: L, hs, y, h => by
    rw [List.pairwise_cons] at hs
    rw [List.dropWhile_cons] at h
    split at h
    · exact dropWhile_gt hs.2 y h
    · rename_i hn
      have hn' : x.key < a.key := by simpa using hn
      rcases List.mem_cons.1 h with rfl | h'
      · exact hn'
      · have := hs.1 y h'; unfold Ah at this; omega
theorem pw_split {α : Type} {R : α → α → Prop} {L : List α} (p : α → Bool) (h : L.Pairwise R) : (L.takeWhile p).Pairwise R ∧ (L.dropWhile p).Pairwise R ∧ ∀ a ∈ L.takeWhile p, ∀ b ∈ L.dropWhile p, R a b := by
  rw [← List.takeWhile_append_dropWhile (p := p) (l := L)] at h
  exact List.pairwise_append.1 h
theorem ins_srt {x : It} {L : List It} (hs : L.Pairwise Ah) (ht : ∀ y ∈ L, y.turn < x.turn) : (ins x L).Pairwise Ah := by
  obtain ⟨h1, h2, h3⟩ := pw_split (fun y => decide (y.key ≤ x.key)) hs
  unfold ins
  rw [List.pairwise_append, List.pairwise_cons]
  have ha : ∀ y ∈ L.takeWhile (fun y => decide (y.key ≤ x.key)), Ah y x := fun y hy => by
    have := mem_takeWhile hy
    have h5 := ht y ((List.takeWhile_sublist _).subset hy)
    unfold Ah; simp at this; omega
  refine ⟨h1, ⟨fun y hy => .inl (dropWhile_gt hs y hy), h2⟩, fun a hA b hB => ?_⟩
  rcases List.mem_cons.1 hB with rfl | hB
  · exact ha a hA
  · exact h3 a hA b hB
theorem ins_nd {x : It} {L : List It} (hs : L.Pairwise (fun a b => a.id ≠ b.id)) (ht : ∀ y ∈ L, y.id ≠ x.id) : (ins x L).Pairwise (fun a b => a.id ≠ b.id) := by
  obtain ⟨h1, h2, h3⟩ := pw_split (fun y => decide (y.key ≤ x.key)) hs
  unfold ins
  rw [List.pairwise_append, List.pairwise_cons]
  refine ⟨h1, ⟨fun y hy => (ht y ((List.dropWhile_sublist _).subset hy)).symm, h2⟩, fun a hA b hB => ?_⟩
  rcases List.mem_cons.1 hB with rfl | hB
  · exact ht a ((List.takeWhile_sublist _).subset hA)
  · exact h3 a hA b hB
theorem Inv.push {n : Nat} {f : Nat → It} {L : List It} {x : It} (h : Inv n f L) (ht : ∀ y ∈ L, y.turn < x.turn) (hi : ∀ y ∈ L, y.id ≠ x.id) : Inv (n + 1) (upd f n x) (ins x L) := by
  refine ⟨by rw [length_ins, h.len], fun y => ?_, ins_srt h.srt ht, ins_nd h.nd hi⟩
  rw [mem_ins, h.mem]
  constructor
  · rintro (rfl | ⟨k, hk, rfl⟩)
    · exact ⟨n, by omega, upd_same _ _ _⟩
    · exact ⟨k, by omega, upd_other _ _ (by omega)⟩
  · rintro ⟨k, hk, rfl⟩
    by_cases e : k = n
    · subst e; exact .inl (upd_same _ _ _)
    · exact .inr ⟨k, by omega, (upd_other _ _ e).symm⟩
/-- Without the id. -/
def rmv (id : Int) (L : List It) : List It := L.eraseP (fun y => y.id == id)
theorem rmv_split {id : Int} {L : List It} (h : ∃ x ∈ L, x.id = id) : ∃ l1 x l2, x.id = id ∧ L = l1 ++ x :: l2 ∧ rmv id L = l1 ++ l2 ∧ ∀ y ∈ l1, y.id ≠ id := by
  obtain ⟨x, hx, he⟩ := h
  obtain ⟨a, l1, l2, h1, h2, h3, h4⟩ := List.exists_of_eraseP (p := fun y : It => y.id == id) hx (by simpa using he)
  exact ⟨l1, a, l2, by simpa using h2, h3, h4, fun y hy => by have := h1 y hy; simpa using this⟩
theorem mem_rmv {id : Int} {L : List It} (hn : L.Pairwise (fun a b => a.id ≠ b.id)) (h : ∃ x ∈ L, x.id = id) (y : It) : y ∈ rmv id L ↔ y ∈ L ∧ y.id ≠ id := by
  obtain ⟨l1, x, l2, hx, hL, hr, h1⟩ := rmv_split h
  rw [hr]
  rw [hL] at hn ⊢
  rw [List.pairwise_append, List.pairwise_cons] at hn
  simp only [List.mem_append, List.mem_cons]
  constructor
  · rintro (hy | hy)
    · exact ⟨.inl hy, h1 y hy⟩
    · exact ⟨.inr (.inr hy), by rw [← hx]; exact (hn.2.1.1 y hy).symm⟩
  · rintro ⟨hy | rfl | hy, hne⟩
    · exact .inl hy
    · exact absurd hx hne
    · exact .inr hy
theorem length_rmv {id : Int} {L : List It} (h : ∃ x ∈ L, x.id = id) : (rmv id L).length + 1 = L.length := by
  obtain ⟨l1, x, l2, hx, hL, hr, _⟩ := rmv_split h
  rw [hr, hL]; simp; omega
theorem rmv_sub (id : Int) (L : List It) : (rmv id L).Sublist L := List.eraseP_sublist
/-- The last of n + 1 places is taken away. -/
theorem Inv.pop {n : Nat} {f : Nat → It} {L : List It} (h : Inv (n + 1) f L) (hinj : ∀ k, k < n → (f k).id ≠ (f n).id) : Inv n f (rmv (f n).id L) := by
  have hm : ∃ x ∈ L, x.id = (f n).id := ⟨f n, (h.mem _).2 ⟨n, by omega, rfl⟩, rfl⟩
  refine ⟨by have := length_rmv hm; have := h.len; omega, fun y => ?_, h.srt.sublist (rmv_sub _ _), h.nd.sublist (rmv_sub _ _)⟩
  rw [mem_rmv h.nd hm, h.mem]
  constructor
  · rintro ⟨⟨k, hk, rfl⟩, hne⟩
    exact ⟨k, by by_cases e : k = n; · subst e; exact absurd rfl hne
                 · omega, rfl⟩
  · rintro ⟨k, hk, rfl⟩
    exact ⟨⟨k, by omega, rfl⟩, hinj k hk⟩
theorem Inv.head {n : Nat} {f : Nat → It} {L : List It} (h : Inv n f L) (hp : HeapOK n f) (hn : 0 < n) : ∃ t, L = f 0 :: t := by
  cases L with
  | nil => have := h.len; simp at this; omega
  | cons a t =>
    obtain ⟨k, hk, hka⟩ := (h.mem a).1 List.mem_cons_self
    have h0 : f 0 ∈ a :: t := (h.mem _).2 ⟨0, hn, rfl⟩
    rcases List.mem_cons.1 h0 with e | e
    · exact ⟨t, by rw [e]⟩
    · have hs := h.srt
      rw [List.pairwise_cons] at hs
      have := hs.1 _ e
      rw [← hka] at this
      exact absurd this (hp.min k hk)
/-- Two lists in their order with the same items are one. -/
theorem srt_ext : ∀ {A B : List It}, A.Pairwise Ah → B.Pairwise Ah → (∀ x, x ∈ A ↔ x ∈ B) → A = B
  | [], [], _, _, _ => rfl
  | [], b :: B, _, _, h => absurd ((h b).2 List.mem_cons_self) (by simp)
  | a :: A, [], _, _, h => absurd ((h a).1 List.mem_cons_self) (by simp)
  | a :: A, b :: B, ha, hb, h => by
    rw [List.pairwise_cons] at ha hb
    have e : a = b := by
      rcases List.mem_cons.1 ((h a).1 List.mem_cons_self) with e | e
      · exact e
      · rcases List.mem_cons.1 ((h b).2 List.mem_cons_self) with e' | e'
        · exact e'.symm
        · exact absurd (ha.1 b e') (hb.1 a e).asymm
    subst e
    refine congrArg _ (srt_ext ha.2 hb.2 fun x => ?_)
    have := h x
    simp only [List.mem_cons] at this
    constructor
    · intro hx
      rcases this.1 (.inr hx) with rfl | h'
      · exact absurd (ha.1 _ hx) (Ah.irr _)
      · exact h'
    · intro hx
      rcases this.2 (.inr hx) with rfl | h'
      · exact absurd (hb.1 _ hx) (Ah.irr _)
      · exact h'
end Go.Proofs.Ytbfmoaojimimjaa.hea
