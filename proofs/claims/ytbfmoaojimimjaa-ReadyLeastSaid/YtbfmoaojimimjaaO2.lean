/- What ReadyLeast keeps: who is in, the best of them. -/
import Derived.Test.YtbfmoaojimimjaaO
namespace Go.Proofs.Ytbfmoaojimimjaa
open Go.ChangeShapes Go.WideShapes Go.ChangeAt Go.RowKit Go.Deep
theorem vals_made1 {w : World} {b n : Nat} {e : TypeId} {z : Value} (hz : z.cells = #[z]) (h : w.ownsRow 0 e 1 (.slice (some ⟨b, 0, none⟩) n n) n (madeCells z.cells (n * 1)).toList) : Vals w b e n (fun _ => z) := by
  obtain ⟨h1, h2⟩ := h
  rcases h2 with ⟨h2, _⟩ | ⟨g, cap, cur, hv, _, hh, hn, hc, hs, ht⟩
  · cases h2
  · cases hv
    have e : cur = (((List.range n).map (fun _ => z))).toArray := by
      apply Array.ext'
      have e1 : cur.toList.take (n * 1) = cur.toList := List.take_of_length_le (by simp; omega)
      rw [e1] at ht
      rw [ht]
      apply List.ext_getElem?
      intro j
      by_cases hj : j < n
      · simp [madeCells, hj, hz, Nat.mod_one]
      · simp [madeCells, hj]
    show w.heap[b]? = _
    rw [hh, e]
/-- The queue holds the tasks below m that are in. -/
def In (v : Nat → Int) (m : Nat) (B : Nat → Bool) (L : List E) : Prop := ∀ e, e ∈ L ↔ ∃ k, k < m ∧ B k = true ∧ e = ⟨k, v k, none⟩
def on (B : Nat → Bool) (k : Nat) : Nat → Bool := fun j => if j = k then true else B j
theorem on_at (B : Nat → Bool) (k : Nat) : on B k k = true := by unfold on; simp
theorem on_le {B : Nat → Bool} {k j : Nat} (h : B j = true) : on B k j = true := by unfold on; split <;> simp_all
theorem In.nil (v : Nat → Int) (m : Nat) : In v m (fun _ => false) [] := fun e => ⟨fun h => (List.not_mem_nil h).elim, fun ⟨k, _, h, _⟩ => by cases h⟩
theorem In.add {v : Nat → Int} {m k : Nat} {B : Nat → Bool} {L : List E} (h : In v m B L) (hm : m ≤ 24) (hk : k < m) (hb : B k = false) (hv : 0 ≤ v k ∧ v k ≤ big) : addN L k (v k) = 0 ∧ In v m (on B k) (addL L k (v k)) ∧ (addL L k (v k)).length = L.length + 1 := by
  have hh : hasT (k : Int) L = false := hasT_not (fun y hy e => by
    obtain ⟨i, hi, hb', rfl⟩ := (h y).1 hy
    have : i = k := by simp at e; omega
    subst this
    rw [hb] at hb'; cases hb')
  have ht : taskB (k : Int) = true := taskB_iff.2 ⟨by omega, by omega⟩
  have e0 : addN L k (v k) = 0 := by unfold addN; rw [ht, levB_iff.2 hv, hh]; simp
  have e1 : addL L k (v k) = insE ⟨k, v k, none⟩ L := by unfold addL; rw [if_pos e0]
  refine ⟨e0, fun e => ?_, by rw [e1, length_insE]⟩
  rw [e1, mem_insE, h]
  constructor
  · rintro (rfl | ⟨i, hi, hb', rfl⟩)
    · exact ⟨k, hk, on_at _ _, rfl⟩
    · exact ⟨i, hi, on_le hb', rfl⟩
  · rintro ⟨i, hi, hb', rfl⟩
    by_cases e : i = k
    · subst e; exact .inl rfl
    · refine .inr ⟨i, hi, ?_, rfl⟩
      unfold on at hb'
      rw [if_neg e] at hb'; exact hb'
theorem In.all {v : Nat → Int} {m : Nat} {B : Nat → Bool} {L : List E} (h : In v m B L) (hm : m ≤ 24) (hv : ∀ i, 0 ≤ v i ∧ v i ≤ big) (hq : QOK L) (hb : ∀ k, k < m → B k = true) : L.length = m := by
  obtain ⟨h1, h2⟩ := fill_mem v m hm hv
  have : L = fill v m := extE hq.srt h1.srt fun e => by
    rw [h, h2]
    exact ⟨fun ⟨k, hk, _, e⟩ => ⟨k, hk, e⟩, fun ⟨k, hk, e⟩ => ⟨k, hk, hb k hk, e⟩⟩
  rw [this, fill_len hm hv]
/-- The best of the first j: its number, or less than none. -/
def bst (v : Nat → Int) (B : Nat → Bool) : Nat → Int
  | 0 => -1
  | j + 1 => if B j = true ∧ (bst v B j < 0 ∨ v j < v (bst v B j).toNat) then (j : Int) else bst v B j
def Best (v : Nat → Int) (B : Nat → Bool) (j : Nat) (b : Int) : Prop :=
  (b = -1 ∧ ∀ i, i < j → B i = false) ∨ ∃ k : Nat, b = (k : Int) ∧ k < j ∧ B k = true ∧ ∀ i, i < j → B i = true → v k < v i ∨ (v k = v i ∧ k ≤ i)
theorem Best.zero (v : Nat → Int) (B : Nat → Bool) : Best v B 0 (-1) := .inl ⟨rfl, fun i hi => absurd hi (by omega)⟩
theorem Best.skip {v : Nat → Int} {B : Nat → Bool} {j : Nat} {b : Int} (h : Best v B j b) (hb : B j = false) : Best v B (j + 1) b := by
  rcases h with ⟨h1, h2⟩ | ⟨k, h1, h2, h3, h4⟩
  · refine .inl ⟨h1, fun i hi => ?_⟩
    by_cases e : i = j
    · subst e; exact hb
    · exact h2 i (by omega)
  · refine .inr ⟨k, h1, by omega, h3, fun i hi hbi => ?_⟩
    by_cases e : i = j
    · subst e; rw [hb] at hbi; cases hbi
    · exact h4 i (by omega) hbi
theorem Best.first {v : Nat → Int} {B : Nat → Bool} {j : Nat} (h : Best v B j (-1)) (hb : B j = true) : Best v B (j + 1) (j : Int) := by
  rcases h with ⟨h1, h2⟩ | ⟨k, h1, _⟩
  · refine .inr ⟨j, rfl, by omega, hb, fun i hi hbi => ?_⟩
    by_cases e : i = j
    · subst e; exact .inr ⟨rfl, Nat.le_refl _⟩
    · rw [h2 i (by omega)] at hbi; cases hbi
  · omega
theorem Best.less {v : Nat → Int} {B : Nat → Bool} {j k : Nat} (h : Best v B j (k : Int)) (hb : B j = true) (hv : v j < v k) : Best v B (j + 1) (j : Int) := by
  rcases h with ⟨h1, h2⟩ | ⟨k', h1, h2, h3, h4⟩
  · omega
  · obtain rfl : k = k' := by omega
    refine .inr ⟨j, rfl, by omega, hb, fun i hi hbi => ?_⟩
    by_cases e : i = j
    · subst e; exact .inr ⟨rfl, Nat.le_refl _⟩
    · have := h4 i (by omega) hbi; omega
theorem Best.more {v : Nat → Int} {B : Nat → Bool} {j k : Nat} (h : Best v B j (k : Int)) (hv : ¬ v j < v k) : Best v B (j + 1) (k : Int) := by
  rcases h with ⟨h1, h2⟩ | ⟨k', h1, h2, h3, h4⟩
  · omega
  · obtain rfl : k = k' := by omega
    refine .inr ⟨k, rfl, by omega, h3, fun i hi hbi => ?_⟩
    by_cases e : i = j
    · subst e; omega
    · exact h4 i (by omega) hbi
theorem Best.cases {v : Nat → Int} {B : Nat → Bool} {j : Nat} {b : Int} (h : Best v B j b) : b = -1 ∨ ∃ k : Nat, b = (k : Int) ∧ k < j := by
  rcases h with ⟨h1, h2⟩ | ⟨k, h1, h2, _⟩
  · exact .inl h1
  · exact .inr ⟨k, h1, h2⟩
theorem Best.fir {v : Nat → Int} {B : Nat → Bool} {m : Nat} {b : Int} {L : List E} (h : Best v B m b) (hi : In v m B L) (hq : QOK L) : firE L = b := by
  cases L with
  | nil =>
    rcases h with ⟨h1, _⟩ | ⟨k, h1, h2, h3, _⟩
    · exact h1.symm
    · exact absurd ((hi _).2 ⟨k, h2, h3, rfl⟩) List.not_mem_nil
  | cons x L =>
    obtain ⟨i, him, hbi, hx⟩ := (hi x).1 List.mem_cons_self
    rcases h with ⟨_, h2⟩ | ⟨k, h1, h2, h3, h4⟩
    · rw [h2 i him] at hbi; cases hbi
    · show x.t = b
      have hm := (hi ⟨k, v k, none⟩).2 ⟨k, h2, h3, rfl⟩
      have h5 := h4 i him hbi
      rw [h1, hx]
      show ((i : Nat) : Int) = k
      rcases List.mem_cons.1 hm with e | e
      · rw [hx] at e
        have := congrArg E.t e
        simpa using this.symm
      · have hs := hq.srt
        rw [List.pairwise_cons] at hs
        have := hs.1 _ e
        rw [ke_lt (hq.ok _ List.mem_cons_self) (hq.ok _ hm), hx] at this
        have l1 : lv (⟨i, v i, none⟩ : E) = v i := rfl
        have l2 : lv (⟨k, v k, none⟩ : E) = v k := rfl
        rw [l1, l2] at this
        simp at this
        omega
theorem Hw.set {w w1 : World} {S : Nat → Prop} {q g k : Nat} {pol n : Int} {L : List E} (h : Hw w w1 S q pol n L) (hg : w.heap.size ≤ g) (hs : ¬ S g) (u : Value) : Hw w (w1.setCell ⟨g, k, none⟩ u) S q pol n L :=
  ⟨h.qp.but (S' := Just g) ((But.refl _ w1).setCell (p := ⟨g, k, none⟩) (just g) u) (fun _ hj e => hs (e ▸ hj)), h.but.setNew (p := ⟨g, k, none⟩) hg u, h.new⟩
/-- What a round of ReadyLeast begins with. -/
structure Lr (w wr : World) (v : Nat → Int) (m N g q : Nat) (pol : Int) (i : Nat) (S : Nat → Prop) (B : Nat → Bool) (L : List E) : Prop where
  hw : Hw w wr S q pol L.length L
  inn : In v m B L
  vals : Vals wr g 4 24 (fun j => .bool (B j))
  ns : ¬ S g
  new : w.heap.size ≤ g
  all : ∀ k, k < m → k + N < i → B k = true
theorem Lr.go {w wr : World} {v : Nat → Int} {m N g q i : Nat} {pol : Int} {S : Nat → Prop} {B : Nat → Bool} {L : List E} (h : Lr w wr v m N g q pol i S B L) (hb : ∀ k, k < m → k + N = i → B k = true) : Lr w wr v m N g q pol (i + 1) S B L :=
  ⟨h.hw, h.inn, h.vals, h.ns, h.new, fun k hk hi => by
    by_cases e : k + N = i
    · exact hb k hk e
    · exact h.all k hk (by omega)⟩
theorem Lr.add {w wr w3 : World} {v : Nat → Int} {m N g q i k : Nat} {pol : Int} {S : Nat → Prop} {B : Nat → Bool} {L : List E} (h : Lr w wr v m N g q pol i S B L) (hm : m ≤ 24) (hk : k < m) (hb : B k = false) (hv : 0 ≤ v k ∧ v k ≤ big) (hi : ∀ j, j < m → j + N = i → j = k)
    (hq : QMv (wr.setCell ⟨g, k, none⟩ (.bool true)) S q pol (L.length + 1) (addL L k (v k)) w3) : ∃ S', Lr w w3 v m N g q pol (i + 1) S' (on B k) (addL L k (v k)) := by
  have h1 := h.hw.set (g := g) (k := k) h.new h.ns (.bool true)
  obtain ⟨e0, e1, e2⟩ := h.inn.add hm hk hb hv
  have hvl := h.vals.set (k := k) (.bool true)
  obtain ⟨S', a, b⟩ := h1.step2 hq
  obtain ⟨S'', c1, c2, c3⟩ := hq
  refine ⟨S', ⟨?_, e1, ?_, b g hvl.lt h.ns, h.new, fun j hj hji => ?_⟩⟩
  · have e : (((addL L k (v k)).length : Nat) : Int) = (L.length : Int) + 1 := by rw [e2]; omega
    rw [e]; exact a
  · refine (Vals.but hvl c2 h.ns).congr fun j _ => ?_
    show Value.bool (on B k j) = _
    unfold on
    split <;> rfl
  · by_cases e : j + N = i
    · rw [hi j hj e]; exact on_at B k
    · exact on_le (h.all j hj (by omega))
theorem Lr.no {w wr w3 : World} {v : Nat → Int} {m N g q i : Nat} {pol : Int} {S : Nat → Prop} {B : Nat → Bool} {L : List E} (h : Lr w wr v m N g q pol i S B L) (hb : But No wr w3) : Lr w w3 v m N g q pol i S B L :=
  ⟨h.hw.no hb, h.inn, h.vals.but hb (fun f => f), h.ns, h.new, h.all⟩
end Go.Proofs.Ytbfmoaojimimjaa
