/- A list of works of one's own, made by append to no slice, then written: OwW; its steps. -/
import Derived.Test.YtfpcnilcbaiojaaDeW
namespace Go.Proofs.Ytfpcnilcbaiojaa.dem
open Go.ChangeShapes Go.WideShapes Go.ChangeAt Go.RowKit Go.Deep
theorem infoD : (Try.prog.info? 38).map (fun i => (i.zero, i.size, i.bytes)) = some (some (.agg #[.int .i64 0, .int .i64 0, .int .i64 0, .bool false]), 4, 32) := by kernel_rfl
theorem RWk.reads {w : World} {A : Option Addr} {n : Nat} {l : List Wk} (h : RWk w A n l) : Reads w w.heap.size 4 A n (l.flatMap wkC) := by
  refine ⟨by rw [wkC_len, h.len], fun hn => ?_⟩
  obtain ⟨b, off, e, hl, hc⟩ := h.at_ hn
  refine ⟨⟨b, off, none⟩, e, hl, fun j u hu => ?_⟩
  have hj : j < n * 4 := by have := (List.getElem?_eq_some_iff.1 hu).1; rw [wkC_len, h.len] at this; exact this
  obtain ⟨k, r, hk, hr, rfl⟩ : ∃ k r, k < n ∧ r < 4 ∧ j = k * 4 + r := ⟨j / 4, j % 4, by omega, by omega, by omega⟩
  obtain ⟨x, hx⟩ : ∃ x, l[k]? = some x := ⟨_, List.getElem?_eq_getElem (by rw [h.len]; exact hk)⟩
  obtain ⟨c0, c1, c2, c3⟩ := hc k _ hx
  obtain ⟨a0, a1, a2, a3⟩ := wkC_at hx
  rw [add_plain]
  have : r = 0 ∨ r = 1 ∨ r = 2 ∨ r = 3 := by omega
  rcases this with rfl | rfl | rfl | rfl
  · rw [Nat.add_zero] at hu ⊢; rw [a0] at hu; cases hu; exact c0
  · rw [a1] at hu; cases hu; rw [← Nat.add_assoc]; exact c1
  · rw [a2] at hu; cases hu; rw [← Nat.add_assoc]; exact c2
  · rw [a3] at hu; cases hu; rw [← Nat.add_assoc]; exact c3
theorem all_cells (l : List Wk) : ∀ u ∈ l.flatMap wkC, u.oneCell' = true := fun u hu => by
  obtain ⟨x, _, hx⟩ := List.mem_flatMap.1 hu
  simp only [wkC, List.mem_cons, List.not_mem_nil, or_false] at hx
  rcases hx with rfl | rfl | rfl | rfl <;> rfl
/-- A row of works of one's own at g. -/
def OwW (w : World) (g : Nat) (l : List Wk) : Prop := ∃ cur e, Blk w g cur e ∧ ∀ k x, l[k]? = some x → cur[k * 4]? = some (.int .i64 x.w) ∧ cur[k * 4 + 1]? = some (.int .i64 x.p) ∧ cur[k * 4 + 2]? = some (.int .i64 x.d) ∧ cur[k * 4 + 3]? = some (.bool x.top)
theorem OwW.lt {w : World} {g : Nat} {l : List Wk} (h : OwW w g l) : g < w.heap.size := by obtain ⟨_, _, h, _⟩ := h; exact h.lt
theorem OwW.but {w w' : World} {g : Nat} {l : List Wk} {S : Nat → Prop} (h : OwW w g l) (hb : But S w w') (hs : ¬ S g) : OwW w' g l := by
  obtain ⟨cur, e, h1, h2⟩ := h
  exact ⟨cur, e, h1.but hb hs, h2⟩
theorem OwW.rd {w : World} {g : Nat} {l : List Wk} (h : OwW w g l) (hm : l.length ≤ 9223372036854775807) (hf : ∀ x ∈ l, inR x.w ∧ inR x.p ∧ inR x.d) : RWk w (some ⟨g, 0, none⟩) l.length l := by
  obtain ⟨cur, e, h1, h2⟩ := h
  refine ⟨rfl, hm, fun _ => ⟨g, 0, rfl, h1.lt, fun k x hx => ?_⟩, hf⟩
  obtain ⟨a0, a1, a2, a3⟩ := h2 k x hx
  rw [Nat.zero_add]
  exact ⟨h1.cell a0, h1.cell a1, h1.cell a2, h1.cell a3⟩
theorem OwW.cells {w : World} {g k : Nat} {l : List Wk} {x : Wk} (h : OwW w g l) (hx : l[k]? = some x) : w.cell? ⟨g, k * 4, none⟩ = some (.int .i64 x.w) ∧ w.cell? ⟨g, k * 4 + 1, none⟩ = some (.int .i64 x.p) ∧ w.cell? ⟨g, k * 4 + 2, none⟩ = some (.int .i64 x.d) ∧ w.cell? ⟨g, k * 4 + 3, none⟩ = some (.bool x.top) := by
  obtain ⟨cur, e, h1, h2⟩ := h
  obtain ⟨a0, a1, a2, a3⟩ := h2 k x hx
  exact ⟨h1.cell a0, h1.cell a1, h1.cell a2, h1.cell a3⟩
theorem OwW.frozen {w : World} {g : Nat} {l : List Wk} (h : OwW w g l) (o : Nat) : w.frozen? ⟨g, o, none⟩ = false := by
  obtain ⟨cur, e, h1, _⟩ := h
  exact h1.frozen o
/-- One cell written: the work is y where it was x. -/
theorem OwW.set {w : World} {g k r : Nat} {l : List Wk} {x y : Wk} {v : Value} (h : OwW w g l) (hx : l[k]? = some x) (hr : r < 4) (hy : ∀ q u, (wkC y)[q]? = some u → if q = r then u = v else (wkC x)[q]? = some u) : OwW (w.setCell ⟨g, k * 4 + r, none⟩ v) g (l.set k y) := by
  obtain ⟨cur, e, h1, h2⟩ := h
  have hk := (List.getElem?_eq_some_iff.1 hx).1
  obtain ⟨a0, a1, a2, a3⟩ := h2 k x hx
  refine ⟨_, e, h1.set (k * 4 + r) v, fun j z hz => ?_⟩
  have old : ∀ (q : Nat) (u : Value), q < 4 → (wkC x)[q]? = some u → cur[k * 4 + q]? = some u := fun q u hq hu => by
    have : q = 0 ∨ q = 1 ∨ q = 2 ∨ q = 3 := by omega
    rcases this with rfl | rfl | rfl | rfl <;> simp [wkC] at hu <;> subst hu
    · exact a0
    · exact a1
    · exact a2
    · exact a3
  have sz : k * 4 + 3 < cur.size := (Array.getElem?_eq_some_iff.1 a3).1
  by_cases e : j = k
  · subst e
    have hzy : y = z := by simpa [hk] using hz
    subst hzy
    have new : ∀ (q : Nat) (u : Value), q < 4 → (wkC y)[q]? = some u → (cur.setIfInBounds (j * 4 + r) v)[j * 4 + q]? = some u := fun q u hq hu => by
      have h9 := hy q u hu
      rw [Array.getElem?_setIfInBounds]
      by_cases eq : q = r
      · subst eq
        rw [if_pos rfl] at h9
        rw [if_pos rfl, if_pos (by omega), h9]
      · rw [if_neg eq] at h9
        rw [if_neg (by omega)]
        exact old q u hq h9
    exact ⟨new 0 _ (by omega) rfl, new 1 _ (by omega) rfl, new 2 _ (by omega) rfl, new 3 _ (by omega) rfl⟩
  · rw [List.getElem?_set_ne (fun h => e h.symm)] at hz
    obtain ⟨b0, b1, b2, b3⟩ := h2 j z hz
    refine ⟨?_, ?_, ?_, ?_⟩ <;> rw [Array.getElem?_setIfInBounds, if_neg (by omega)] <;> assumption
/-- What append to no slice makes of a list. -/
theorem oww_of {w : World} {l : List Wk} {t : TypeId} {A : Option Addr} {n c N : Nat} (h : w.ownsRow 0 t 4 (.slice A n c) n (l.flatMap wkC)) (hn : 0 < n) (hat : (Value.slice A n c).ownBlock = (Value.slice none 0 0).ownBlock ∨ (Value.slice A n c).ownBlock = some N) : A = some ⟨N, 0, none⟩ ∧ OwW w N l ∧ l.length = n := by
  obtain ⟨h1, h2⟩ := h
  have hl : l.length = n := by rw [wkC_len] at h1; omega
  rcases h2 with ⟨h2, _⟩ | ⟨g', cap, cur, hv, _, hh, hc, _, hs, ht⟩
  · cases h2; omega
  · cases hv
    have e : g' = N := by
      rcases hat with h | h
      · simp [Value.ownBlock] at h
      · simpa [Value.ownBlock] using h
    subst e
    refine ⟨rfl, ⟨cur, t, hh, fun k x hx => ?_⟩, hl⟩
    have hk : k < l.length := (List.getElem?_eq_some_iff.1 hx).1
    obtain ⟨a0, a1, a2, a3⟩ := wkC_at hx
    have at_ : ∀ (j : Nat) (u : Value), j < n * 4 → (l.flatMap wkC)[j]? = some u → cur[j]? = some u := fun j u hj hu => by
      rw [← ht, List.getElem?_take, if_pos hj] at hu
      simpa using hu
    exact ⟨at_ _ _ (by omega) a0, at_ _ _ (by omega) a1, at_ _ _ (by omega) a2, at_ _ _ (by omega) a3⟩
/-- The first q as Top. -/
def tpq (l : List Wk) (q : Nat) : List Wk := tops (l.take q) ++ l.drop q
theorem tpq_len (l : List Wk) (q : Nat) : (tpq l q).length = l.length := by
  unfold tpq tops; rw [List.length_append, List.length_map, List.length_take, List.length_drop]; omega
theorem tpq_zero (l : List Wk) : tpq l 0 = l := by unfold tpq; simp [tops]
theorem tpq_all (l : List Wk) : tpq l l.length = tops l := by unfold tpq; simp
theorem tpq_at {l : List Wk} {q : Nat} {x : Wk} (hx : l[q]? = some x) : (tpq l q)[q]? = some x := by
  have hq := (List.getElem?_eq_some_iff.1 hx).1
  unfold tpq tops
  rw [List.getElem?_append_right (by rw [List.length_map, List.length_take]; omega), List.length_map, List.length_take, List.getElem?_drop, show q + (q - min q l.length) = q by omega]
  exact hx
theorem tpq_set {l : List Wk} {q : Nat} {x : Wk} (hx : l[q]? = some x) : (tpq l q).set q ⟨x.w, x.p, x.d, true⟩ = tpq l (q + 1) := by
  have hq := (List.getElem?_eq_some_iff.1 hx).1
  have e : l.drop q = x :: l.drop (q + 1) := by
    rw [List.drop_eq_getElem_cons hq, (List.getElem?_eq_some_iff.1 hx).2]
  unfold tpq
  rw [e, List.take_add_one, hx]
  unfold tops
  rw [List.set_append_right _ _ (by rw [List.length_map, List.length_take]; omega), List.length_map, List.length_take, show q - min q l.length = 0 by omega]
  simp
theorem tpq_fit {l : List Wk} (h : ∀ x ∈ l, inR x.w ∧ inR x.p ∧ inR x.d) (q : Nat) : ∀ x ∈ tpq l q, inR x.w ∧ inR x.p ∧ inR x.d := fun x hx => by
  unfold tpq tops at hx
  rcases List.mem_append.1 hx with hx | hx
  · obtain ⟨y, hy, rfl⟩ := List.mem_map.1 hx
    exact h y (List.mem_of_mem_take hy)
  · exact h x (List.mem_of_mem_drop hx)
end Go.Proofs.Ytfpcnilcbaiojaa.dem
