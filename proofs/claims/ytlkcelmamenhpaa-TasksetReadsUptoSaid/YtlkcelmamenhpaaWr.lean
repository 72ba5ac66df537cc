/- A system of a call's own, written over. -/
import Derived.Test.YtlkcelmamenhpaaRD
import Derived.Test.YtlkcelmamenhpaaE
namespace Go.Proofs.Ytlkcelmamenhpaa
open Go.ChangeShapes Go.WideShapes Go.ChangeAt Go.RowKit Go.Deep
/-- The first N cells of block b are there, and can be written. -/
def Lv (w : World) (b N : Nat) : Prop := ∃ cur e, Blk w b cur e ∧ N ≤ cur.size
theorem Lv.cell {w : World} {b N o : Nat} (h : Lv w b N) (ho : o < N) : (∃ u, w.cell? ⟨b, o, none⟩ = some u) ∧ w.frozen? ⟨b, o, none⟩ = false := by
  obtain ⟨cur, e, hb, hn⟩ := h
  exact ⟨⟨cur[o]'(by omega), hb.cell (Array.getElem?_eq_getElem (by omega))⟩, hb.frozen o⟩
theorem Lv.set {w : World} {b N a o : Nat} (h : Lv w b N) (v : Value) : Lv (w.setCell ⟨a, o, none⟩ v) b N := by
  obtain ⟨cur, e, hb, hn⟩ := h
  by_cases hab : b = a
  · subst hab
    exact ⟨_, e, hb.set o v, by simpa using hn⟩
  · exact ⟨cur, e, hb.other hab v, hn⟩
theorem Lv.but {S : Nat → Prop} {w w' : World} {b N : Nat} (h : Lv w b N) (hb : But S w w') (hs : ¬ S b) : Lv w' b N := by
  obtain ⟨cur, e, h1, hn⟩ := h
  exact ⟨cur, e, h1.but hb hs, hn⟩
theorem owns_lv {w : World} {e : TypeId} {size n c : Nat} {A : Option Addr} {xs : List Value} (h : w.ownsRow 0 e size (.slice A n c) n xs) (hn : 0 < n) : ∃ g, A = some ⟨g, 0, none⟩ ∧ (Value.slice A n c).ownBlock = some g ∧ Lv w g (n * size) := by
  rcases h.2 with ⟨e1, h0⟩ | ⟨g, cap, cur, hv, _, hh, hc, _, hs, _⟩
  · omega
  · cases hv
    exact ⟨g, rfl, rfl, cur, e, hh, by rw [hs]; exact Nat.mul_le_mul_right _ hc⟩
/-- A system in the box b whose tasks from i on are as they were. -/
structure Wr (N : Nat) (w : World) (b : Nat) (A : Option Addr) (n c : Nat) (L : List (Tsk × Value)) (i : Nat) : Prop where
  box : w.cell? ⟨b, 8, none⟩ = some (.slice A n c)
  len : L.length = n
  cap : n ≤ c
  at_ : 0 < n → ∃ g o, A = some ⟨g, o, none⟩ ∧ N ≤ g ∧ g ≠ b ∧ Lv w g (o + n * 4) ∧ ∀ j x, i ≤ j → L[j]? = some x → w.cell? ⟨g, o + j * 4 + 3, none⟩ = some x.2 ∧ ∃ A' m c', x.2 = .slice A' m c' ∧ m ≤ c' ∧ m ≤ 4 ∧ (0 < m → ∃ g' o', A' = some ⟨g', o', none⟩ ∧ N ≤ g' ∧ g' ≠ g ∧ g' ≠ b ∧ Lv w g' (o' + m * 3))
theorem Wr.more {N : Nat} {w : World} {b n c i : Nat} {A : Option Addr} {L : List (Tsk × Value)} (h : Wr N w b A n c L i) : Wr N w b A n c L (i + 1) :=
  ⟨h.box, h.len, h.cap, fun hn => by
    obtain ⟨g, o, h1, h2, h3, h4, h5⟩ := h.at_ hn
    exact ⟨g, o, h1, h2, h3, h4, fun j x hj hx => h5 j x (by omega) hx⟩⟩
theorem cell_set_ne {w : World} {a b o p : Nat} {v u : Value} (h : w.cell? ⟨b, p, none⟩ = some u) (hne : b ≠ a ∨ p ≠ o) : (w.setCell ⟨a, o, none⟩ v).cell? ⟨b, p, none⟩ = some u := by
  rw [World.cell?_setCell_other w _ _ _ (fun e => by cases e; rcases hne with h | h <;> exact h rfl)]
  exact h
/-- A store into a task's sections. -/
theorem Wr.sec {N : Nat} {w : World} {b n c i : Nat} {A : Option Addr} {L : List (Tsk × Value)} (h : Wr N w b A n c L i) {g' p : Nat} (hb : g' ≠ b) (hg : ∀ g o, A = some ⟨g, o, none⟩ → g' ≠ g) (v : Value) : Wr N (w.setCell ⟨g', p, none⟩ v) b A n c L i :=
  ⟨cell_set_ne h.box (.inl hb.symm), h.len, h.cap, fun hn => by
    obtain ⟨g, o, h1, h2, h3, h4, h5⟩ := h.at_ hn
    refine ⟨g, o, h1, h2, h3, h4.set v, fun j x hj hx => ?_⟩
    obtain ⟨k1, A', m, c', k2, k3, k3b, k4⟩ := h5 j x hj hx
    refine ⟨cell_set_ne k1 (.inl (hg g o h1).symm), A', m, c', k2, k3, k3b, fun hm => ?_⟩
    obtain ⟨g2, o2, q1, q2, q3, q4, q5⟩ := k4 hm
    exact ⟨g2, o2, q1, q2, q3, q4, q5.set v⟩⟩
/-- A store into a task ahead of i. -/
theorem Wr.tsk {N : Nat} {w : World} {b n c i : Nat} {L : List (Tsk × Value)} {g o p : Nat} (h : Wr N w b (some ⟨g, o, none⟩) n c L i) (hb : g ≠ b) (hp : p < o + i * 4) (v : Value) : Wr N (w.setCell ⟨g, p, none⟩ v) b (some ⟨g, o, none⟩) n c L i :=
  ⟨cell_set_ne h.box (.inl hb.symm), h.len, h.cap, fun hn => by
    obtain ⟨g1, o1, h1, h2, h3, h4, h5⟩ := h.at_ hn
    cases h1
    refine ⟨g, o, rfl, h2, h3, h4.set v, fun j x hj hx => ?_⟩
    obtain ⟨k1, A', m, c', k2, k3, k3b, k4⟩ := h5 j x hj hx
    refine ⟨cell_set_ne k1 (.inr (by omega)), A', m, c', k2, k3, k3b, fun hm => ?_⟩
    obtain ⟨g2, o2, q1, q2, q3, q4, q5⟩ := k4 hm
    exact ⟨g2, o2, q1, q2, q3, q4, q5.set v⟩⟩
/-- What Decode gave, in a box that was made behind it. -/
theorem Wr.start {w0 w1 w : World} {A : Option Addr} {n c b : Nat} {L : List (Tsk × Value)} (h : Ot w0 w1 (.slice A n c) L) (hl : L.length = n) (h4 : ∀ x ∈ L, x.1.secs.length ≤ 4) (hb : w1.heap.size ≤ b) (hw : But No w1 w) (hbox : w.cell? ⟨b, 8, none⟩ = some (.slice A n c)) : Wr w0.heap.size w b A n c L 0 := by
  have hr := h.row hl
  refine ⟨hbox, hl, owns_cap hr, fun hn => ?_⟩
  obtain ⟨g, e, hg, hlv⟩ := owns_lv hr hn
  refine ⟨g, 0, e, h.new g hg, by have := (hr.lt g hg).2; omega, by rw [Nat.zero_add]; exact hlv.but hw (fun f => f), fun j x _ hx => ?_⟩
  subst e
  obtain ⟨g1, e1, hl1, _, hc⟩ := own_cells hr hn
  cases e1
  have hm : x ∈ L := List.mem_of_getElem? hx
  obtain ⟨q1, q2⟩ := h.secs x hm
  obtain ⟨A', c', hv⟩ := q1.slice
  have e3 := flat_at (f := tvC) (m := 4) (fun _ => rfl) hx (i := 3) (by omega)
  have hcell := hc _ _ e3
  rw [Nat.zero_add]
  refine ⟨cell_keep hcell hw, A', x.1.secs.length, c', hv, ?_, h4 x hm, fun hm0 => ?_⟩
  · rw [hv] at q1; exact owns_cap q1.own
  · rw [hv] at q1 q2
    obtain ⟨g2, e2, hg2, hlv2⟩ := owns_lv q1.own hm0
    refine ⟨g2, 0, e2, q1.new g2 hg2, fun e => ?_, by have := q1.lt g2 hg2; omega, by rw [Nat.zero_add]; exact hlv2.but hw (fun f => f)⟩
    subst e
    exact q2 g2 hg2 hg
end Go.Proofs.Ytlkcelmamenhpaa
