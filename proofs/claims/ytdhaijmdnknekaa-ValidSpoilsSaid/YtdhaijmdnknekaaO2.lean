/- A list of tasks of the law's own that is written over; a System beside it; what the spoils of ValidSpoils do. -/
import Derived.Test.YtdhaijmdnknekaaValidOrderW
import Derived.Test.YtdhaijmdnknekaaValidSumsW
namespace Go.Proofs.Ytdhaijmdnknekaa
open Go.ChangeShapes Go.WideShapes Go.ChangeAt Go.RowKit Go.Deep
theorem flat_set {x x' : Tsk × Value} {r : Nat} {v : Value} (hr : r < 4) (hx' : tvC x' = (tvC x).set r v) : ∀ (L : List (Tsk × Value)) (i : Nat), L[i]? = some x → (L.flatMap tvC).set (i * 4 + r) v = (L.set i x').flatMap tvC
  | [], i, h => by simp at h
  | y :: t, 0, h => by
    have : y = x := by simpa using h
    subst this
    rw [List.flatMap_cons, List.set_cons_zero, List.flatMap_cons, hx', Nat.zero_mul, Nat.zero_add, List.set_append, if_pos (by show r < 4; exact hr)]
  | y :: t, i + 1, h => by
    have h' : t[i]? = some x := by simpa using h
    rw [List.flatMap_cons, List.set_cons_succ, List.flatMap_cons, ← flat_set hr hx' t i h', List.set_append, if_neg (by show ¬ (i + 1) * 4 + r < 4; omega)]
    rw [show (i + 1) * 4 + r - (tvC y).length = i * 4 + r by show (i + 1) * 4 + r - 4 = _; omega]
theorem Og.set {w0 w : World} {g n c i r : Nat} {L : List (Tsk × Value)} {x x' : Tsk × Value} {v : Value} (h : Og w0 w (.slice (some ⟨g, 0, none⟩) n c) n L) (hx : L[i]? = some x) (hr : r < 4) (hx' : tvC x' = (tvC x).set r v) : Og w0 (w.setCell ⟨g, i * 4 + r, none⟩ v) (.slice (some ⟨g, 0, none⟩) n c) n (L.set i x') := by
  obtain ⟨⟨h1, h2⟩, h3⟩ := h
  refine ⟨⟨?_, ?_⟩, h3⟩
  · rw [flat_len, List.length_set, ← flat_len]; exact h1
  · rcases h2 with ⟨e, _⟩ | ⟨g', cap, cur, hv, hg, hh, hc, hm, hs, ht⟩
    · cases e
    · cases hv
      refine .inr ⟨g, c, cur.setIfInBounds (i * 4 + r) v, rfl, hg, Blk.set hh _ v, hc, hm, by rw [Array.size_setIfInBounds]; exact hs, ?_⟩
      rw [Array.toList_setIfInBounds, List.take_set, ht]
      exact flat_set hr hx' L i hx
theorem Og.blk {w0 w : World} {g n c : Nat} {L : List (Tsk × Value)} (h : Og w0 w (.slice (some ⟨g, 0, none⟩) n c) n L) : g < w.heap.size ∧ w0.heap.size ≤ g ∧ n ≤ c ∧ ∀ o, w.frozen? ⟨g, o, none⟩ = false := by
  have hn := h.new g rfl
  rcases h.own.2 with ⟨e, _⟩ | ⟨g', cap, cur, hv, hg, hh, hc, hm, hs, ht⟩
  · cases e
  · cases hv
    exact ⟨Blk.lt hh, hn, hc, fun o => Blk.frozen hh o⟩
/-- A task with one section of the law's own. -/
def Nw (W : World) (g b5 : Nat) (x : Tsk × Value) : Prop := (∃ gs a b c, x.2 = .slice (some ⟨gs, 0, none⟩) 1 1 ∧ x.1.secs = [(a, b, c)] ∧ Blk W gs #[.int .i64 a, .int .i64 b, .int .i64 c] 37 ∧ gs ≠ g ∧ gs ≠ b5 ∧ inR a ∧ inR b ∧ inR c) ∧ inR x.1.p ∧ inR x.1.d ∧ inR x.1.w
theorem Nw.but {W W' : World} {g b5 : Nat} {x : Tsk × Value} {S : Nat → Prop} (h : Nw W g b5 x) (hb : But S W W') (hs : ∀ k, S k → k = g ∨ k = b5) : Nw W' g b5 x := by
  obtain ⟨⟨gs, a, b, c, h1, h2, h3, h4, h5, h6⟩, h7⟩ := h
  exact ⟨⟨gs, a, b, c, h1, h2, h3.but hb (fun f => by rcases hs _ f with e | e; exact h4 e; exact h5 e), h4, h5, h6⟩, h7⟩
theorem Nw.tv {W : World} {g b5 : Nat} {x : Tsk × Value} (h : Nw W g b5 x) : Tv W x := by
  obtain ⟨⟨gs, a, b, c, h1, h2, h3, h4, h5, h6, h7, h8⟩, h9⟩ := h
  refine ⟨⟨_, 1, by rw [h2]; exact h1, by rw [h2]; exact Nat.le_refl _, ?_⟩, h9⟩
  rw [h2]
  refine ⟨rfl, by simp, fun _ => ⟨gs, 0, rfl, h3.lt, fun k y hy => ?_⟩, fun y hy => ?_⟩
  · cases k with
    | zero => cases hy; exact ⟨h3.cell rfl, h3.cell rfl, h3.cell rfl⟩
    | succ k => simp at hy
  · cases hy with
    | head => exact ⟨h6, h7, h8⟩
    | tail _ f => cases f
theorem Tv.bare {w : World} {t : Tsk} (h : inR t.p ∧ inR t.d ∧ inR t.w) (hs : t.secs = []) : Tv w (t, .slice none 0 0) := by
  refine ⟨⟨none, 0, by rw [hs]; rfl, by rw [hs]; exact Nat.le_refl _, ?_⟩, h⟩
  rw [hs]
  exact ⟨rfl, by simp, fun f => absurd f (by simp), fun y hy => by cases hy⟩
/-- A System that the law makes: its box at b5, its tasks at g; another box at b3. -/
structure Bare (w W : World) (b3 b5 g n c : Nat) (X : Array Value) (sb : Sys) (L : List (Tsk × Value)) : Prop where
  but : But No w W
  bx : Blk W b3 X 24
  bb : Blk W b5 (boxS sb (some ⟨g, 0, none⟩) n c) 24
  og : Og w W (.slice (some ⟨g, 0, none⟩) n c) n L
  tv : ∀ x ∈ L, Tv w x ∨ Nw W g b5 x
  len : L.length = n
  max : n ≤ 24
  ne : b3 ≠ b5 ∧ b3 ≠ g ∧ b5 ≠ g ∧ w.heap.size ≤ b3 ∧ w.heap.size ≤ b5 ∧ w.heap.size ≤ g
  fit : inR sb.co ∧ inR sb.po ∧ inR sb.pr ∧ inR sb.re ∧ inR sb.sw ∧ inR sb.fi ∧ inR sb.la ∧ inR sb.rs
section
variable {w W W' : World} {b3 b5 g n c : Nat} {X : Array Value} {sb : Sys} {L : List (Tsk × Value)}
theorem Bare.step (h : Bare w W b3 b5 g n c X sb L) (hb : But No W W') : Bare w W' b3 b5 g n c X sb L :=
  ⟨h.but.trans hb, h.bx.but hb (fun f => f), h.bb.but hb (fun f => f), h.og.but hb (fun _ _ f => f), fun x hx => (h.tv x hx).imp id (fun f => f.but hb (fun _ f => f.elim)), h.len, h.max, h.ne, h.fit⟩
theorem Bare.rtsk (h : Bare w W b3 b5 g n c X sb L) : RTsk W (some ⟨g, 0, none⟩) n (L.map (·.1)) :=
  reads_rtsk (Reads.of_own h.og.own) h.len (by have := h.max; omega) (fun x hx => (h.tv x hx).elim (fun f => f.no h.but) (fun f => f.tv))
theorem Bare.rsys (h : Bare w W b3 b5 g n c X sb L) : RSys W (some ⟨g, 0, none⟩) n c { sb with ts := L.map (·.1) } := ⟨h.og.blk.2.2.1, h.rtsk, h.fit⟩
/-- A number of a task, or its sections, are written. -/
theorem Bare.setT (h : Bare w W b3 b5 g n c X sb L) {i r : Nat} {x x' : Tsk × Value} {v : Value} (hx : L[i]? = some x) (hr : r < 4) (hx' : tvC x' = (tvC x).set r v) (ht : Tv w x' ∨ Nw W g b5 x') : Bare w (W.setCell ⟨g, i * 4 + r, none⟩ v) b3 b5 g n c X sb (L.set i x') := by
  have hj : But (Just g) W (W.setCell ⟨g, i * 4 + r, none⟩ v) := (But.refl (Just g) W).setCell (p := ⟨g, i * 4 + r, none⟩) (just g) _
  obtain ⟨n1, n2, n3, n4, n5, n6⟩ := h.ne
  refine ⟨h.but.setNew n6 _, h.bx.but hj (fun e => n2 e), h.bb.but hj (fun e => n3 e), h.og.set hx hr hx', fun y hy => ?_, by rw [List.length_set]; exact h.len, h.max, h.ne, h.fit⟩
  rcases List.mem_or_eq_of_mem_set hy with hy | rfl
  · exact (h.tv y hy).imp id (fun f => f.but hj (fun k e => .inl e))
  · exact ht.imp id (fun f => f.but hj (fun k e => .inl e))
/-- A number of the System is written. -/
theorem Bare.setS (h : Bare w W b3 b5 g n c X sb L) {o : Nat} {v : Value} {sb' : Sys} (hb : (boxS sb (some ⟨g, 0, none⟩) n c).setIfInBounds o v = boxS sb' (some ⟨g, 0, none⟩) n c) (hf : inR sb'.co ∧ inR sb'.po ∧ inR sb'.pr ∧ inR sb'.re ∧ inR sb'.sw ∧ inR sb'.fi ∧ inR sb'.la ∧ inR sb'.rs) : Bare w (W.setCell ⟨b5, o, none⟩ v) b3 b5 g n c X sb' L := by
  have hj : But (Just b5) W (W.setCell ⟨b5, o, none⟩ v) := (But.refl (Just b5) W).setCell (p := ⟨b5, o, none⟩) (just b5) _
  obtain ⟨n1, n2, n3, n4, n5, n6⟩ := h.ne
  refine ⟨h.but.setNew n5 _, h.bx.but hj (fun e => n1 e), by rw [← hb]; exact h.bb.set o v, h.og.but hj (fun j e f => by cases e; exact n3 f.symm), fun y hy => (h.tv y hy).imp id (fun f => f.but hj (fun k e => .inr e)), h.len, h.max, h.ne, hf⟩
/-- What lies there: a task, and what may be written. -/
theorem Bare.cells (h : Bare w W b3 b5 g n c X sb L) {i : Nat} {x : Tsk × Value} (hx : L[i]? = some x) : W.cell? ⟨g, i * 4, none⟩ = some (.int .i64 x.1.p) ∧ W.cell? ⟨g, i * 4 + 1, none⟩ = some (.int .i64 x.1.d) ∧ W.cell? ⟨g, i * 4 + 2, none⟩ = some (.int .i64 x.1.w) ∧ W.cell? ⟨g, i * 4 + 3, none⟩ = some x.2 := by
  obtain ⟨b, off, e, _, c0, c1, c2, c3⟩ := (Reads.of_own h.og.own).at4 h.len hx
  cases e
  rw [Nat.zero_add] at c0 c1 c2 c3
  exact ⟨c0, c1, c2, c3⟩
end
theorem right_bad {s : Sys} {t : Tsk} (ht : t ∈ s.ts) (h : vTsk s.rs t = false) : right s = false := by
  cases hr : right s with
  | false => rfl
  | true => rw [(right_parts hr).2 t ht] at h; cases h
theorem vTsk_bare {rs : Int} {t : Tsk} (h : vTsk rs t = true) : vTsk rs { t with secs := [] } = true := by
  have h1 := (vTsk_parts h).1
  unfold vTsk
  have h2 := head_parts h1
  have : vHead { t with secs := [] } = true := by
    unfold vHead
    simp only [Bool.and_eq_true, wi_true, decide_eq_true_eq]
    exact ⟨h2.1, h2.2.1, h2.2.2.1, by simp⟩
  rw [this]; rfl
theorem right_bare {s : Sys} (h : right s = true) {i : Nat} {t : Tsk} (hi : s.ts[i]? = some t) : right { s with ts := s.ts.set i { t with secs := [] } } = true := by
  obtain ⟨h1, h2⟩ := right_parts h
  refine right_of ?_ (fun u hu => ?_)
  · rw [vWhole_with s _ (by rw [List.length_set])]; exact h1
  · rcases List.mem_or_eq_of_mem_set hu with hu | rfl
    · exact h2 u hu
    · exact vTsk_bare (h2 t (List.mem_of_getElem? hi))
theorem head_bad {rs : Int} {t : Tsk} (h : t.w < 1 ∨ t.d < t.w ∨ t.p < t.d) : vTsk rs t = false := by
  cases hv : vTsk rs t with
  | false => rfl
  | true =>
    have := head_parts (vTsk_parts hv).1
    omega
theorem sec_bad {rs : Int} {t : Tsk} {a b c : Int} (hs : t.secs = [(a, b, c)]) (h : rs ≤ b ∨ t.w < a + c) : vTsk rs t = false := by
  cases hv : vTsk rs t with
  | false => rfl
  | true =>
    have h1 := (vTsk_parts hv).2 0 (a, b, c) (by rw [hs]; rfl)
    have := sec_parts h1
    simp only at this
    omega
theorem whole_bad {s : Sys} (h : s.co < 1 ∨ s.la < 1 ∨ s.po < 1) : right s = false := by
  cases hr : right s with
  | false => rfl
  | true =>
    have h1 := (right_parts hr).1
    unfold vWhole at h1
    simp only [Bool.and_eq_true, wi_true] at h1
    omega
end Go.Proofs.Ytdhaijmdnknekaa
