/- The document's own mailboxes: Take. -/
import Derived.Test.YtmfjlfemeihchaaR2
import Derived.Deep.DeepCutAuto
namespace Go.Proofs.Ytmfjlfemeihchaa
open Go.ChangeShapes Go.WideShapes Go.ChangeAt Go.RowKit Go.Deep
def mt (c now : Int) (y : Nt) : Prop := y.core = c ∧ y.due ≤ now
theorem lf_snoc_in {c now : Int} {L : List Nt} {y : Nt} (h : mt c now y) : lf c now (L ++ [y]) = lf c now L := by
  unfold lf; rw [List.filter_append]; simp [show y.core = c ∧ y.due ≤ now from h]
theorem lf_snoc_out {c now : Int} {L : List Nt} {y : Nt} (h : ¬ mt c now y) : lf c now (L ++ [y]) = lf c now L ++ [y] := by
  unfold lf; rw [List.filter_append]
  have : decide (y.core = c ∧ y.due ≤ now) = false := by rw [decide_eq_false_iff_not]; exact h
  simp only [List.filter_cons, this, Bool.not_false, if_true, List.filter_nil]
theorem tk_place {c now : Int} {L : List Nt} {j k : Nat} (up : L.Pairwise (fun a b => a.turn < b.turn)) (hj : j < L.length) {y : Nt} (hy : L.getD j nt0 = y) (hm : mt c now y) (hk : k ≤ (tk c now (L.take j)).length)
    (h1 : ∀ i, k ≤ i → i < (tk c now (L.take j)).length → y.due < ((tk c now (L.take j)).getD i nt0).due) (h2 : 0 < k → ¬ y.due < ((tk c now (L.take j)).getD (k - 1) nt0).due) :
    (tk c now (L.take j)).take k ++ y :: (tk c now (L.take j)).drop k = tk c now (L.take (j + 1)) := by
  have hp : (L.take j).Pairwise (fun a b => a.turn < b.turn) := up.sublist (List.take_sublist _ _)
  obtain ⟨s1, s2⟩ := tk_inv c now (L.take j) hp
  have hup : (L.take (j + 1)).Pairwise (fun a b => a.turn < b.turn) := up.sublist (List.take_sublist _ _)
  rw [take_snocN hj, hy] at hup
  have hlt : ∀ a ∈ tk c now (L.take j), a.turn < y.turn := fun a ha => (List.pairwise_append.1 hup).2.2 a ((s2 a).1 ha).1 y (by simp)
  unfold mt at hm
  rw [take_snocN hj, hy, tk_snoc, if_pos hm]
  refine ins_place s1 hk (fun i hi hl => (ahB_iff _ _).2 (.inl (h1 i hi hl))) (fun hp hb => ?_)
  have := hlt _ (getD_mem (K := tk c now (L.take j)) (k := k - 1) (by omega))
  rcases (ahB_iff _ _).1 hb with e | e
  · exact h2 hp e
  · omega
theorem tk_skip {c now : Int} {L : List Nt} {j : Nat} (hj : j < L.length) {y : Nt} (hy : L.getD j nt0 = y) (hm : ¬ mt c now y) : tk c now (L.take (j + 1)) = tk c now (L.take j) := by
  unfold mt at hm
  rw [take_snocN hj, hy, tk_snoc, if_neg hm]
theorem own_cases {v v' : Value} {N : Nat} (h : v'.ownBlock = v.ownBlock ∨ v'.ownBlock = some N) : ∀ q, v'.ownBlock = some q → v.ownBlock = some q ∨ q = N := fun q e => by
  rcases h with h | h
  · exact .inl (h ▸ e)
  · rw [h] at e; exact .inr (by simpa using e.symm)
/-- The two new slices. -/
structure Tw (w wx : World) (va vb : Value) (A B : List Nt) : Prop where
  oa : OvR wx va A
  ob : OvR wx vb B
  but : But No w wx
  na : ∀ q, va.ownBlock = some q → w.heap.size ≤ q
  nb : ∀ q, vb.ownBlock = some q → w.heap.size ≤ q
  d : ∀ q, va.ownBlock = some q → vb.ownBlock ≠ some q
theorem Tw.no {w wx wy : World} {va vb : Value} {A B : List Nt} (h : Tw w wx va vb A B) (hb : But No wx wy) : Tw w wy va vb A B := ⟨h.oa.no hb, h.ob.no hb, h.but.trans hb, h.na, h.nb, h.d⟩
theorem Tw.app {w wx wy w3 : World} {va vb v3 : Value} {A B B' : List Nt} (h : Tw w wx va vb A B) (hbd : But No wx wy) (ho : OvR w3 v3 B') (hg : wy.grownBy w3 vb.ownBlock) (hat : v3.ownBlock = vb.ownBlock ∨ v3.ownBlock = some wy.heap.size) : Tw w w3 va v3 A B' := by
  have la := h.oa.lt
  have b3 : But (fun k => vb.ownBlock = some k) wx w3 := hbd.no.grown hg (fun k e => .inl e)
  have s1 := h.but.size
  have s2 := hbd.size
  have hv := own_cases hat
  refine ⟨h.oa.but b3 (fun k e e' => h.d k e e'), ho, h.but.andThen b3 (fun k e => .inr (h.nb k e)), h.na, fun q e => ?_, fun q e e' => ?_⟩
  · rcases hv q e with e1 | e1
    · exact h.nb q e1
    · omega
  · rcases hv q e' with e1 | e1
    · exact h.d q e e1
    · have := la q e; omega
/-- .. and the one that is being laid. -/
structure Th (w wx : World) (va vb vl : Value) (A B M : List Nt) : Prop where
  t : Tw w wx va vb A B
  ol : OvR wx vl M
  nl : ∀ q, vl.ownBlock = some q → w.heap.size ≤ q
  da : ∀ q, vl.ownBlock = some q → va.ownBlock ≠ some q
  db : ∀ q, vl.ownBlock = some q → vb.ownBlock ≠ some q
theorem Tw.start {w wx : World} {va vb : Value} {A B : List Nt} (h : Tw w wx va vb A B) : Th w wx va vb (.slice none 0 0) A B [] :=
  ⟨h, Ov3.nil _, own_none, by simp [Value.ownBlock], by simp [Value.ownBlock]⟩
theorem Th.app {w wx wy w3 : World} {va vb vl v3 : Value} {A B M M' : List Nt} (h : Th w wx va vb vl A B M) (hbd : But No wx wy) (ho : OvR w3 v3 M') (hg : wy.grownBy w3 vl.ownBlock) (hat : v3.ownBlock = vl.ownBlock ∨ v3.ownBlock = some wy.heap.size) : Th w w3 va vb v3 A B M' := by
  have la := h.t.oa.lt
  have lb := h.t.ob.lt
  have b3 : But (fun k => vl.ownBlock = some k) wx w3 := hbd.no.grown hg (fun k e => .inl e)
  have s1 := h.t.but.size
  have s2 := hbd.size
  have hv := own_cases hat
  refine ⟨⟨h.t.oa.but b3 (fun k e e' => h.da k e' e), h.t.ob.but b3 (fun k e e' => h.db k e' e), h.t.but.andThen b3 (fun k e => .inr (h.nl k e)), h.t.na, h.t.nb, h.t.d⟩, ho, fun q e => ?_, fun q e e' => ?_, fun q e e' => ?_⟩
  · rcases hv q e with e1 | e1
    · exact h.nl q e1
    · omega
  · rcases hv q e with e1 | e1
    · exact h.da q e1 e'
    · have := la q e'; omega
  · rcases hv q e with e1 | e1
    · exact h.db q e1 e'
    · have := lb q e'; omega
theorem Th.done {w wx : World} {va vb vl : Value} {A B M : List Nt} (h : Th w wx va vb vl A B M) : Tw w wx vl vb M B := ⟨h.ol, h.t.ob, h.t.but, h.nl, h.t.nb, h.db⟩
/-- Behind the store: the mailboxes, what is taken, what is told of it. -/
structure Ft (w wx : World) (S S' : Nat → Prop) (x : Nat) (C : Int) (L' K : List Nt) (va vt : Value) (zs : List Int) : Prop where
  rf : RF wx S' x C L'
  oa : OvR wx va K
  t : Ov wx vt zs
  but : But S w wx
  sub : ∀ k, S' k → S k ∨ w.heap.size ≤ k
  da : ∀ q, va.ownBlock = some q → ¬ S' q
  dt : ∀ q, vt.ownBlock = some q → ¬ S' q
  d : ∀ q, va.ownBlock = some q → vt.ownBlock ≠ some q
  nt : ∀ q, vt.ownBlock = some q → w.heap.size ≤ q
theorem Ft.app {w wx w3 : World} {S S' : Nat → Prop} {x : Nat} {C : Int} {L' K : List Nt} {va vt v3 : Value} {zs : List Int} {a : Int} {n : Nat} (h : Ft w wx S S' x C L' K va vt zs) (hn : zs.length = n)
    (ho : w3.ownsRow 0 3 1 v3 (n + 1) (zs.map (Value.int .i64) ++ [.int .i64 a])) (hg : (wx.alloc (.cells #[.int .i64 a] 3)).grownBy w3 vt.ownBlock) (hat : v3.ownBlock = vt.ownBlock ∨ v3.ownBlock = some (wx.alloc (.cells #[.int .i64 a] 3)).heap.size) :
    Ft w w3 S S' x C L' K va v3 (zs ++ [a]) := by
  have la := h.oa.lt
  have lS := h.rf.lt
  have b3 : But (fun k => vt.ownBlock = some k) wx w3 := ((But.refl _ wx).alloc _).grown hg (fun k e => .inl e)
  have s1 := h.but.size
  rw [size_alloc1] at hat
  have hv := own_cases hat
  refine ⟨h.rf.but b3 (fun k hk e => h.dt k e hk), h.oa.but b3 (fun k e e' => h.d k e e'), ?_, h.but.andThen b3 (fun k e => .inr (h.nt k e)), h.sub, h.da, fun q e hs => ?_, fun q e e' => ?_, fun q e => ?_⟩
  · unfold Ov; rw [List.length_append, List.map_append, hn]; exact ho
  · rcases hv q e with e1 | e1
    · exact h.dt q e1 hs
    · have := lS q hs; omega
  · rcases hv q e' with e1 | e1
    · exact h.d q e e1
    · have := la q e; omega
  · rcases hv q e with e1 | e1
    · exact h.nt q e1
    · omega
theorem Tw.store {w wx : World} {S : Nat → Prop} {x : Nat} {C : Int} {L A B : List Nt} {va vb : Value} (h : RF w S x C L) (t : Tw w wx va vb A B) :
    (∃ S', Ft w (wx.setCell ⟨x, 1, none⟩ vb) S S' x C B A va (.slice none 0 0) []) ∧ wx.frozen? ⟨x, 1, none⟩ = false ∧ ∃ v, wx.cell? ⟨x, 1, none⟩ = some v := by
  obtain ⟨v0, h1, h2, h3, h4⟩ := h.ex
  have hxl := h1.lt
  have hx3 := h1.but t.but (fun f => f)
  have hb : But (Just x) wx (wx.setCell ⟨x, 1, none⟩ vb) := (But.refl _ wx).setCell (p := ⟨x, 1, none⟩) (just x) _
  have nxa : va.ownBlock ≠ some x := fun e => by have := t.na x e; omega
  have nxb : vb.ownBlock ≠ some x := fun e => by have := t.nb x e; omega
  have s1 := t.but.size
  have s2 := hb.size
  refine ⟨⟨fun k => k = x ∨ vb.ownBlock = some k, ⟨⟨vb, hx3.set 1 _, t.ob.but hb (fun k e e' => nxb (e' ▸ e)), nxb, fun k hk => hk⟩, ?_⟩, t.oa.but hb (fun k e e' => nxa (e' ▸ e)), Ov.nil _, t.but.no.setCell (p := ⟨x, 1, none⟩) (h4 x (.inl rfl)) _, ?_, ?_, by simp [Value.ownBlock], by simp [Value.ownBlock], own_none⟩, hx3.frozen 1, _, hx3.cell (o := 1) rfl⟩
  · rintro k (rfl | e)
    · omega
    · have := t.ob.lt k e; omega
  · rintro k (rfl | e)
    · exact .inl (h4 k (.inl rfl))
    · exact .inr (t.nb k e)
  · rintro k e (rfl | e')
    · exact nxa e
    · exact t.d k e e'
/-- What a call of Take leaves: a slice, and the mailboxes, apart. -/
def RtEnd (w : World) (S : Nat → Prop) (x : Nat) (C : Int) (zs : List Int) (L' : List Nt) (v : Value) (w' : World) : Prop :=
  ∃ S', Ov w' v zs ∧ RF w' S' x C L' ∧ But S w w' ∧ (∀ k, S' k → S k ∨ w.heap.size ≤ k) ∧ ∀ k, v.ownBlock = some k → w.heap.size ≤ k ∧ ¬ S' k
theorem Ft.end_ {w wx : World} {S S' : Nat → Prop} {x : Nat} {C : Int} {L' K : List Nt} {va vt : Value} {zs : List Int} (h : Ft w wx S S' x C L' K va vt zs) : RtEnd w S x C zs L' vt wx :=
  ⟨S', h.t, h.rf, h.but, h.sub, fun k e => ⟨h.nt k e, h.dt k e⟩⟩
end Go.Proofs.Ytmfjlfemeihchaa
