/- Two locks side by side, with a deed's block. -/
import Derived.Test.YtimkdcpghhkloaaD
namespace Go.Proofs.Ytimkdcpghhkloaa
open Go.ChangeShapes Go.WideShapes Go.ChangeAt Go.RowKit Go.Deep
open lok
/-- The first ones have what concerns resource 0 as the second ones. -/
structure RelA (u v : Nat → List Int) : Prop where
  same : v 0 = u 0
  lo : ∀ t ∈ u 0, t < 12
  hi : ∀ t ∈ u 1, 12 ≤ t
  none_ : v 1 = []
theorem RelA.nil : RelA (fun _ => []) (fun _ => []) := ⟨rfl, fun t h => absurd h (by simp), fun t h => absurd h (by simp), rfl⟩
section
variable {u v : Nat → List Int} {t : Int}
theorem RelA.want (h : RelA u v) (hu : LK 2 u) (hv : LK 2 v) (ht : t < 12) : wantV 2 v t = wantV 2 u t := by
  rcases want_cases hu t with ⟨r, h1, h2, h3⟩ | ⟨h1, h2⟩
  · have : r = 0 := by
      rcases (by omega : r = 0 ∨ r = 1) with e | e
      · exact e
      · subst e; have := h.hi t h2; omega
    subst this
    rw [h1]; exact want_in hv (by rw [h.same]; exact h2)
  · rw [h1]
    refine want_out hv fun r hr => ?_
    rcases (by omega : r = 0 ∨ r = 1 ∨ 2 ≤ r) with e | e | e
    · subst e; rw [h.same] at hr; exact h2 0 hr
    · subst e; rw [h.none_] at hr; cases hr
    · rw [hv.out r e] at hr; cases hr
theorem RelA.ask0 (h : RelA u v) (hu : LK 2 u) (hv : LK 2 v) (ht : t < 12) : askA 2 v 0 t = askA 2 u 0 t ∧ askE 2 v 0 t = askE 2 u 0 t ∧ RelA (askQ 2 u 0 t) (askQ 2 v 0 t) := by
  have e : askE 2 v 0 t = askE 2 u 0 t := by unfold askE; rw [h.want hu hv ht]
  refine ⟨?_, e, ?_⟩
  · unfold askA; rw [e]; show (if _ then ((v 0).length : Int) else 0) = if _ then ((u 0).length : Int) else 0; rw [h.same]
  · unfold askQ
    rw [e]
    split
    · refine ⟨?_, ?_, ?_, ?_⟩
      · show upd v 0 _ 0 = upd u 0 _ 0
        rw [upd_same, upd_same]; show v 0 ++ [t] = u 0 ++ [t]; rw [h.same]
      · intro a ha
        rw [show (0 : Int).toNat = 0 from rfl, upd_same] at ha
        rcases List.mem_append.1 ha with k | k
        · exact h.lo a k
        · rw [List.mem_singleton.1 k]; exact ht
      · intro a ha
        rw [show (0 : Int).toNat = 0 from rfl, upd_other _ _ (by decide)] at ha
        exact h.hi a ha
      · rw [show (0 : Int).toNat = 0 from rfl, upd_other _ _ (by decide)]; exact h.none_
    · exact h
theorem RelA.ask1 (h : RelA u v) (ht : 12 ≤ t) : RelA (askQ 2 u 1 t) v := by
  unfold askQ
  split
  · rw [show (1 : Int).toNat = 1 from rfl]
    refine ⟨?_, ?_, ?_, h.none_⟩
    · rw [upd_other _ _ (by decide)]; exact h.same
    · intro a ha; rw [upd_other _ _ (by decide)] at ha; exact h.lo a ha
    · intro a ha
      rw [upd_same] at ha
      rcases List.mem_append.1 ha with k | k
      · exact h.hi a k
      · rw [List.mem_singleton.1 k]; exact ht
  · exact h
theorem RelA.has (h : RelA u v) (hu : LK 2 u) (hv : LK 2 v) (ht : t < 12) : hasV 2 v t = hasV 2 u t := by
  unfold hasV
  rw [h.want hu hv ht]
  rcases want_cases hu t with ⟨r, h1, h2, h3⟩ | ⟨h1, h2⟩
  · have : r = 0 := by
      rcases (by omega : r = 0 ∨ r = 1) with e | e
      · exact e
      · subst e; have := h.hi t h2; omega
    subst this
    rw [h1]; unfold holdV; rw [qi_nat h3, qi_nat h3, h.same]
  · rw [h1]; rfl
theorem RelA.fre0 (h : RelA u v) (hu : LK 2 u) (hv : LK 2 v) (ht : t < 12) : freA 2 v t = freA 2 u t ∧ freE 2 v t = freE 2 u t ∧ RelA (freQ 2 u t) (freQ 2 v t) := by
  have e := h.has hu hv ht
  have ew := h.want hu hv ht
  rcases has_cases hu t with ⟨r, l, hr, hq, hw, hh, _⟩ | ⟨hh, _⟩
  · have : r = 0 := by
      rcases (by omega : r = 0 ∨ r = 1) with e | e
      · exact e
      · subst e; have := h.hi t (by rw [hq]; simp); omega
    subst this
    refine ⟨?_, by unfold freE; rw [e], ?_⟩
    · unfold freA; rw [e, ew, hw]; show (if _ then hd (v 0).tail else 0) = if _ then hd (u 0).tail else 0; rw [h.same]
    · unfold freQ
      rw [e, ew, hh, hw, if_pos rfl, if_pos rfl]
      show RelA (upd u 0 _) (upd v 0 _)
      refine ⟨?_, ?_, ?_, ?_⟩
      · rw [upd_same, upd_same]; show (v 0).tail = (u 0).tail; rw [h.same]
      · intro a ha; rw [upd_same] at ha; exact h.lo a (List.mem_of_mem_tail ha)
      · intro a ha; rw [upd_other _ _ (by decide)] at ha; exact h.hi a ha
      · rw [upd_other _ _ (by decide)]; exact h.none_
  · rw [hh] at e
    refine ⟨by unfold freA; rw [e, hh]; rfl, by unfold freE; rw [e, hh], ?_⟩
    unfold freQ; rw [e, hh]; exact h
theorem RelA.fre1 (h : RelA u v) (hu : LK 2 u) (ht : 12 ≤ t) : RelA (freQ 2 u t) v := by
  rcases has_cases hu t with ⟨r, l, hr, hq, hw, hh, _⟩ | ⟨hh, _⟩
  · have : r = 1 := by
      rcases (by omega : r = 0 ∨ r = 1) with e | e
      · subst e; have := h.lo t (by rw [hq]; simp); omega
      · exact e
    subst this
    unfold freQ
    rw [hh, hw, if_pos rfl]
    show RelA (upd u 1 (u 1).tail) v
    refine ⟨?_, ?_, ?_, h.none_⟩
    · rw [upd_other _ _ (by decide)]; exact h.same
    · intro a ha; rw [upd_other _ _ (by decide)] at ha; exact h.lo a ha
    · intro a ha; rw [upd_same] at ha; exact h.hi a (List.mem_of_mem_tail ha)
  · unfold freQ; rw [hh]; exact h
end
/-- Both locks in memory. -/
def Two (w0 w : World) (p1 p2 : Nat) (N : Int) (u v : Nat → List Int) (bx : Nat → Prop) : Prop :=
  But No w0 w ∧ ∃ S1 S2 : Nat → Prop, LP w S1 p1 2 N u ∧ LP w S2 p2 2 N v ∧ (∀ k, S1 k → ¬ S2 k) ∧ (∀ k, S1 k → w0.heap.size ≤ k) ∧ (∀ k, S2 k → w0.heap.size ≤ k) ∧ (∀ b, bx b → ¬ S1 b ∧ ¬ S2 b)
structure Ap (w0 w : World) (p1 p2 : Nat) (N : Int) (u v : Nat → List Int) (bx : Nat) (cur : Array Value) : Prop where
  two : Two w0 w p1 p2 N u v (Just bx)
  blk : Blk w bx cur 31
section
variable {w0 w w' : World} {p1 p2 bx : Nat} {N : Int} {u v : Nat → List Int} {cur : Array Value}
theorem Two.box (h : Two w0 w p1 p2 N u v No) (cur : Array Value) : Ap w0 (w.alloc (.cells cur 31)) p1 p2 N u v w.heap.size cur := by
  obtain ⟨hb, S1, S2, h1, h2, h3, h4, h5, _⟩ := h
  have hB : But No w (w.alloc (.cells cur 31)) := (But.refl No w).alloc _
  exact ⟨⟨hb.trans hB, S1, S2, h1.no hB, h2.no hB, h3, h4, h5, fun b e => by cases e; exact ⟨fun e => by have := h1.lt _ e; omega, fun e => by have := h2.lt _ e; omega⟩⟩, Blk.new w _ _⟩
theorem Ap.un (h : Ap w0 w p1 p2 N u v bx cur) {N' : Int} (hN : N ≤ N') : Two w0 w p1 p2 N' u v No := by
  obtain ⟨hb, S1, S2, h1, h2, h3, h4, h5, _⟩ := h.two
  exact ⟨hb, S1, S2, h1.more hN, h2.more hN, h3, h4, h5, fun _ f => f.elim⟩
theorem Ap.no (h : Ap w0 w p1 p2 N u v bx cur) (hb : But No w w') : Ap w0 w' p1 p2 N u v bx cur := by
  obtain ⟨h0, S1, S2, h1, h2, h3, h4, h5, h6⟩ := h.two
  exact ⟨⟨h0.trans hb, S1, S2, h1.no hb, h2.no hb, h3, h4, h5, h6⟩, h.blk.but hb (fun f => f)⟩
theorem Ap.oks (h : Ap w0 w p1 p2 N u v bx cur) : LK 2 u ∧ LK 2 v := by
  obtain ⟨_, S1, S2, h1, h2, _⟩ := h.two
  exact ⟨h1.ok, h2.ok⟩
theorem Ap.ask1 (h : Ap w0 w p1 p2 N u v bx cur) (res t : Int) (hN : N < 1000000) : Calls Try.prog 10 #[.pointer (some ⟨p1, 0, none⟩), .int .i64 res, .int .i64 t] w fun r w' => r = .returned (.tuple #[.int .i64 (askA 2 u res t), .int .i64 (askE 2 u res t)]) ∧ Ap w0 w' p1 p2 (N + 1) (askQ 2 u res t) v bx cur := by
  obtain ⟨h0, S1, S2, h1, h2, h3, h4, h5, h6⟩ := h.two
  refine (ask_any p1 2 N u S1 w res t h1 hN).mono fun r w' ⟨e, hm⟩ => ⟨e, ⟨h0.andThen hm.2 (fun k hk => .inr (h4 k hk)), S1, S2, hm.1, (h2.but hm.2 (fun k hk hk' => h3 k hk' hk)).more (by omega), h3, h4, h5, h6⟩, h.blk.but hm.2 (h6 bx rfl).1⟩
theorem Ap.ask2 (h : Ap w0 w p1 p2 N u v bx cur) (res t : Int) (hN : N < 1000000) : Calls Try.prog 10 #[.pointer (some ⟨p2, 0, none⟩), .int .i64 res, .int .i64 t] w fun r w' => r = .returned (.tuple #[.int .i64 (askA 2 v res t), .int .i64 (askE 2 v res t)]) ∧ Ap w0 w' p1 p2 (N + 1) u (askQ 2 v res t) bx cur := by
  obtain ⟨h0, S1, S2, h1, h2, h3, h4, h5, h6⟩ := h.two
  refine (ask_any p2 2 N v S2 w res t h2 hN).mono fun r w' ⟨e, hm⟩ => ⟨e, ⟨h0.andThen hm.2 (fun k hk => .inr (h5 k hk)), S1, S2, (h1.but hm.2 (fun k hk hk' => h3 k hk hk')).more (by omega), hm.1, h3, h4, h5, h6⟩, h.blk.but hm.2 (h6 bx rfl).2⟩
theorem Ap.fre1 (h : Ap w0 w p1 p2 N u v bx cur) (t : Int) (ht : inR t) : Calls Try.prog 12 #[.pointer (some ⟨p1, 0, none⟩), .int .i64 t] w fun r w' => r = .returned (.tuple #[.int .i64 (freA 2 u t), .int .i64 (freE 2 u t)]) ∧ Ap w0 w' p1 p2 N (freQ 2 u t) v bx cur := by
  obtain ⟨h0, S1, S2, h1, h2, h3, h4, h5, h6⟩ := h.two
  refine (free_any p1 2 N u S1 w t ht h1).mono fun r w' ⟨e, hm⟩ => ⟨e, ⟨h0.andThen hm.2 (fun k hk => .inr (h4 k hk)), S1, S2, hm.1, (h2.but hm.2 (fun k hk hk' => h3 k hk' hk)), h3, h4, h5, h6⟩, h.blk.but hm.2 (h6 bx rfl).1⟩
theorem Ap.fre2 (h : Ap w0 w p1 p2 N u v bx cur) (t : Int) (ht : inR t) : Calls Try.prog 12 #[.pointer (some ⟨p2, 0, none⟩), .int .i64 t] w fun r w' => r = .returned (.tuple #[.int .i64 (freA 2 v t), .int .i64 (freE 2 v t)]) ∧ Ap w0 w' p1 p2 N u (freQ 2 v t) bx cur := by
  obtain ⟨h0, S1, S2, h1, h2, h3, h4, h5, h6⟩ := h.two
  refine (free_any p2 2 N v S2 w t ht h2).mono fun r w' ⟨e, hm⟩ => ⟨e, ⟨h0.andThen hm.2 (fun k hk => .inr (h5 k hk)), S1, S2, (h1.but hm.2 (fun k hk hk' => h3 k hk hk')), hm.1, h3, h4, h5, h6⟩, h.blk.but hm.2 (h6 bx rfl).2⟩
theorem Ap.hold1 (h : Ap w0 w p1 p2 N u v bx cur) (r : Nat) (hr : r < 2) : Calls Try.prog 14 #[.pointer (some ⟨p1, 0, none⟩), .int .i64 r] w fun e w' => e = .returned (.int .i64 (hd (u r))) ∧ Ap w0 w' p1 p2 N u v bx cur := by
  obtain ⟨h0, S1, S2, h1, h2, h3, h4, h5, h6⟩ := h.two
  have := holder_any p1 2 N u S1 w r h1
  unfold holdV at this
  rw [qi_nat hr] at this
  exact this.mono fun _ _ ⟨e, hb⟩ => ⟨e, h.no hb⟩
theorem Ap.hold2 (h : Ap w0 w p1 p2 N u v bx cur) (r : Nat) (hr : r < 2) : Calls Try.prog 14 #[.pointer (some ⟨p2, 0, none⟩), .int .i64 r] w fun e w' => e = .returned (.int .i64 (hd (v r))) ∧ Ap w0 w' p1 p2 N u v bx cur := by
  obtain ⟨h0, S1, S2, h1, h2, h3, h4, h5, h6⟩ := h.two
  have := holder_any p2 2 N v S2 w r h2
  unfold holdV at this
  rw [qi_nat hr] at this
  exact this.mono fun _ _ ⟨e, hb⟩ => ⟨e, h.no hb⟩
theorem Ap.que1 (h : Ap w0 w p1 p2 N u v bx cur) : Calls Try.prog 20 #[.pointer (some ⟨p1, 0, none⟩), .int .i64 0] w fun e w' => ∃ b, e = .returned (.slice (some ⟨b, 0, none⟩) (u 0).length (u 0).length) ∧ Ap w0 w' p1 p2 N u v bx cur := by
  obtain ⟨h0, S1, S2, h1, h2, h3, h4, h5, h6⟩ := h.two
  exact (queue_in p1 2 N u S1 w 0 h1 (by decide)).mono fun _ _ ⟨b, e, _, hb, _⟩ => ⟨b, e, h.no hb⟩
theorem Ap.que2 (h : Ap w0 w p1 p2 N u v bx cur) : Calls Try.prog 20 #[.pointer (some ⟨p2, 0, none⟩), .int .i64 0] w fun e w' => ∃ b, e = .returned (.slice (some ⟨b, 0, none⟩) (v 0).length (v 0).length) ∧ Ap w0 w' p1 p2 N u v bx cur := by
  obtain ⟨h0, S1, S2, h1, h2, h3, h4, h5, h6⟩ := h.two
  exact (queue_in p2 2 N v S2 w 0 h2 (by decide)).mono fun _ _ ⟨b, e, _, hb, _⟩ => ⟨b, e, h.no hb⟩
theorem Ap.cells {a b c : Int} (h : Ap w0 w p1 p2 N u v bx #[.int .i64 a, .int .i64 b, .int .i64 c]) :
    w.cell? ⟨bx, 0, none⟩ = some (.int .i64 a) ∧ w.cell? ⟨bx, 1, none⟩ = some (.int .i64 b) ∧ w.cell? ⟨bx, 2, none⟩ = some (.int .i64 c) :=
  ⟨h.blk.cell (o := 0) rfl, h.blk.cell (o := 1) rfl, h.blk.cell (o := 2) rfl⟩
end
end Go.Proofs.Ytimkdcpghhkloaa
