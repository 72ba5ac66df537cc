/- The locks and the document's own ones side by side. -/
import Derived.Test.YtimkdcpghhkloaaR2
namespace Go.Proofs.Ytimkdcpghhkloaa
open Go.ChangeShapes Go.WideShapes Go.ChangeAt Go.RowKit Go.Deep
open lok
def Duo (w0 w : World) (p x n : Nat) (N : Int) (q1 q2 : Nat → List Int) (E : Nat → Prop) : Prop :=
  But No w0 w ∧ ∃ S S2 : Nat → Prop, LP w S p n N q1 ∧ XP w S2 x n q2 ∧ (∀ k, S k → ¬ S2 k) ∧ (∀ k, S k → w0.heap.size ≤ k) ∧ (∀ k, S2 k → w0.heap.size ≤ k) ∧ ∀ b, E b → ¬ S b ∧ ¬ S2 b
structure Pz (w0 w : World) (p x n : Nat) (N : Int) (q1 q2 : Nat → List Int) (bx : Nat) (cur : Array Value) : Prop where
  two : Duo w0 w p x n N q1 q2 (Just bx)
  blk : Blk w bx cur 31
/-- q's row, and a deed's block. -/
structure Pq (w0 w : World) (p x n : Nat) (N : Int) (q : Nat → List Int) (bx : Nat) (cur : Array Value) (A : Option Addr) (m : Nat) (l : List Int) : Prop where
  two : Duo w0 w p x n N q q (fun k => k = bx ∨ A = some ⟨k, 0, none⟩)
  blk : Blk w bx cur 31
  row : ∀ b, A = some ⟨b, 0, none⟩ → w0.heap.size ≤ b ∧ Vals w b 3 m (fun i => .int .i64 (l.getD i 0))
  some_ : 0 < m → ∃ b, A = some ⟨b, 0, none⟩
/-- Both rows, the first j of q struck. -/
structure Pl (w0 w : World) (p x n : Nat) (N : Int) (q : Nat → List Int) (A B : Option Addr) (m j : Nat) (l : List Int) : Prop where
  two : Duo w0 w p x n N q q (fun k => A = some ⟨k, 0, none⟩)
  row : ∀ b, A = some ⟨b, 0, none⟩ → w0.heap.size ≤ b ∧ Vals w b 3 m (fun i => .int .i64 (if i < j then -1 else l.getD i 0))
  some_ : 0 < m → ∃ b, A = some ⟨b, 0, none⟩
  rr : 0 < m → ∃ b2 o2, B = some ⟨b2, o2, none⟩ ∧ A ≠ some ⟨b2, 0, none⟩ ∧ b2 < w.heap.size ∧ ∀ i, i < m → w.cell? ⟨b2, o2 + i, none⟩ = some (.int .i64 (l.getD i 0))
section
variable {w0 w w' : World} {p x n bx : Nat} {N N' : Int} {q1 q2 q : Nat → List Int} {cur : Array Value} {E : Nat → Prop} {A B : Option Addr} {m j : Nat} {l : List Int}
theorem Duo.no (h : Duo w0 w p x n N q1 q2 E) (hb : But No w w') : Duo w0 w' p x n N q1 q2 E := by
  obtain ⟨h0, S, S2, h1, h2, h3, h4, h5, h6⟩ := h
  exact ⟨h0.trans hb, S, S2, h1.no hb, h2.no hb, h3, h4, h5, h6⟩
theorem Duo.un (h : Duo w0 w p x n N q1 q2 E) (hN : N ≤ N') : Duo w0 w p x n N' q1 q2 No := by
  obtain ⟨h0, S, S2, h1, h2, h3, h4, h5, h6⟩ := h
  exact ⟨h0, S, S2, h1.more hN, h2, h3, h4, h5, fun _ f => f.elim⟩
theorem Duo.box (h : Duo w0 w p x n N q1 q2 No) (cur : Array Value) : Pz w0 (w.alloc (.cells cur 31)) p x n N q1 q2 w.heap.size cur := by
  have hB : But No w (w.alloc (.cells cur 31)) := (But.refl No w).alloc _
  obtain ⟨h0, S, S2, h1, h2, h3, h4, h5, _⟩ := h
  exact ⟨⟨h0.trans hB, S, S2, h1.no hB, h2.no hB, h3, h4, h5, fun b e => by cases e; exact ⟨fun e => by have := h1.lt _ e; omega, fun e => by have := h2.lt _ e; omega⟩⟩, Blk.new w _ _⟩
theorem Pz.no (h : Pz w0 w p x n N q1 q2 bx cur) (hb : But No w w') : Pz w0 w' p x n N q1 q2 bx cur := ⟨h.two.no hb, h.blk.but hb (fun f => f)⟩
theorem Pz.step1 (h : Pz w0 w p x n N q1 q2 bx cur) {q' : Nat → List Int} (hm : ∀ S, LP w S p n N q1 → LMv w S p n N' q' w') : Pz w0 w' p x n N' q' q2 bx cur := by
  obtain ⟨h0, S, S2, h1, h2, h3, h4, h5, h6⟩ := h.two
  have m := hm S h1
  exact ⟨⟨h0.andThen m.2 (fun k hk => .inr (h4 k hk)), S, S2, m.1, h2.but m.2 (fun k hk hk' => h3 k hk' hk), h3, h4, h5, h6⟩, h.blk.but m.2 (h6 bx rfl).1⟩
theorem Pz.fre1 (h : Pz w0 w p x n N q1 q2 bx cur) (t : Int) (ht : inR t) : Calls Try.prog 12 #[.pointer (some ⟨p, 0, none⟩), .int .i64 t] w fun r w' => r = .returned (.tuple #[.int .i64 (freA n q1 t), .int .i64 (freE n q1 t)]) ∧ Pz w0 w' p x n N (freQ n q1 t) q2 bx cur := by
  obtain ⟨h0, S, S2, h1, h2, h3, h4, h5, h6⟩ := h.two
  refine (free_any p n N q1 S w t ht h1).mono fun r w' ⟨e, m⟩ => ⟨e, ⟨h0.andThen m.2 (fun k hk => .inr (h4 k hk)), S, S2, m.1, h2.but m.2 (fun k hk hk' => h3 k hk' hk), h3, h4, h5, h6⟩, h.blk.but m.2 (h6 bx rfl).1⟩
theorem Pz.ask1 (h : Pz w0 w p x n N q1 q2 bx cur) (res t : Int) (hN : N < 1000000) : Calls Try.prog 10 #[.pointer (some ⟨p, 0, none⟩), .int .i64 res, .int .i64 t] w fun r w' => r = .returned (.tuple #[.int .i64 (askA n q1 res t), .int .i64 (askE n q1 res t)]) ∧ Pz w0 w' p x n (N + 1) (askQ n q1 res t) q2 bx cur := by
  obtain ⟨h0, S, S2, h1, h2, h3, h4, h5, h6⟩ := h.two
  refine (ask_any p n N q1 S w res t h1 hN).mono fun r w' ⟨e, m⟩ => ⟨e, ⟨h0.andThen m.2 (fun k hk => .inr (h4 k hk)), S, S2, m.1, h2.but m.2 (fun k hk hk' => h3 k hk' hk), h3, h4, h5, h6⟩, h.blk.but m.2 (h6 bx rfl).1⟩
theorem Pz.step2 (h : Pz w0 w p x n N q1 q2 bx cur) {q' : Nat → List Int} {S S2 : Nat → Prop} (h1 : LP w S p n N q1) (h3 : ∀ k, S k → ¬ S2 k) (h4 : ∀ k, S k → w0.heap.size ≤ k) (h5 : ∀ k, S2 k → w0.heap.size ≤ k) (h6 : ∀ b, Just bx b → ¬ S b ∧ ¬ S2 b)
    (hm : XMv w S2 x n q' w') : Pz w0 w' p x n N q1 q' bx cur := by
  obtain ⟨S3, m1, m2, m3⟩ := hm
  have hs := h.two.1.size
  have hl := h.blk.lt
  refine ⟨⟨h.two.1.andThen m2 (fun k hk => .inr (h5 k hk)), S, S3, h1.but m2 (fun k hk => h3 k hk), m1, fun k hk hk' => ?_, h4, fun k hk => ?_, fun b e => ⟨(h6 b e).1, fun hb => ?_⟩⟩, h.blk.but m2 (h6 bx rfl).2⟩
  · rcases m3 k hk' with c | c
    · exact h3 k hk c
    · have := h1.lt k hk; omega
  · rcases m3 k hk with c | c
    · exact h5 k c
    · omega
  · rcases m3 b hb with c | c
    · exact (h6 b e).2 c
    · cases e; omega
theorem Pz.ask2 (h : Pz w0 w p x n N q1 q2 bx cur) (res t : Int) : Calls Try.prog 11 #[.pointer (some ⟨x, 0, none⟩), .int .i64 res, .int .i64 t] w fun r w' => r = .returned (.tuple #[.int .i64 (askA n q2 res t), .int .i64 (askE n q2 res t)]) ∧ Pz w0 w' p x n N q1 (askQ n q2 res t) bx cur := by
  obtain ⟨h0, S, S2, h1, h2, h3, h4, h5, h6⟩ := h.two
  exact (rask_any x n q2 S2 w res t h2).mono fun r w' ⟨e, m⟩ => ⟨e, h.step2 h1 h3 h4 h5 h6 m⟩
theorem Pz.fre2 (h : Pz w0 w p x n N q1 q2 bx cur) (t : Int) : Calls Try.prog 13 #[.pointer (some ⟨x, 0, none⟩), .int .i64 t] w fun r w' => r = .returned (.tuple #[.int .i64 (freA n q2 t), .int .i64 (freE n q2 t)]) ∧ Pz w0 w' p x n N q1 (freQ n q2 t) bx cur := by
  obtain ⟨h0, S, S2, h1, h2, h3, h4, h5, h6⟩ := h.two
  exact (rfree_any x n q2 S2 w t h2).mono fun r w' ⟨e, m⟩ => ⟨e, h.step2 h1 h3 h4 h5 h6 m⟩
theorem Pz.hold1 (h : Pz w0 w p x n N q1 q2 bx cur) (res : Int) : Calls Try.prog 14 #[.pointer (some ⟨p, 0, none⟩), .int .i64 res] w fun r w' => r = .returned (.int .i64 (holdV n q1 res)) ∧ Pz w0 w' p x n N q1 q2 bx cur := by
  obtain ⟨h0, S, S2, h1, _⟩ := h.two
  exact (holder_any p n N q1 S w res h1).mono fun r w' ⟨e, m⟩ => ⟨e, h.no m⟩
theorem Pz.hold2 (h : Pz w0 w p x n N q1 q2 bx cur) (res : Int) : Calls Try.prog 15 #[.pointer (some ⟨x, 0, none⟩), .int .i64 res] w fun r w' => r = .returned (.int .i64 (holdV n q2 res)) ∧ Pz w0 w' p x n N q1 q2 bx cur := by
  obtain ⟨h0, S, S2, h1, h2, _⟩ := h.two
  exact (rholder_any x n q2 S2 w res h2).mono fun r w' ⟨e, m⟩ => ⟨e, h.no m⟩
theorem Pz.wants1 (h : Pz w0 w p x n N q1 q2 bx cur) (t : Int) (ht : inR t) : Calls Try.prog 16 #[.pointer (some ⟨p, 0, none⟩), .int .i64 t] w fun r w' => r = .returned (.int .i64 (wantV n q1 t)) ∧ Pz w0 w' p x n N q1 q2 bx cur := by
  obtain ⟨h0, S, S2, h1, _⟩ := h.two
  exact (wants_any p n N q1 S w t ht h1).mono fun r w' ⟨e, m⟩ => ⟨e, h.no m⟩
theorem Pz.wants2 (h : Pz w0 w p x n N q1 q2 bx cur) (t : Int) : Calls Try.prog 17 #[.pointer (some ⟨x, 0, none⟩), .int .i64 t] w fun r w' => r = .returned (.int .i64 (wantV n q2 t)) ∧ Pz w0 w' p x n N q1 q2 bx cur := by
  obtain ⟨h0, S, S2, h1, h2, _⟩ := h.two
  exact (rwants_any x n q2 S2 w t h2).mono fun r w' ⟨e, m⟩ => ⟨e, h.no m⟩
theorem Pz.has1 (h : Pz w0 w p x n N q1 q2 bx cur) (t : Int) (ht : inR t) : Calls Try.prog 18 #[.pointer (some ⟨p, 0, none⟩), .int .i64 t] w fun r w' => r = .returned (.bool (hasV n q1 t)) ∧ Pz w0 w' p x n N q1 q2 bx cur := by
  obtain ⟨h0, S, S2, h1, _⟩ := h.two
  exact (has_any p n N q1 S w t ht h1).mono fun r w' ⟨e, m⟩ => ⟨e, h.no m⟩
theorem Pz.has2 (h : Pz w0 w p x n N q1 q2 bx cur) (t : Int) : Calls Try.prog 19 #[.pointer (some ⟨x, 0, none⟩), .int .i64 t] w fun r w' => r = .returned (.bool (hasV n q2 t)) ∧ Pz w0 w' p x n N q1 q2 bx cur := by
  obtain ⟨h0, S, S2, h1, h2, _⟩ := h.two
  exact (rhas_any x n q2 S2 w t h2).mono fun r w' ⟨e, m⟩ => ⟨e, h.no m⟩
theorem Pz.cells {a b c : Int} (h : Pz w0 w p x n N q1 q2 bx #[.int .i64 a, .int .i64 b, .int .i64 c]) :
    w.cell? ⟨bx, 0, none⟩ = some (.int .i64 a) ∧ w.cell? ⟨bx, 1, none⟩ = some (.int .i64 b) ∧ w.cell? ⟨bx, 2, none⟩ = some (.int .i64 c) :=
  ⟨h.blk.cell (o := 0) rfl, h.blk.cell (o := 1) rfl, h.blk.cell (o := 2) rfl⟩
theorem Pq.cell1 {a b c : Int} (h : Pq w0 w p x n N q bx #[.int .i64 a, .int .i64 b, .int .i64 c] A m l) : w.cell? ⟨bx, 1, none⟩ = some (.int .i64 b) := h.blk.cell (o := 1) rfl
theorem vals_list {w : World} {b : Nat} {l : List Int} (h : Blk w b (l.map (Value.int .i64)).toArray 3) : Vals w b 3 l.length (fun i => .int .i64 (l.getD i 0)) := by
  have e : (List.range l.length).map (fun i => Value.int .i64 (l.getD i 0)) = l.map (Value.int .i64) := by
    apply List.ext_getElem?
    intro i
    by_cases hi : i < l.length
    · simp [hi]
    · simp [hi]
  unfold Vals
  rw [e]; exact h
theorem Pz.que1 (h : Pz w0 w p x n N q q bx cur) (res : Int) : Calls Try.prog 20 #[.pointer (some ⟨p, 0, none⟩), .int .i64 res] w fun r w' => ∃ A, r = .returned (.slice A (qi n q res).length (qi n q res).length) ∧ Pq w0 w' p x n N q bx cur A (qi n q res).length (qi n q res) := by
  obtain ⟨h0, S, S2, h1, h2, h3, h4, h5, h6⟩ := h.two
  cases hr : resB n res with
  | false =>
    rw [qi_out hr]
    refine (queue_out p n N q S w res h1 hr).mono fun r w' ⟨e, e2⟩ => ⟨none, e, ?_⟩
    subst e2
    exact ⟨⟨h0, S, S2, h1, h2, h3, h4, h5, fun b e => e.elim (fun e => by subst e; exact h6 _ rfl) (fun e => by cases e)⟩, h.blk, fun b e => (by cases e), fun e => absurd e (by simp)⟩
  | true =>
    have hr' := resB_iff.1 hr
    obtain ⟨k, rfl⟩ : ∃ k : Nat, res = k := ⟨res.toNat, by omega⟩
    have hk : k < n := by omega
    rw [qi_nat hk]
    refine (queue_in p n N q S w k h1 hk).mono fun r w' ⟨b, e, hbk, hb, hl⟩ => ⟨some ⟨b, 0, none⟩, e, ?_⟩
    have hs := h0.size
    refine ⟨⟨h0.trans hb, S, S2, h1.no hb, h2.no hb, h3, h4, h5, fun c e => ?_⟩, h.blk.but hb (fun f => f), fun c e => ?_, fun _ => ⟨b, rfl⟩⟩
    · rcases e with rfl | e
      · exact h6 _ rfl
      · cases e
        exact ⟨fun e => by have := h1.lt _ e; omega, fun e => by have := h2.lt _ e; omega⟩
    · cases e
      exact ⟨by omega, vals_list hbk⟩
theorem Pq.que2 (h : Pq w0 w p x n N q bx cur A m l) (res : Int) (hl : l = qi n q res) (hm : m = l.length) (h24 : m ≤ 24) : Calls Try.prog 21 #[.pointer (some ⟨x, 0, none⟩), .int .i64 res] w fun r w' => ∃ B c, r = .returned (.slice B m c) ∧ Pl w0 w' p x n N q A B m 0 l := by
  obtain ⟨h0, S, S2, h1, h2, h3, h4, h5, h6⟩ := h.two
  have key : Calls Try.prog 21 #[.pointer (some ⟨x, 0, none⟩), .int .i64 res] w (XAll w l) := by
    cases hr : resB n res with
    | false =>
      rw [hl, qi_out hr]
      exact rqueue_out x n q S2 w res h2 hr
    | true =>
      have hr' := resB_iff.1 hr
      obtain ⟨k, rfl⟩ : ∃ k : Nat, res = k := ⟨res.toNat, by omega⟩
      have hk : k < n := by omega
      rw [hl, qi_nat hk]
      exact rqueue_in x n q S2 w k h2 hk
  refine key.mono fun r w' ⟨B, c, e, ho, hb, hn⟩ => ⟨B, c, by rw [hm]; exact e, ?_⟩
  refine ⟨⟨h0.trans hb, S, S2, h1.no hb, h2.no hb, h3, h4, h5, fun b e => h6 b (.inr e)⟩, fun b e => ?_, h.some_, fun h9 => ?_⟩
  · obtain ⟨z1, z2⟩ := h.row b e
    exact ⟨z1, (z2.but hb (fun f => f)).congr fun i hi => by simp⟩
  · obtain ⟨b2, o2, eB, hlt, hc⟩ := ((ho.rl (by omega)).1).at_ (by omega)
    obtain ⟨b, hA⟩ := h.some_ h9
    refine ⟨b2, o2, eB, fun e => ?_, hlt, fun i hi => hc i (by omega)⟩
    have e1 := (h.row b2 e).2.lt
    have := hn b2 (by rw [eB]; rfl)
    omega
theorem Pl.no (h : Pl w0 w p x n N q A B m j l) (hb : But No w w') : Pl w0 w' p x n N q A B m j l :=
  ⟨h.two.no hb, fun b e => ⟨(h.row b e).1, (h.row b e).2.but hb (fun f => f)⟩, h.some_, fun h9 => by
    obtain ⟨b2, o2, e, hne, hlt, hc⟩ := h.rr h9
    exact ⟨b2, o2, e, hne, Nat.lt_of_lt_of_le hlt hb.size, fun i hi => by rw [hb.cell hlt (fun f => f)]; exact hc i hi⟩⟩
theorem Pl.at_ (h : Pl w0 w p x n N q A B m j l) (hj : j < m) : ∃ b b2 o2, A = some ⟨b, 0, none⟩ ∧ B = some ⟨b2, o2, none⟩ ∧ w.cell? ⟨b, j, none⟩ = some (.int .i64 (l.getD j 0)) ∧ w.frozen? ⟨b, j, none⟩ = false ∧ w.cell? ⟨b2, o2 + j, none⟩ = some (.int .i64 (l.getD j 0)) := by
  obtain ⟨b, e⟩ := h.some_ (by omega)
  obtain ⟨b2, o2, e2, _, _, hc⟩ := h.rr (by omega)
  have z := (h.row b e).2
  have c := z.cell hj
  rw [if_neg (by omega)] at c
  exact ⟨b, b2, o2, e, e2, c, Vals.frozen z j, hc j hj⟩
theorem Pl.next {b : Nat} (h : Pl w0 w p x n N q (some ⟨b, 0, none⟩) B m j l) : Pl w0 (w.setCell ⟨b, j, none⟩ (.int .i64 (-1))) p x n N q (some ⟨b, 0, none⟩) B m (j + 1) l := by
  have hB : But (Just b) w (w.setCell ⟨b, j, none⟩ (.int .i64 (-1))) := (But.refl _ w).setCell (p := ⟨b, j, none⟩) (just b) _
  obtain ⟨h0, S, S2, h1, h2, h3, h4, h5, h6⟩ := h.two
  obtain ⟨n1, n2⟩ := h6 b rfl
  obtain ⟨z1, z2⟩ := h.row b rfl
  refine ⟨⟨h0.setNew (p := ⟨b, j, none⟩) z1 _, S, S2, h1.but hB (fun k hk e => by cases e; exact n1 hk), h2.but hB (fun k hk e => by cases e; exact n2 hk), h3, h4, h5, h6⟩, fun c e => ?_, h.some_, fun h9 => ?_⟩
  · cases e
    refine ⟨z1, (z2.set (k := j) _).congr fun i hi => ?_⟩
    by_cases e : i = j
    · subst e; rw [if_pos (by omega), if_pos rfl]
    · rw [if_neg e]
      by_cases e2 : i < j
      · rw [if_pos (by omega), if_pos e2]
      · rw [if_neg (by omega), if_neg e2]
  · obtain ⟨b2, o2, e, hne, hlt, hc⟩ := h.rr h9
    refine ⟨b2, o2, e, hne, Nat.lt_of_lt_of_le hlt hB.size, fun i hi => ?_⟩
    rw [hB.cell hlt (fun e => by cases e; exact hne rfl)]
    exact hc i hi
end
end Go.Proofs.Ytimkdcpghhkloaa
