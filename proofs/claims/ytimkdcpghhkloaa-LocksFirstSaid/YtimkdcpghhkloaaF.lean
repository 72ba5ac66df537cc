/- LocksFirst: what is kept. -/
import Derived.Test.YtimkdcpghhkloaaRR
namespace Go.Proofs.Ytimkdcpghhkloaa.locksFirst
open Go.ChangeShapes Go.WideShapes Go.ChangeAt Go.RowKit Go.Deep Go.Proofs.Ytimkdcpghhkloaa
open Go.Proofs.Ytimkdcpghhkloaa.lok
def updn (f : Nat → Nat) (r m : Nat) : Nat → Nat := fun k => if k = r then m else f k
/-- Each queue is what asked and has not yet had it. -/
structure Fe (q aq : Nat → List Int) (had : Nat → Nat) (N : Nat) : Prop where
  lk : LK 8 q
  eq : ∀ r, r < 8 → q r = (aq r).drop (had r)
  le : ∀ r, r < 8 → had r ≤ (aq r).length
  ln : ∀ r, r < 8 → (aq r).length ≤ N
theorem Fe.nil : Fe (fun _ => []) (fun _ => []) (fun _ => 0) 0 := ⟨LK.none 8, fun _ _ => rfl, fun _ _ => Nat.le_refl _, fun _ _ => Nat.le_refl _⟩
section
variable {q aq : Nat → List Int} {had : Nat → Nat} {N : Nat} {t : Int}
theorem Fe.more (h : Fe q aq had N) {N' : Nat} (hN : N ≤ N') : Fe q aq had N' := ⟨h.lk, h.eq, h.le, fun r hr => Nat.le_trans (h.ln r hr) hN⟩
theorem Fe.ask (h : Fe q aq had N) {r : Nat} (hr : r < 8) (he : askE 8 q r t = 0) : Fe (askQ 8 q r t) (upd aq r (aq r ++ [t])) had (N + 1) := by
  have e : askQ 8 q r t = upd q r (q r ++ [t]) := by unfold askQ; rw [if_pos he]; rfl
  refine ⟨h.lk.ask _ _, fun s hs => ?_, fun s hs => ?_, fun s hs => ?_⟩
  · rw [e]
    by_cases es : s = r
    · subst es
      rw [upd_same, upd_same, h.eq s hs, List.drop_append_of_le_length (h.le s hs)]
    · rw [upd_other _ _ es, upd_other _ _ es]; exact h.eq s hs
  · by_cases es : s = r
    · subst es; rw [upd_same, List.length_append]; have := h.le s hs; omega
    · rw [upd_other _ _ es]; exact h.le s hs
  · by_cases es : s = r
    · subst es; rw [upd_same, List.length_append]; have := h.ln s hs; simp; omega
    · rw [upd_other _ _ es]; have := h.ln s hs; omega
theorem Fe.fre (h : Fe q aq had N) (hh : hasV 8 q t = true) : ∃ r : Nat, r < 8 ∧ wantV 8 q t = r ∧ Fe (freQ 8 q t) aq (updn had r (had r + 1)) N := by
  rcases has_cases h.lk t with ⟨r, l, hr, hq, hw, _, _⟩ | ⟨e, _⟩
  · have e : freQ 8 q t = upd q r l := by unfold freQ; rw [if_pos hh, hw]; simp [hq]
    have hd : l = (aq r).drop (had r + 1) := by
      have := h.eq r hr
      rw [hq] at this
      have := congrArg List.tail this
      rw [List.tail_drop] at this
      exact this
    have hl : had r < (aq r).length := by
      have := congrArg List.length (h.eq r hr)
      rw [hq, List.length_drop] at this
      simp at this
      omega
    refine ⟨r, hr, hw, h.lk.free t, fun s hs => ?_, fun s hs => ?_, h.ln⟩
    · rw [e]
      unfold updn
      by_cases es : s = r
      · subst es; rw [upd_same, if_pos rfl]; exact hd
      · rw [upd_other _ _ es, if_neg es]; exact h.eq s hs
    · unfold updn
      by_cases es : s = r
      · subst es; rw [if_pos rfl]; exact hl
      · rw [if_neg es]; exact h.le s hs
  · rw [hh] at e; cases e
theorem Fe.len (h : Fe q aq had N) {r : Nat} (hr : r < 8) : (q r).length + had r = (aq r).length := by
  have := congrArg List.length (h.eq r hr)
  rw [List.length_drop] at this
  have := h.le r hr
  omega
theorem Fe.head (h : Fe q aq had N) {k : Nat} (hk : k < 8) :
    (had k < (aq k).length ∧ (aq k).getD (had k) 0 = hd (q k) ∧ 0 ≤ hd (q k) ∧ hd (q k) < 24 ∧ hasV 8 q (hd (q k)) = true) ∨ ((aq k).length = had k ∧ hd (q k) = -1) := by
  have hl := h.len hk
  cases e : q k with
  | nil => right; rw [e] at hl; exact ⟨by simpa using hl.symm, rfl⟩
  | cons x l =>
    left
    rw [e] at hl
    simp at hl
    have hx : x ∈ q k := by rw [e]; simp
    have ht := h.lk.tk k x hx
    refine ⟨by omega, ?_, ht.1, ht.2, ?_⟩
    · have h1 := h.eq k hk
      rw [e] at h1
      have h2 : ((aq k).drop (had k))[0]? = some x := by rw [← h1]; rfl
      rw [List.getElem?_drop] at h2
      rw [List.getD_eq_getElem?_getD]
      rw [Nat.add_zero] at h2
      rw [h2]; rfl
    · show hasV 8 q x = true
      rcases has_cases h.lk x with ⟨_, _, _, _, _, hh, _⟩ | ⟨_, ⟨_, hno⟩ | ⟨r, y, l', hr, hq, hy, hm, _⟩⟩
      · exact hh
      · exact absurd hx (hno k)
      · exfalso
        have : k = r := h.lk.one k r x hx (by rw [hq]; exact List.mem_cons_of_mem _ hm)
        subst this
        rw [e] at hq
        cases hq
        exact hy rfl
end
/-- What lies in memory: the locks at p, who asked at ab, how many had it at hb. -/
structure Fs (w0 w : World) (p ab hb : Nat) (N : Int) (q aq : Nat → List Int) (had : Nat → Nat) (v : Nat → Value) : Prop where
  ex : ∃ S : Nat → Prop, LP w S p 8 N q ∧ (∀ k, S k → w0.heap.size ≤ k) ∧ (∀ k, Ro ab 8 v k → ¬ S k) ∧ ¬ S hb
  ror : RoR w ab 8 v aq
  hrow : Vals w hb 3 8 (fun r => .int .i64 (had r))
  nh : ¬ Ro ab 8 v hb
  new : ∀ k, Ro ab 8 v k → w0.heap.size ≤ k
  newh : w0.heap.size ≤ hb
  but : But No w0 w
section
variable {w0 w w' w2 : World} {p ab hb : Nat} {N : Int} {q aq : Nat → List Int} {had : Nat → Nat} {v : Nat → Value}
theorem Fs.no (h : Fs w0 w p ab hb N q aq had v) (hB : But No w w') : Fs w0 w' p ab hb N q aq had v := by
  obtain ⟨S, h1, h2, h3, h4⟩ := h.ex
  exact ⟨⟨S, h1.no hB, h2, h3, h4⟩, h.ror.no hB, h.hrow.but hB (fun f => f), h.nh, h.new, h.newh, h.but.trans hB⟩
theorem Fs.more (h : Fs w0 w p ab hb N q aq had v) {N' : Int} (hN : N ≤ N') : Fs w0 w p ab hb N' q aq had v := by
  obtain ⟨S, h1, h2, h3, h4⟩ := h.ex
  exact ⟨⟨S, h1.more hN, h2, h3, h4⟩, h.ror, h.hrow, h.nh, h.new, h.newh, h.but⟩
theorem Fs.step (h : Fs w0 w p ab hb N q aq had v) {N' : Int} {q' : Nat → List Int} {S : Nat → Prop} (h2 : ∀ k, S k → w0.heap.size ≤ k) (h3 : ∀ k, Ro ab 8 v k → ¬ S k) (h4 : ¬ S hb) (hm : LMv w S p 8 N' q' w') : Fs w0 w' p ab hb N' q' aq had v :=
  ⟨⟨S, hm.1, h2, h3, h4⟩, h.ror.but hm.2 h3, h.hrow.but hm.2 h4, h.nh, h.new, h.newh, h.but.andThen hm.2 (fun k hk => .inr (h2 k hk))⟩
theorem Fs.ask (h : Fs w0 w p ab hb N q aq had v) (r t : Int) (hN : N < 1000000) : Calls Try.prog 10 #[.pointer (some ⟨p, 0, none⟩), .int .i64 r, .int .i64 t] w fun e w' => e = .returned (.tuple #[.int .i64 (askA 8 q r t), .int .i64 (askE 8 q r t)]) ∧ Fs w0 w' p ab hb (N + 1) (askQ 8 q r t) aq had v := by
  obtain ⟨S, h1, h2, h3, h4⟩ := h.ex
  exact (ask_any p 8 N q S w r t h1 hN).mono fun _ _ ⟨e, hm⟩ => ⟨e, h.step h2 h3 h4 hm⟩
theorem Fs.fre (h : Fs w0 w p ab hb N q aq had v) (t : Int) (ht : inR t) : Calls Try.prog 12 #[.pointer (some ⟨p, 0, none⟩), .int .i64 t] w fun e w' => e = .returned (.tuple #[.int .i64 (freA 8 q t), .int .i64 (freE 8 q t)]) ∧ Fs w0 w' p ab hb N (freQ 8 q t) aq had v := by
  obtain ⟨S, h1, h2, h3, h4⟩ := h.ex
  exact (free_any p 8 N q S w t ht h1).mono fun _ _ ⟨e, hm⟩ => ⟨e, h.step h2 h3 h4 hm⟩
theorem Fs.wants (h : Fs w0 w p ab hb N q aq had v) (t : Int) (ht : inR t) : Calls Try.prog 16 #[.pointer (some ⟨p, 0, none⟩), .int .i64 t] w fun e w' => e = .returned (.int .i64 (wantV 8 q t)) ∧ Fs w0 w' p ab hb N q aq had v := by
  obtain ⟨S, h1, _⟩ := h.ex
  exact (wants_any p 8 N q S w t ht h1).mono fun _ _ ⟨e, hm⟩ => ⟨e, h.no hm⟩
theorem Fs.has (h : Fs w0 w p ab hb N q aq had v) (t : Int) (ht : inR t) : Calls Try.prog 18 #[.pointer (some ⟨p, 0, none⟩), .int .i64 t] w fun e w' => e = .returned (.bool (hasV 8 q t)) ∧ Fs w0 w' p ab hb N q aq had v := by
  obtain ⟨S, h1, _⟩ := h.ex
  exact (has_any p 8 N q S w t ht h1).mono fun _ _ ⟨e, hm⟩ => ⟨e, h.no hm⟩
theorem Fs.hold (h : Fs w0 w p ab hb N q aq had v) {k : Nat} (hk : k < 8) : Calls Try.prog 14 #[.pointer (some ⟨p, 0, none⟩), .int .i64 k] w fun e w' => e = .returned (.int .i64 (hd (q k))) ∧ Fs w0 w' p ab hb N q aq had v := by
  obtain ⟨S, h1, _⟩ := h.ex
  have := holder_any p 8 N q S w k h1
  unfold holdV at this
  rw [qi_nat hk] at this
  exact this.mono fun _ _ ⟨e, hm⟩ => ⟨e, h.no hm⟩
theorem Fs.que (h : Fs w0 w p ab hb N q aq had v) {k : Nat} (hk : k < 8) : Calls Try.prog 20 #[.pointer (some ⟨p, 0, none⟩), .int .i64 k] w fun e w' => ∃ b, e = .returned (.slice (some ⟨b, 0, none⟩) (q k).length (q k).length) ∧ Fs w0 w' p ab hb N q aq had v := by
  obtain ⟨S, h1, _⟩ := h.ex
  exact (queue_in p 8 N q S w k h1 hk).mono fun _ _ ⟨b, e, _, hb, _⟩ => ⟨b, e, h.no hb⟩
theorem Fs.push (h : Fs w0 w p ab hb N q aq had v) {r : Nat} (hr : r < 8) {x : Int} {A' : Option Addr} {c' : Nat}
    (ho : w2.ownsRow 0 3 1 (.slice A' ((aq r).length + 1) c') ((aq r).length + 1) ((aq r).map (Value.int .i64) ++ [.int .i64 x])) (hg : (w.alloc (.cells #[.int .i64 x] 3)).grownBy w2 (v r).ownBlock)
    (hat : (Value.slice A' ((aq r).length + 1) c').ownBlock = (v r).ownBlock ∨ (Value.slice A' ((aq r).length + 1) c').ownBlock = some (w.alloc (.cells #[.int .i64 x] 3)).heap.size) :
    Fs w0 (w2.setCell ⟨ab, r, none⟩ (.slice A' ((aq r).length + 1) c')) p ab hb N q (upd aq r (aq r ++ [x])) had (updv v r (.slice A' ((aq r).length + 1) c')) := by
  obtain ⟨z1, z2, z3⟩ := h.ror.app hr ho hg hat
  obtain ⟨S, h1, h2, h3, h4⟩ := h.ex
  have hs := h.but.size
  refine ⟨⟨S, h1.but z2 (fun k hk hk' => h3 k hk' hk), h2, fun k hk e => ?_, h4⟩, z1, h.hrow.but z2 h.nh, fun e => ?_, fun k hk => ?_, h.newh, h.but.andThen z2 (fun k hk => .inr (h.new k hk))⟩
  · rcases z3 k hk with c | c
    · exact h3 k c e
    · have := h1.lt k e; omega
  · rcases z3 hb e with c | c
    · exact h.nh c
    · have := h.hrow.lt; omega
  · rcases z3 k hk with c | c
    · exact h.new k c
    · omega
theorem Fs.bump (h : Fs w0 w p ab hb N q aq had v) {r : Nat} : Fs w0 (w.setCell ⟨hb, r, none⟩ (.int .i64 ((had r + 1 : Nat) : Int))) p ab hb N q aq (updn had r (had r + 1)) v := by
  obtain ⟨S, h1, h2, h3, h4⟩ := h.ex
  have hB : But (Just hb) w (w.setCell ⟨hb, r, none⟩ (.int .i64 ((had r + 1 : Nat) : Int))) := (But.refl _ w).setCell (p := ⟨hb, r, none⟩) (just hb) _
  refine ⟨⟨S, h1.but hB (fun k hk e => by cases e; exact h4 hk), h2, h3, h4⟩, h.ror.but hB (fun k hk e => by cases e; exact h.nh hk), (h.hrow.set (k := r) _).congr fun j hj => ?_, h.nh, h.new, h.newh, h.but.andThen hB (fun k hk => .inr (by cases hk; exact h.newh))⟩
  unfold updn
  by_cases e : j = r
  · subst e; rw [if_pos rfl, if_pos rfl]
  · rw [if_neg e, if_neg e]
end
end Go.Proofs.Ytimkdcpghhkloaa.locksFirst
