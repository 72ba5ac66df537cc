/- Contracts of what is done of one core: Many, Charge, Owes, Pay, Load, Last, Step. -/
import Derived.Test.YtaichiodlbdpjaaC1
namespace Go.Proofs.Ytaichiodlbdpjaa
open Go.ChangeShapes Go.WideShapes Go.ChangeAt Go.RowKit Go.Deep
/-- At p there are n cores of these costs and states; their blocks are S. -/
structure CP (w : World) (S : Nat → Prop) (p n : Nat) (C : Cs) (f : Nat → St) : Prop where
  ex : ∃ q, Cr w p q n C f ∧ ∀ k, S k ↔ Own p q k
theorem CP.but {w w' : World} {S S' : Nat → Prop} {p n : Nat} {C : Cs} {f : Nat → St} (h : CP w S p n C f) (hb : But S' w w') (hs : ∀ k, S k → ¬ S' k) : CP w' S p n C f := by
  obtain ⟨q, h1, h2⟩ := h.ex
  exact ⟨q, h1.but hb (fun k hk => hs k ((h2 k).2 hk)), h2⟩
theorem CP.no {w w' : World} {S : Nat → Prop} {p n : Nat} {C : Cs} {f : Nat → St} (h : CP w S p n C f) (hb : But No w w') : CP w' S p n C f := h.but hb (fun _ _ x => x)
theorem CP.lt {w : World} {S : Nat → Prop} {p n : Nat} {C : Cs} {f : Nat → St} (h : CP w S p n C f) : ∀ k, S k → k < w.heap.size := by
  obtain ⟨q, h1, h2⟩ := h.ex
  intro k hk
  rcases (h2 k).1 hk with rfl | rfl
  · exact h1.hp.lt
  · exact h1.hq.lt
/-- From one state to another one. -/
def Mv (w : World) (S : Nat → Prop) (p n : Nat) (C : Cs) (f : Nat → St) (w' : World) : Prop := CP w' S p n C f ∧ But S w w'
theorem CP.stay {w w' : World} {S : Nat → Prop} {p n : Nat} {C : Cs} {f : Nat → St} (h : CP w S p n C f) (hb : But No w w') : Mv w S p n C f w' := ⟨h.no hb, hb.no⟩
theorem Cr.mv {w w' : World} {S : Nat → Prop} {p q n : Nat} {C : Cs} {f g : Nat → St} (h : Cr w p q n C f) (hS : ∀ k, S k ↔ Own p q k) (hb : But No w w') {o : Nat} (v : Int) (hg : (fun j => if j = o then Value.int .i64 v else flat f j) = flat g) : Mv w S p n C g (w'.setCell ⟨q, o, none⟩ (.int .i64 v)) :=
  ⟨⟨q, (h.no hb).set v hg, hS⟩, hb.no.setCell ((hS _).2 (.inr rfl)) _⟩
theorem Cr.o {w : World} {p q n k : Nat} {C : Cs} {f : Nat → St} (h : Cr w p q n C f) (hk : k < n) : w.cell? ⟨q, k * 3, none⟩ = some (.int .i64 (f k).o) := by
  rw [← flat0]; exact h.hq.cell (by omega)
theorem Cr.l {w : World} {p q n k : Nat} {C : Cs} {f : Nat → St} (h : Cr w p q n C f) (hk : k < n) : w.cell? ⟨q, k * 3 + 1, none⟩ = some (.int .i64 (f k).l) := by
  rw [← flat1]; exact h.hq.cell (by omega)
theorem Cr.s {w : World} {p q n k : Nat} {C : Cs} {f : Nat → St} (h : Cr w p q n C f) (hk : k < n) : w.cell? ⟨q, k * 3 + 2, none⟩ = some (.int .i64 (f k).s) := by
  rw [← flat2]; exact h.hq.cell (by omega)
section
variable (p n : Nat) (C : Cs) (f : Nat → St) (S : Nat → Prop) (w : World)
theorem many_any (h : CP w S p n C f) : Calls Try.prog 19 #[.pointer (some ⟨p, 0, none⟩)] w fun r w' => r = .returned (.int .i64 n) ∧ w = w' := by
  obtain ⟨q, h1, h2⟩ := h.ex
  have c3 : w.cell? ⟨p, 3, none⟩ = some (.slice (some ⟨q, 0, none⟩) n n) := h1.hp.cell (o := 3) rfl
  clear h h1 h2
  go_enter Try.func19, Try.ntmps19
  go_wp2
  go_ret
  exact ⟨rfl, rfl⟩
theorem owes_in (k : Nat) (hk : k < n) (h : CP w S p n C f) : Calls Try.prog 16 #[.pointer (some ⟨p, 0, none⟩), .int .i64 k] w fun r w' => r = .returned (.int .i64 (f k).o) ∧ w = w' := by
  obtain ⟨q, h1, h2⟩ := h.ex
  have c0 := h1.o hk
  have CF := Lib.hid (find_in p q n k C f w h1 hk)
  generalize (f k).o = x at c0
  clear h h1 h2
  go_enter Try.func16, Try.ntmps16
  go_wp2_with (go_at_call 23; refine CF.out.mono ?_; rintro e w1 ⟨rfl, rfl⟩)
  go_ret
  exact ⟨rfl, rfl⟩
theorem last_in (k : Nat) (hk : k < n) (h : CP w S p n C f) : Calls Try.prog 17 #[.pointer (some ⟨p, 0, none⟩), .int .i64 k] w fun r w' => r = .returned (.int .i64 (f k).l) ∧ w = w' := by
  obtain ⟨q, h1, h2⟩ := h.ex
  have c0 := h1.l hk
  have CF := Lib.hid (find_in p q n k C f w h1 hk)
  generalize (f k).l = x at c0
  clear h h1 h2
  go_enter Try.func17, Try.ntmps17
  go_wp2_with (go_at_call 23; refine CF.out.mono ?_; rintro e w1 ⟨rfl, rfl⟩)
  go_ret
  exact ⟨rfl, rfl⟩
theorem owes_out (k : Int) (hk : k < 0 ∨ n ≤ k) (h : CP w S p n C f) : Calls Try.prog 16 #[.pointer (some ⟨p, 0, none⟩), .int .i64 k] w fun r w' => r = .returned (.int .i64 0) ∧ w = w' := by
  obtain ⟨q, h1, h2⟩ := h.ex
  have CF := Lib.hid (find_out p q n k C f w h1 hk)
  clear h h1 h2 hk
  go_enter Try.func16, Try.ntmps16
  go_wp2_with (go_at_call 23; refine CF.out.mono ?_; rintro e w1 ⟨rfl, rfl⟩)
  go_ret
  exact ⟨rfl, rfl⟩
theorem last_out (k : Int) (hk : k < 0 ∨ n ≤ k) (h : CP w S p n C f) : Calls Try.prog 17 #[.pointer (some ⟨p, 0, none⟩), .int .i64 k] w fun r w' => r = .returned (.int .i64 (-1)) ∧ w = w' := by
  obtain ⟨q, h1, h2⟩ := h.ex
  have CF := Lib.hid (find_out p q n k C f w h1 hk)
  clear h h1 h2 hk
  go_enter Try.func17, Try.ntmps17
  go_wp2_with (go_at_call 23; refine CF.out.mono ?_; rintro e w1 ⟨rfl, rfl⟩)
  go_ret
  exact ⟨rfl, rfl⟩
theorem step_out (k : Int) (hk : k < 0 ∨ n ≤ k) (h : CP w S p n C f) : Calls Try.prog 18 #[.pointer (some ⟨p, 0, none⟩), .int .i64 k] w fun r w' => r = .returned (.int .i64 0) ∧ w = w' := by
  obtain ⟨q, h1, h2⟩ := h.ex
  have CF := Lib.hid (find_out p q n k C f w h1 hk)
  clear h h1 h2 hk
  go_enter Try.func18, Try.ntmps18
  go_wp2_with (go_at_call 23; refine CF.out.mono ?_; rintro e w1 ⟨rfl, rfl⟩)
  go_ret
  exact ⟨rfl, rfl⟩
theorem step_in (k : Nat) (hk : k < n) (h : CP w S p n C f) (h0 : 0 ≤ (f k).s) (h9 : (f k).s ≤ 1000000) : Calls Try.prog 18 #[.pointer (some ⟨p, 0, none⟩), .int .i64 k] w fun r w' => r = .returned (.int .i64 ((f k).s + 1)) ∧ Mv w S p n C (upd f k ⟨(f k).o, (f k).l, (f k).s + 1⟩) w' := by
  obtain ⟨q, h1, h2⟩ := h.ex
  have c0 := h1.s hk
  have CF := Lib.hid (find_in p q n k C f w h1 hk)
  have fz : w.frozen? ⟨q, k * 3 + 2, none⟩ = false := h1.hq.frozen _
  have HM : Hid (Mv w S p n C (upd f k ⟨(f k).o, (f k).l, (f k).s + 1⟩) (w.setCell ⟨q, k * 3 + 2, none⟩ (.int .i64 ((f k).s + 1)))) := h1.mv h2 (But.refl _ _) _ (flat_s f k _)
  generalize (upd f k ⟨(f k).o, (f k).l, (f k).s + 1⟩) = g at HM ⊢
  generalize (f k).s = x at c0 HM h0 h9 ⊢
  clear h h1 h2
  go_enter Try.func18, Try.ntmps18
  go_wp2_with (go_at_call 23; refine CF.out.mono ?_; rintro e w1 ⟨rfl, rfl⟩)
  go_ret
  exact ⟨rfl, HM.out⟩
theorem pay_none (k : Nat) (hk : k < n) (h : CP w S p n C f) (h0 : (f k).o = 0) : Calls Try.prog 15 #[.pointer (some ⟨p, 0, none⟩), .int .i64 k] w fun r w' => r = .returned (.bool false) ∧ w = w' := by
  obtain ⟨q, h1, h2⟩ := h.ex
  have c0 := h1.o hk
  have CF := Lib.hid (find_in p q n k C f w h1 hk)
  rw [h0] at c0
  clear h h1 h2
  go_enter Try.func15, Try.ntmps15
  go_wp2_with (go_at_call 23; refine CF.out.mono ?_; rintro e w1 ⟨rfl, rfl⟩)
  go_ret
  exact ⟨rfl, rfl⟩
theorem pay_one (k : Nat) (hk : k < n) (h : CP w S p n C f) (h0 : 0 < (f k).o) (h9 : (f k).o ≤ 1000000) : Calls Try.prog 15 #[.pointer (some ⟨p, 0, none⟩), .int .i64 k] w fun r w' => r = .returned (.bool true) ∧ Mv w S p n C (upd f k ⟨(f k).o - 1, (f k).l, (f k).s⟩) w' := by
  obtain ⟨q, h1, h2⟩ := h.ex
  have c0 := h1.o hk
  have CF := Lib.hid (find_in p q n k C f w h1 hk)
  have fz : w.frozen? ⟨q, k * 3, none⟩ = false := h1.hq.frozen _
  have HM : Hid (Mv w S p n C (upd f k ⟨(f k).o - 1, (f k).l, (f k).s⟩) (w.setCell ⟨q, k * 3, none⟩ (.int .i64 ((f k).o - 1)))) := h1.mv h2 (But.refl _ _) _ (flat_o f k _)
  generalize (upd f k ⟨(f k).o - 1, (f k).l, (f k).s⟩) = g at HM ⊢
  generalize (f k).o = x at c0 HM h0 h9
  have b1 : (x == 0) = false := by simp; omega
  clear h h1 h2
  go_enter Try.func15, Try.ntmps15
  go_wp2_with (go_at_call 23; refine CF.out.mono ?_; rintro e w1 ⟨rfl, rfl⟩)
  go_ret
  exact ⟨rfl, HM.out⟩
end
end Go.Proofs.Ytaichiodlbdpjaa
