/- Books of two entries; two books side by side. -/
import Derived.Test.YtekgnofmldpifaaD
namespace Go.Proofs.Ytekgnofmldpifaa
open Go.ChangeShapes Go.WideShapes Go.ChangeAt Go.RowKit Go.Deep
def two (a b : En) : Nat → En := fun j => if j = 0 then a else b
theorem upd_two0 (a b a' : En) : ∀ j, j < 2 → upd (two a b) 0 a' j = two a' b j := by
  intro j _; unfold upd two; split <;> rfl
theorem upd_two1 (a b b' : En) : ∀ j, j < 2 → upd (two a b) 1 b' j = two a b' j := by
  intro j hj
  obtain rfl | rfl : j = 0 ∨ j = 1 := by omega
  · rfl
  · rfl
section
variable (p : Nat) (a b : En) (S : Nat → Prop) (w : World)
theorem ask2_0 (x : Int) (h : JP w S p 2 (two a b)) : Calls Try.prog 9 #[.pointer (some ⟨p, 0, none⟩), .int .i64 0, .int .i64 x] w fun r w' => r = .returned (.bool (askB a x)) ∧ Mv w S p 2 (two (askE a x) b) w' :=
  (ask_any p 2 (two a b) S w 0 x (by omega) h).mono fun _ _ h => ⟨h.1, h.2.congr (upd_two0 _ _ _)⟩
theorem ask2_1 (x : Int) (h : JP w S p 2 (two a b)) : Calls Try.prog 9 #[.pointer (some ⟨p, 0, none⟩), .int .i64 1, .int .i64 x] w fun r w' => r = .returned (.bool (askB b x)) ∧ Mv w S p 2 (two a (askE b x)) w' :=
  (ask_any p 2 (two a b) S w 1 x (by omega) h).mono fun _ _ h => ⟨h.1, h.2.congr (upd_two1 _ _ _)⟩
theorem start2_0 (x : Int) (h : JP w S p 2 (two a b)) : Calls Try.prog 11 #[.pointer (some ⟨p, 0, none⟩), .int .i64 0, .int .i64 x] w fun r w' => r = .returned (.bool (staB a x)) ∧ Mv w S p 2 (two (staE a x) b) w' :=
  (start_any p 2 (two a b) S w 0 x (by omega) h).mono fun _ _ h => ⟨h.1, h.2.congr (upd_two0 _ _ _)⟩
theorem start2_1 (x : Int) (h : JP w S p 2 (two a b)) : Calls Try.prog 11 #[.pointer (some ⟨p, 0, none⟩), .int .i64 1, .int .i64 x] w fun r w' => r = .returned (.bool (staB b x)) ∧ Mv w S p 2 (two a (staE b x)) w' :=
  (start_any p 2 (two a b) S w 1 x (by omega) h).mono fun _ _ h => ⟨h.1, h.2.congr (upd_two1 _ _ _)⟩
theorem work2_0 (x : Int) (h : JP w S p 2 (two a b)) : Calls Try.prog 13 #[.pointer (some ⟨p, 0, none⟩), .int .i64 0, .int .i64 x] w fun r w' => r = .returned (.bool (wrkB a x)) ∧ Mv w S p 2 (two (wrkE a x) b) w' :=
  (work_any p 2 (two a b) S w 0 x (by omega) h).mono fun _ _ h => ⟨h.1, h.2.congr (upd_two0 _ _ _)⟩
theorem work2_1 (x : Int) (h : JP w S p 2 (two a b)) : Calls Try.prog 13 #[.pointer (some ⟨p, 0, none⟩), .int .i64 1, .int .i64 x] w fun r w' => r = .returned (.bool (wrkB b x)) ∧ Mv w S p 2 (two a (wrkE b x)) w' :=
  (work_any p 2 (two a b) S w 1 x (by omega) h).mono fun _ _ h => ⟨h.1, h.2.congr (upd_two1 _ _ _)⟩
theorem over2_0 (h : JP w S p 2 (two a b)) : Calls Try.prog 14 #[.pointer (some ⟨p, 0, none⟩), .int .i64 0] w fun r w' => r = .returned (.bool (a.a)) ∧ Mv w S p 2 (two (ovrE a) b) w' :=
  (over_any p 2 (two a b) S w 0 (by omega) h).mono fun _ _ h => ⟨h.1, h.2.congr (upd_two0 _ _ _)⟩
theorem over2_1 (h : JP w S p 2 (two a b)) : Calls Try.prog 14 #[.pointer (some ⟨p, 0, none⟩), .int .i64 1] w fun r w' => r = .returned (.bool (b.a)) ∧ Mv w S p 2 (two a (ovrE b)) w' :=
  (over_any p 2 (two a b) S w 1 (by omega) h).mono fun _ _ h => ⟨h.1, h.2.congr (upd_two1 _ _ _)⟩
theorem state2_0 (h : JP w S p 2 (two a b)) : Calls Try.prog 12 #[.pointer (some ⟨p, 0, none⟩), .int .i64 0] w fun r w' => r = .returned (stv a) ∧ But No w w' :=
  state_any p 2 (two a b) S w 0 (by omega) h
end
/-- Two books of two entries, side by side, that the law has made since w. -/
structure PP (w wr : World) (Sa Sb : Nat → Prop) (pa pb : Nat) (ea ga eb gb : En) : Prop where
  a : Hw w wr Sa pa 2 (two ea ga)
  b : Hw w wr Sb pb 2 (two eb gb)
  ap : ∀ k, Sa k → ¬ Sb k
section
variable {w wr w' : World} {Sa Sb : Nat → Prop} {pa pb : Nat} {ea ga eb gb : En}
theorem PP.no (h : PP w wr Sa Sb pa pb ea ga eb gb) (hb : But No wr w') : PP w w' Sa Sb pa pb ea ga eb gb := ⟨h.a.no hb, h.b.no hb, h.ap⟩
theorem PP.left (h : PP w wr Sa Sb pa pb ea ga eb gb) {x y : En} (hm : Mv wr Sa pa 2 (two x y) w') : PP w w' Sa Sb pa pb x y eb gb :=
  ⟨h.a.step hm, ⟨h.b.jp.but hm.2 (fun k hk hs => h.ap k hs hk), h.b.but.andThen hm.2 (fun k hk => .inr (h.a.new k hk)), h.b.new⟩, h.ap⟩
theorem PP.right (h : PP w wr Sa Sb pa pb ea ga eb gb) {x y : En} (hm : Mv wr Sb pb 2 (two x y) w') : PP w w' Sa Sb pa pb ea ga x y :=
  ⟨⟨h.a.jp.but hm.2 (fun k hk hs => h.ap k hk hs), h.a.but.andThen hm.2 (fun k hk => .inr (h.b.new k hk)), h.a.new⟩, h.b.step hm, h.ap⟩
theorem PP.ask_a0 (h : PP w wr Sa Sb pa pb ea ga eb gb) (x : Int) : Calls Try.prog 9 #[.pointer (some ⟨pa, 0, none⟩), .int .i64 0, .int .i64 x] wr fun r w' => r = .returned (.bool (askB ea x)) ∧ PP w w' Sa Sb pa pb (askE ea x) ga eb gb :=
  (ask2_0 pa ea ga Sa wr x h.a.jp).mono fun _ _ hm => ⟨hm.1, h.left hm.2⟩
theorem PP.ask_a1 (h : PP w wr Sa Sb pa pb ea ga eb gb) (x : Int) : Calls Try.prog 9 #[.pointer (some ⟨pa, 0, none⟩), .int .i64 1, .int .i64 x] wr fun r w' => r = .returned (.bool (askB ga x)) ∧ PP w w' Sa Sb pa pb ea (askE ga x) eb gb :=
  (ask2_1 pa ea ga Sa wr x h.a.jp).mono fun _ _ hm => ⟨hm.1, h.left hm.2⟩
theorem PP.ask_b0 (h : PP w wr Sa Sb pa pb ea ga eb gb) (x : Int) : Calls Try.prog 9 #[.pointer (some ⟨pb, 0, none⟩), .int .i64 0, .int .i64 x] wr fun r w' => r = .returned (.bool (askB eb x)) ∧ PP w w' Sa Sb pa pb ea ga (askE eb x) gb :=
  (ask2_0 pb eb gb Sb wr x h.b.jp).mono fun _ _ hm => ⟨hm.1, h.right hm.2⟩
theorem PP.start_a0 (h : PP w wr Sa Sb pa pb ea ga eb gb) (x : Int) : Calls Try.prog 11 #[.pointer (some ⟨pa, 0, none⟩), .int .i64 0, .int .i64 x] wr fun r w' => r = .returned (.bool (staB ea x)) ∧ PP w w' Sa Sb pa pb (staE ea x) ga eb gb :=
  (start2_0 pa ea ga Sa wr x h.a.jp).mono fun _ _ hm => ⟨hm.1, h.left hm.2⟩
theorem PP.start_a1 (h : PP w wr Sa Sb pa pb ea ga eb gb) (x : Int) : Calls Try.prog 11 #[.pointer (some ⟨pa, 0, none⟩), .int .i64 1, .int .i64 x] wr fun r w' => r = .returned (.bool (staB ga x)) ∧ PP w w' Sa Sb pa pb ea (staE ga x) eb gb :=
  (start2_1 pa ea ga Sa wr x h.a.jp).mono fun _ _ hm => ⟨hm.1, h.left hm.2⟩
theorem PP.start_b0 (h : PP w wr Sa Sb pa pb ea ga eb gb) (x : Int) : Calls Try.prog 11 #[.pointer (some ⟨pb, 0, none⟩), .int .i64 0, .int .i64 x] wr fun r w' => r = .returned (.bool (staB eb x)) ∧ PP w w' Sa Sb pa pb ea ga (staE eb x) gb :=
  (start2_0 pb eb gb Sb wr x h.b.jp).mono fun _ _ hm => ⟨hm.1, h.right hm.2⟩
theorem PP.work_a0 (h : PP w wr Sa Sb pa pb ea ga eb gb) (x : Int) : Calls Try.prog 13 #[.pointer (some ⟨pa, 0, none⟩), .int .i64 0, .int .i64 x] wr fun r w' => r = .returned (.bool (wrkB ea x)) ∧ PP w w' Sa Sb pa pb (wrkE ea x) ga eb gb :=
  (work2_0 pa ea ga Sa wr x h.a.jp).mono fun _ _ hm => ⟨hm.1, h.left hm.2⟩
theorem PP.work_a1 (h : PP w wr Sa Sb pa pb ea ga eb gb) (x : Int) : Calls Try.prog 13 #[.pointer (some ⟨pa, 0, none⟩), .int .i64 1, .int .i64 x] wr fun r w' => r = .returned (.bool (wrkB ga x)) ∧ PP w w' Sa Sb pa pb ea (wrkE ga x) eb gb :=
  (work2_1 pa ea ga Sa wr x h.a.jp).mono fun _ _ hm => ⟨hm.1, h.left hm.2⟩
theorem PP.work_b0 (h : PP w wr Sa Sb pa pb ea ga eb gb) (x : Int) : Calls Try.prog 13 #[.pointer (some ⟨pb, 0, none⟩), .int .i64 0, .int .i64 x] wr fun r w' => r = .returned (.bool (wrkB eb x)) ∧ PP w w' Sa Sb pa pb ea ga (wrkE eb x) gb :=
  (work2_0 pb eb gb Sb wr x h.b.jp).mono fun _ _ hm => ⟨hm.1, h.right hm.2⟩
theorem PP.over_a0 (h : PP w wr Sa Sb pa pb ea ga eb gb) : Calls Try.prog 14 #[.pointer (some ⟨pa, 0, none⟩), .int .i64 0] wr fun r w' => r = .returned (.bool (ea.a)) ∧ PP w w' Sa Sb pa pb (ovrE ea) ga eb gb :=
  (over2_0 pa ea ga Sa wr h.a.jp).mono fun _ _ hm => ⟨hm.1, h.left hm.2⟩
theorem PP.over_a1 (h : PP w wr Sa Sb pa pb ea ga eb gb) : Calls Try.prog 14 #[.pointer (some ⟨pa, 0, none⟩), .int .i64 1] wr fun r w' => r = .returned (.bool (ga.a)) ∧ PP w w' Sa Sb pa pb ea (ovrE ga) eb gb :=
  (over2_1 pa ea ga Sa wr h.a.jp).mono fun _ _ hm => ⟨hm.1, h.left hm.2⟩
theorem PP.over_b0 (h : PP w wr Sa Sb pa pb ea ga eb gb) : Calls Try.prog 14 #[.pointer (some ⟨pb, 0, none⟩), .int .i64 0] wr fun r w' => r = .returned (.bool (eb.a)) ∧ PP w w' Sa Sb pa pb ea ga (ovrE eb) gb :=
  (over2_0 pb eb gb Sb wr h.b.jp).mono fun _ _ hm => ⟨hm.1, h.right hm.2⟩
theorem PP.state_a (h : PP w wr Sa Sb pa pb ea ga eb gb) : Calls Try.prog 12 #[.pointer (some ⟨pa, 0, none⟩), .int .i64 0] wr fun r w' => r = .returned (stv ea) ∧ PP w w' Sa Sb pa pb ea ga eb gb :=
  (state2_0 pa ea ga Sa wr h.a.jp).mono fun _ _ hm => ⟨hm.1, h.no hm.2⟩
theorem PP.state_b (h : PP w wr Sa Sb pa pb ea ga eb gb) : Calls Try.prog 12 #[.pointer (some ⟨pb, 0, none⟩), .int .i64 0] wr fun r w' => r = .returned (stv eb) ∧ PP w w' Sa Sb pa pb ea ga eb gb :=
  (state2_0 pb eb gb Sb wr h.b.jp).mono fun _ _ hm => ⟨hm.1, h.no hm.2⟩
end
end Go.Proofs.Ytekgnofmldpifaa
