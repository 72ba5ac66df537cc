/- Books that the law made; books of one and of two entries; pick; the chapter's examples. -/
import Derived.Test.YtekgnofmldpifaaC5
namespace Go.Proofs.Ytekgnofmldpifaa
open Go.ChangeShapes Go.WideShapes Go.ChangeAt Go.RowKit Go.Deep
/-- A book that the law made: all that was there at w0 is as it was. -/
structure Hw (w0 w : World) (S : Nat → Prop) (p n : Nat) (f : Nat → En) : Prop where
  jp : JP w S p n f
  but : But No w0 w
  new : ∀ k, S k → w0.heap.size ≤ k
theorem Hw.step {w0 w w' : World} {S : Nat → Prop} {p n : Nat} {f g : Nat → En} (h : Hw w0 w S p n f) (hm : Mv w S p n g w') : Hw w0 w' S p n g :=
  ⟨hm.1, h.but.andThen hm.2 (fun k hk => .inr (h.new k hk)), h.new⟩
theorem Hw.no {w0 w w' : World} {S : Nat → Prop} {p n : Nat} {f : Nat → En} (h : Hw w0 w S p n f) (hb : But No w w') : Hw w0 w' S p n f := ⟨h.jp.no hb, h.but.trans hb, h.new⟩
theorem Hw.made {w0 w w' : World} {p n : Nat} {P W : Nat → Int} (hb : But No w0 w) (h : NewEnd w n P W p w') : ∃ S, Hw w0 w' S p n (fun j => en0 (P j) (W j)) := by
  obtain ⟨S, h1, h2, h3⟩ := h
  exact ⟨S, h1, hb.trans h2, fun k hk => Nat.le_trans hb.size (h3 k hk)⟩
theorem Rw.congr {w : World} {q n : Nat} {f g : Nat → En} (h : Rw w q n f) (e : ∀ j, j < n → f j = g j) : Rw w q n g := by
  obtain ⟨cur, h1, h2, h3⟩ := h.ex
  exact ⟨cur, h1, h2, fun k o hk ho => by rw [← e k hk]; exact h3 k o hk ho⟩
theorem JP.congr {w : World} {S : Nat → Prop} {p n : Nat} {f g : Nat → En} (h : JP w S p n f) (e : ∀ j, j < n → f j = g j) : JP w S p n g := by
  obtain ⟨q, c, h1, h2, h3, h4, h5⟩ := h.ex
  exact ⟨⟨q, c, h1, h2, h3.congr e, h4, h5⟩, h.n24, fun j hj => by rw [← e j hj]; exact h.fit j hj⟩
theorem Mv.congr {w w' : World} {S : Nat → Prop} {p n : Nat} {f g : Nat → En} (h : Mv w S p n f w') (e : ∀ j, j < n → f j = g j) : Mv w S p n g w' := ⟨h.1.congr e, h.2⟩
def one (e : En) : Nat → En := fun _ => e
theorem upd_one (e e' : En) : ∀ j, j < 1 → upd (one e) 0 e' j = one e' j := by
  intro j hj; obtain rfl : j = 0 := by omega
  rw [upd_at]; rfl
section
variable (p : Nat) (e : En) (S : Nat → Prop) (w : World)
theorem ask1 (x : Int) (h : JP w S p 1 (one e)) : Calls Try.prog 9 #[.pointer (some ⟨p, 0, none⟩), .int .i64 0, .int .i64 x] w fun r w' => r = .returned (.bool (askB e x)) ∧ Mv w S p 1 (one (askE e x)) w' :=
  (ask_any p 1 (one e) S w 0 x (by omega) h).mono fun _ _ h => ⟨h.1, h.2.congr (upd_one _ _)⟩
theorem start1 (x : Int) (h : JP w S p 1 (one e)) : Calls Try.prog 11 #[.pointer (some ⟨p, 0, none⟩), .int .i64 0, .int .i64 x] w fun r w' => r = .returned (.bool (staB e x)) ∧ Mv w S p 1 (one (staE e x)) w' :=
  (start_any p 1 (one e) S w 0 x (by omega) h).mono fun _ _ h => ⟨h.1, h.2.congr (upd_one _ _)⟩
theorem work1 (x : Int) (h : JP w S p 1 (one e)) : Calls Try.prog 13 #[.pointer (some ⟨p, 0, none⟩), .int .i64 0, .int .i64 x] w fun r w' => r = .returned (.bool (wrkB e x)) ∧ Mv w S p 1 (one (wrkE e x)) w' :=
  (work_any p 1 (one e) S w 0 x (by omega) h).mono fun _ _ h => ⟨h.1, h.2.congr (upd_one _ _)⟩
theorem over1 (h : JP w S p 1 (one e)) : Calls Try.prog 14 #[.pointer (some ⟨p, 0, none⟩), .int .i64 0] w fun r w' => r = .returned (.bool (e.a)) ∧ Mv w S p 1 (one (ovrE e)) w' :=
  (over_any p 1 (one e) S w 0 (by omega) h).mono fun _ _ h => ⟨h.1, h.2.congr (upd_one _ _)⟩
theorem next1 (x : Int) (h : JP w S p 1 (one e)) : Calls Try.prog 10 #[.pointer (some ⟨p, 0, none⟩), .int .i64 0, .int .i64 x] w fun r w' => r = .returned (.int .i64 (nxt e x)) ∧ w = w' :=
  next_any p 1 (one e) S w 0 x (by omega) h
theorem state1 (h : JP w S p 1 (one e)) : Calls Try.prog 12 #[.pointer (some ⟨p, 0, none⟩), .int .i64 0] w fun r w' => r = .returned (stv e) ∧ But No w w' :=
  state_any p 1 (one e) S w 0 (by omega) h
end
theorem tks1 {w : World} {g : Nat} {P W : Int} (h : Blk w g #[.int .i64 P, .int .i64 0, .int .i64 W, .slice none 0 0] 27) : Tks w g 0 1 (fun _ => P) (fun _ => 0) (fun _ => W) (fun _ => (none, 0, 0)) := by
  intro j hj; obtain rfl : j = 0 := by omega
  exact ⟨h.cell (o := 0) rfl, h.cell (o := 1) rfl, h.cell (o := 2) rfl, h.cell (o := 3) rfl⟩
theorem tks2 {w : World} {g : Nat} {P W : Int} (h : Blk w g #[.int .i64 P, .int .i64 0, .int .i64 W, .slice none 0 0, .int .i64 P, .int .i64 0, .int .i64 W, .slice none 0 0] 27) : Tks w g 0 2 (fun _ => P) (fun _ => 0) (fun _ => W) (fun _ => (none, 0, 0)) := by
  intro j hj
  obtain rfl | rfl : j = 0 ∨ j = 1 := by omega
  · exact ⟨h.cell (o := 0) rfl, h.cell (o := 1) rfl, h.cell (o := 2) rfl, h.cell (o := 3) rfl⟩
  · exact ⟨h.cell (o := 4) rfl, h.cell (o := 5) rfl, h.cell (o := 6) rfl, h.cell (o := 7) rfl⟩
/-- A book of one task, made of a row that the law has just laid. -/
theorem made1 {w0 w : World} {g : Nat} {P W : Int} (hb : But No w0 w) (h : Blk w g #[.int .i64 P, .int .i64 0, .int .i64 W, .slice none 0 0] 27) (hP : 1 ≤ P ∧ P ≤ 1099511627776) (hW : 1 ≤ W ∧ W ≤ 1099511627776) :
    Calls Try.prog 8 #[.slice (some ⟨g, 0, none⟩) 1 1] w fun r w' => ∃ p S, r = .returned (.tuple #[.pointer (some ⟨p, 0, none⟩), .int .i64 0]) ∧ Hw w0 w' S p 1 (one (en0 P W)) ∧ But No w w' ∧ ∀ k, S k → w.heap.size ≤ k :=
  (new_ok g 0 1 1 _ _ _ _ w (tks1 h) (by omega) (by omega) (fun _ _ => hP) (fun _ _ => hW)).mono fun _ _ ⟨p, e, S, h1, h2, h3⟩ => ⟨p, S, e, ⟨h1, hb.trans h2, fun k hk => Nat.le_trans hb.size (h3 k hk)⟩, h2, h3⟩
theorem made2 {w0 w : World} {g : Nat} {P W : Int} (hb : But No w0 w) (h : Blk w g #[.int .i64 P, .int .i64 0, .int .i64 W, .slice none 0 0, .int .i64 P, .int .i64 0, .int .i64 W, .slice none 0 0] 27) (hP : 1 ≤ P ∧ P ≤ 1099511627776) (hW : 1 ≤ W ∧ W ≤ 1099511627776) :
    Calls Try.prog 8 #[.slice (some ⟨g, 0, none⟩) 2 2] w fun r w' => ∃ p S, r = .returned (.tuple #[.pointer (some ⟨p, 0, none⟩), .int .i64 0]) ∧ Hw w0 w' S p 2 (one (en0 P W)) ∧ But No w w' ∧ ∀ k, S k → w.heap.size ≤ k :=
  (new_ok g 0 2 2 _ _ _ _ w (tks2 h) (by omega) (by omega) (fun _ _ => hP) (fun _ _ => hW)).mono fun _ _ ⟨p, e, S, h1, h2, h3⟩ => ⟨p, S, e, ⟨h1, hb.trans h2, fun k hk => Nat.le_trans hb.size (h3 k hk)⟩, h2, h3⟩
theorem pick_any (c n : Int) (w : World) (hc : inR c) (h0 : 0 < n) (h1 : n ≤ 2000000000000) :
    Calls Try.prog 7 #[.int .i64 c, .int .i64 n] w fun r w' => r = .returned (.int .i64 (pk c n)) ∧ w = w' := by
  unfold inR at hc
  by_cases h : c < 0
  · have HP : Hid (pk c n = (-(c + 1)) % n) := by show _ = _; unfold pk; rw [if_pos h]
    have b1 : decide (c < 0) = true := by simp; omega
    have e0 : (0 : Int) ≤ -(c + 1) := by omega
    obtain ⟨d, hd⟩ : ∃ d, d = -(c + 1) := ⟨_, rfl⟩
    have HT : Hid ((-(c + 1)).tmod n = (-(c + 1)) % n) := Int.tmod_eq_emod_of_nonneg e0
    have nz : ¬ n = 0 := by omega
    clear hd
    go_enter Try.func7, Try.ntmps7
    go_wp2
    go_ret
    exact ⟨ret1 (by rw [HP.out]; first | rfl | (rw [← HT.out]; simp) | simp [Int.neg_tmod]), rfl⟩
  · have HP : Hid (pk c n = c % n) := by show _ = _; unfold pk; rw [if_neg h]
    have b1 : decide (c < 0) = false := by simp; omega
    have e0 : (0 : Int) ≤ c := by omega
    have nz : ¬ n = 0 := by omega
    go_enter Try.func7, Try.ntmps7
    go_wp2
    go_ret
    exact ⟨ret1 (by rw [HP.out]), rfl⟩
def x1 : En := ⟨10, 3, 5, 0, false, 0, 0, 0, false, 0⟩
def x2 : En := ⟨10, 3, 0, 14, true, 4, 3, 0, true, -1⟩
def x3 : En := ⟨10, 3, 0, 14, true, 4, 3, 1, true, 4⟩
def x5 : En := ⟨10, 3, 0, 14, true, 4, 3, 2, true, 5⟩
def x6 : En := ⟨10, 3, 0, 14, false, 0, 0, 0, false, 5⟩
def x7 : En := ⟨10, 3, 1, 14, false, 0, 0, 0, false, 5⟩
theorem t1 : askB (en0 10 3) 5 = true ∧ askE (en0 10 3) 5 = x1 := ⟨rfl, rfl⟩
theorem t2 : askB x1 1 = false ∧ askE x1 1 = x1 := ⟨rfl, rfl⟩
theorem t3 : nxt x1 4 = 4 ∧ staB x1 4 = true ∧ staE x1 4 = x2 := ⟨rfl, rfl, rfl⟩
theorem t4 : wrkB x2 4 = true ∧ wrkE x2 4 = x3 := ⟨rfl, rfl⟩
theorem t5 : wrkB x3 4 = false ∧ wrkE x3 4 = x3 := ⟨rfl, rfl⟩
theorem t6 : wrkB x3 5 = true ∧ wrkE x3 5 = x5 := ⟨rfl, rfl⟩
theorem t7 : x5.a = true ∧ ovrE x5 = x6 := ⟨rfl, rfl⟩
theorem t8 : askB x6 1 = true ∧ askE x6 1 = x7 ∧ nxt x7 9 = 14 := ⟨rfl, rfl, rfl⟩
theorem v2 : stv x2 = .agg #[.bool true, .int .i64 4, .int .i64 3, .int .i64 0, .bool true] := rfl
set_option maxHeartbeats 4000000 in
set_option maxRecDepth 100000 in
theorem examples_any (w : World) : Calls Try.prog 6 #[] w fun r w' => r = .returned (.bool true) ∧ But No w w' := by
  have hb0 := Blk.new w #[.int .i64 10, .int .i64 0, .int .i64 3, .slice none 0 0] 27
  have HN := Lib.hid (made1 ((But.refl No w).alloc _) hb0 (by decide) (by decide))
  clear hb0
  go_enter Try.func6, Try.ntmps6
  go_wp2_with fail
  refine HN.out.mono ?_
  rintro e w1 ⟨p, S, rfl, h1, _, _⟩
  have H1 := Lib.hid h1
  clear h1 HN
  go_wp2_with fail
  refine (new_none w1).mono ?_
  rintro e w2 ⟨rfl, rfl⟩
  go_wp2_with fail
  refine (ask1 p (en0 10 3) S _ 5 H1.out.jp).mono ?_
  rintro e w2 ⟨rfl, hm⟩
  rw [t1.1]
  rw [t1.2] at hm
  have H2 := Lib.hid (H1.out.step hm)
  clear hm H1
  go_wp2_with fail
  refine (ask1 p x1 S _ 1 H2.out.jp).mono ?_
  rintro e w3 ⟨rfl, hm⟩
  rw [t2.1]
  rw [t2.2] at hm
  have H3 := Lib.hid (H2.out.step hm)
  clear hm H2
  go_wp2_with fail
  refine (next1 p x1 S _ 4 H3.out.jp).mono ?_
  rintro e w4 ⟨rfl, hw⟩
  subst hw
  rw [t3.1]
  go_wp2_with fail
  refine (start1 p x1 S _ 4 H3.out.jp).mono ?_
  rintro e w5 ⟨rfl, hm⟩
  rw [t3.2.1]
  rw [t3.2.2] at hm
  have H5 := Lib.hid (H3.out.step hm)
  clear hm H3
  go_wp2_with fail
  refine (state1 p x2 S _ H5.out.jp).mono ?_
  rintro e w6 ⟨rfl, hm⟩
  rw [v2]
  have G1 := Lib.hid (H5.out.no hm)
  have H6 := Lib.hid (G1.out.no ((But.refl No w6).alloc (.cells #[.bool true, .int .i64 4, .int .i64 3, .int .i64 0, .bool true] 35)))
  have HNB : Hid (¬ S w6.heap.size) := fun hs => by have := G1.out.jp.lt _ hs; omega
  have B6 := Lib.hid (Blk.new w6 #[.bool true, .int .i64 4, .int .i64 3, .int .i64 0, .bool true] 35)
  clear hm H5 G1
  go_wp2_with fail
  refine (work1 p x2 S _ 4 H6.out.jp).mono ?_
  rintro e w7 ⟨rfl, hm⟩
  rw [t4.1]
  rw [t4.2] at hm
  have H7 := Lib.hid (H6.out.step hm)
  have B7 : Hid (Blk w7 _ _ 35) := B6.out.but hm.2 HNB.out
  clear hm H6 B6
  go_wp2_with fail
  refine (work1 p x3 S _ 4 H7.out.jp).mono ?_
  rintro e w8 ⟨rfl, hm⟩
  rw [t5.1]
  rw [t5.2] at hm
  have H8 := Lib.hid (H7.out.step hm)
  have B8 : Hid (Blk w8 _ _ 35) := B7.out.but hm.2 HNB.out
  clear hm H7 B7
  go_wp2_with fail
  refine (work1 p x3 S _ 5 H8.out.jp).mono ?_
  rintro e w9 ⟨rfl, hm⟩
  rw [t6.1]
  rw [t6.2] at hm
  have H9 := Lib.hid (H8.out.step hm)
  have B9 : Hid (Blk w9 _ _ 35) := B8.out.but hm.2 HNB.out
  clear hm H8 B8
  go_wp2_with fail
  refine (over1 p x5 S _ H9.out.jp).mono ?_
  rintro e w10 ⟨rfl, hm⟩
  rw [t7.1]
  rw [t7.2] at hm
  have H10 := Lib.hid (H9.out.step hm)
  have B10 : Hid (Blk w10 _ _ 35) := B9.out.but hm.2 HNB.out
  clear hm H9 B9
  go_wp2_with fail
  refine (ask1 p x6 S _ 1 H10.out.jp).mono ?_
  rintro e w11 ⟨rfl, hm⟩
  rw [t8.1]
  rw [t8.2.1] at hm
  have H11 := Lib.hid (H10.out.step hm)
  have B11 : Hid (Blk w11 _ _ 35) := B10.out.but hm.2 HNB.out
  clear hm H10 B10
  have k0 := B11.out.cell (o := 0) rfl
  have k1 := B11.out.cell (o := 1) rfl
  have k2 := B11.out.cell (o := 2) rfl
  have k3 := B11.out.cell (o := 3) rfl
  have k4 := B11.out.cell (o := 4) rfl
  go_wp2_with fail
  refine (next1 p x7 S _ 9 H11.out.jp).mono ?_
  rintro e w12 ⟨rfl, hw⟩
  subst hw
  rw [t8.2.2]
  go_wp2_with fail
  go_ret
  exact ⟨rfl, H11.out.but⟩
end Go.Proofs.Ytekgnofmldpifaa
