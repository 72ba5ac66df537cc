/- Contracts of an entry's start. -/
import Derived.Test.YtekgnofmldpifaaC2
namespace Go.Proofs.Ytekgnofmldpifaa
open Go.ChangeShapes Go.WideShapes Go.ChangeAt Go.RowKit Go.Deep
section
variable (q n : Nat) (f : Nat → En) (w : World)
theorem estart_no (k : Nat) (x : Int) (hk : k < n) (h : Rw w q n f) (hb : staB (f k) x = false) :
    Calls Try.prog 19 #[.pointer (some ⟨q, k * 10, none⟩), .int .i64 x] w fun r w' => r = .returned (.bool false) ∧ w = w' := by
  have CT := Lib.hid (isTick_any x w)
  have CN := Lib.hid (enext_any q n f w k x hk h)
  have hW : ¬ (isT x = true ∧ nxt (f k) x = x) := by unfold staB at hb; exact of_decide_eq_false hb
  clear h hb
  cases ht : isT x with
  | false =>
    rw [ht] at CT
    clear ht hW
    go_enter Try.func19, Try.ntmps19
    go_wp2_with (first | (go_at_call 22; refine CT.out.mono ?_; rintro e w1 ⟨rfl, rfl⟩) | (go_at_call 18; refine CN.out.mono ?_; rintro e w1 ⟨rfl, rfl⟩))
    go_ret
    exact ⟨rfl, rfl⟩
  | true =>
    rw [ht] at CT
    have hne : nxt (f k) x ≠ x := fun e => hW ⟨ht, e⟩
    generalize nxt (f k) x = y at CN hne
    have b1 : (y != x) = true := by simpa using hne
    clear ht hW hne
    go_enter Try.func19, Try.ntmps19
    go_wp2_with (first | (go_at_call 22; refine CT.out.mono ?_; rintro e w1 ⟨rfl, rfl⟩) | (go_at_call 18; refine CN.out.mono ?_; rintro e w1 ⟨rfl, rfl⟩))
    go_ret
    exact ⟨rfl, rfl⟩
set_option maxHeartbeats 1000000 in
theorem estart_yes (k : Nat) (x : Int) (hk : k < n) (h : Rw w q n f) (hf : Fit (f k)) (hb : staB (f k) x = true) :
    Calls Try.prog 19 #[.pointer (some ⟨q, k * 10, none⟩), .int .i64 x] w fun r w' => r = .returned (.bool true) ∧ Ed w q n (upd f k (staE (f k) x)) w' := by
  have CT := Lib.hid (isTick_any x w)
  have CN := Lib.hid (enext_any q n f w k x hk h)
  have hW : isT x = true ∧ nxt (f k) x = x := by unfold staB at hb; exact of_decide_eq_true hb
  have hx : 0 ≤ x ∧ x ≤ 9007199254740991 := by have := hW.1; unfold isT at this; exact of_decide_eq_true this
  rw [hW.1] at CT
  rw [hW.2] at CN
  have b1 : (x != x) = false := by simp
  have CA := Lib.hid (fun W => arriving_any (f k).P (f k).W x (f k).d W)
  have CF := Lib.hid (fun W => after_any (f k).P (f k).W x W hx.1 hx.2 hf.P0 hf.P1)
  have HS : Hid (staE (f k) x = stt (f k) x) := by show _ = _; unfold staE; rw [hb]; rfl
  have c0 : w.cell? ⟨q, k * 10, none⟩ = some (.int .i64 (f k).P) := h.at_ hk (o := 0) (by omega)
  have c1 : w.cell? ⟨q, k * 10 + 1, none⟩ = some (.int .i64 (f k).W) := h.at_ hk (o := 1) (by omega)
  have c2 : w.cell? ⟨q, k * 10 + 2, none⟩ = some (.int .i64 (f k).d) := h.at_ hk (o := 2) (by omega)
  -- behind the call of arriving: the entry as it was; the five cells of the state; the rest
  have H1 : Hid (∀ w1, But No w w1 → Rw w1 q n (upd f k (f k))) := fun w1 hb1 => by rw [upd_self]; exact h.no hb1
  have H2 : Hid (∀ w1, Rw w1 q n (upd f k (f k)) → Rw (((((w1.setCell ⟨q, k * 10 + 4, none⟩ (.bool true)).setCell ⟨q, k * 10 + 4 + 1, none⟩ (.int .i64 x)).setCell ⟨q, k * 10 + 4 + 2, none⟩ (.int .i64 (if (f k).d < (f k).W then (f k).d else (f k).W))).setCell ⟨q, k * 10 + 4 + 3, none⟩ (.int .i64 0)).setCell ⟨q, k * 10 + 4 + 4, none⟩ (.bool (decide ((f k).W < (f k).d)))) q n
      (upd f k ⟨(f k).P, (f k).W, (f k).d, (f k).f, true, x, if (f k).d < (f k).W then (f k).d else (f k).W, 0, decide ((f k).W < (f k).d), (f k).k⟩)) := fun w1 h1 => h1.setS hk _ _ _ _ _
  have H3 : Hid (∀ w1, Rw w1 q n (upd f k ⟨(f k).P, (f k).W, (f k).d, (f k).f, true, x, if (f k).d < (f k).W then (f k).d else (f k).W, 0, decide ((f k).W < (f k).d), (f k).k⟩) →
      Rw (((w1.setCell ⟨q, k * 10 + 3, none⟩ (.int .i64 (x + (f k).P))).setCell ⟨q, k * 10 + 2, none⟩ (.int .i64 0)).setCell ⟨q, k * 10 + 9, none⟩ (.int .i64 (-1))) q n (upd f k (stt (f k) x))) := fun w1 h1 =>
    ((h1.setF hk (x + (f k).P)).setD hk 0).setK hk (-1)
  rw [HS.out]
  generalize upd f k (stt (f k) x) = g at H3 ⊢
  have H4 : Hid (∀ w1, Rw w1 q n (upd f k ⟨(f k).P, (f k).W, (f k).d, (f k).f, true, x, if (f k).d < (f k).W then (f k).d else (f k).W, 0, decide ((f k).W < (f k).d), (f k).k⟩) → w1.cell? ⟨q, k * 10, none⟩ = some (.int .i64 (f k).P) ∧ w1.cell? ⟨q, k * 10 + 1, none⟩ = some (.int .i64 (f k).W) ∧ w1.cell? ⟨q, k * 10 + 2, none⟩ = some (.int .i64 (f k).d) ∧ w1.cell? ⟨q, k * 10 + 3, none⟩ = some (.int .i64 (f k).f) ∧ w1.cell? ⟨q, k * 10 + 9, none⟩ = some (.int .i64 (f k).k)) := by
    intro w1 h1
    have a0 := h1.at_ hk (o := 0) (by omega)
    have a1 := h1.at_ hk (o := 1) (by omega)
    have a2 := h1.at_ hk (o := 2) (by omega)
    have a3 := h1.at_ hk (o := 3) (by omega)
    have a9 := h1.at_ hk (o := 9) (by omega)
    rw [upd_at] at a0 a1 a2 a3 a9
    exact ⟨a0, a1, a2, a3, a9⟩
  have H5 : Hid (∀ w1, Rw w1 q n (upd f k (f k)) → ∃ a r m y c, w1.cell? ⟨q, k * 10 + 4, none⟩ = some (.bool a) ∧ w1.cell? ⟨q, k * 10 + 4 + 1, none⟩ = some (.int .i64 r) ∧ w1.cell? ⟨q, k * 10 + 4 + 2, none⟩ = some (.int .i64 m) ∧ w1.cell? ⟨q, k * 10 + 4 + 3, none⟩ = some (.int .i64 y) ∧ w1.cell? ⟨q, k * 10 + 4 + 4, none⟩ = some (.bool c)) := by
    intro w1 h1
    rw [upd_self] at h1
    exact ⟨_, _, _, _, _, h1.at_ hk (o := 4) (by omega), h1.at_ hk (o := 5) (by omega), h1.at_ hk (o := 6) (by omega), h1.at_ hk (o := 7) (by omega), h1.at_ hk (o := 8) (by omega)⟩
  have H6 : Hid (∀ w1, Rw w1 q n (upd f k (f k)) → w1.cell? ⟨q, k * 10, none⟩ = some (.int .i64 (f k).P) ∧ w1.cell? ⟨q, k * 10 + 1, none⟩ = some (.int .i64 (f k).W) ∧ w1.cell? ⟨q, k * 10 + 2, none⟩ = some (.int .i64 (f k).d)) := by
    intro w1 h1
    rw [upd_self] at h1
    exact ⟨h1.at_ hk (o := 0) (by omega), h1.at_ hk (o := 1) (by omega), h1.at_ hk (o := 2) (by omega)⟩
  generalize hg1 : upd f k ⟨(f k).P, (f k).W, (f k).d, (f k).f, true, x, if (f k).d < (f k).W then (f k).d else (f k).W, 0, decide ((f k).W < (f k).d), (f k).k⟩ = g1 at H2 H3 H4
  generalize hg0 : upd f k (f k) = g0 at H1 H2 H5 H6
  clear hg1 hg0
  unfold newSt at CA
  generalize (if (f k).d < (f k).W then (f k).d else (f k).W) = m1 at CA H2
  generalize decide ((f k).W < (f k).d) = u1 at CA H2
  generalize (f k).P = P at c0 CA CF H3 H4 H6
  generalize (f k).W = W at c1 CA CF H4 H6
  generalize (f k).d = d at c2 CA H4 H6
  generalize (f k).f = f1 at H4
  generalize (f k).k = k1 at H4
  clear h hf hb hW hx HS
  go_enter Try.func19, Try.ntmps19
  go_wp2_with (first | (go_at_call 22; refine CT.out.mono ?_; rintro e w1 ⟨rfl, rfl⟩) | (go_at_call 18; refine CN.out.mono ?_; rintro e w1 ⟨rfl, rfl⟩))
  have H7 : Hid (∀ w1, Rw w1 q n g0 → (((((w1.setCell ⟨q, k * 10 + 4, none⟩ (.bool true)).setCell ⟨q, k * 10 + 4 + 1, none⟩ (.int .i64 x)).setCell ⟨q, k * 10 + 4 + 2, none⟩ (.int .i64 m1)).setCell ⟨q, k * 10 + 4 + 3, none⟩ (.int .i64 0)).setCell ⟨q, k * 10 + 4 + 4, none⟩ (.bool u1)).cell? ⟨q, k * 10, none⟩ = some (.int .i64 P) ∧ (((((w1.setCell ⟨q, k * 10 + 4, none⟩ (.bool true)).setCell ⟨q, k * 10 + 4 + 1, none⟩ (.int .i64 x)).setCell ⟨q, k * 10 + 4 + 2, none⟩ (.int .i64 m1)).setCell ⟨q, k * 10 + 4 + 3, none⟩ (.int .i64 0)).setCell ⟨q, k * 10 + 4 + 4, none⟩ (.bool u1)).cell? ⟨q, k * 10 + 1, none⟩ = some (.int .i64 W) ∧ (((((w1.setCell ⟨q, k * 10 + 4, none⟩ (.bool true)).setCell ⟨q, k * 10 + 4 + 1, none⟩ (.int .i64 x)).setCell ⟨q, k * 10 + 4 + 2, none⟩ (.int .i64 m1)).setCell ⟨q, k * 10 + 4 + 3, none⟩ (.int .i64 0)).setCell ⟨q, k * 10 + 4 + 4, none⟩ (.bool u1)).cell? ⟨q, k * 10 + 2, none⟩ = some (.int .i64 d)) := fun w1 h1 => by
    have := H4.out _ (H2.out _ h1)
    exact ⟨this.1, this.2.1, this.2.2.1⟩
  have e0 : w.drew.cell? ⟨q, k * 10, none⟩ = some (.int .i64 P) := c0
  have e1 : w.drew.cell? ⟨q, k * 10 + 1, none⟩ = some (.int .i64 W) := c1
  have e2 : w.drew.cell? ⟨q, k * 10 + 2, none⟩ = some (.int .i64 d) := c2
  go_region_held3 (fun w' => w'.cell? ⟨q, k * 10, none⟩ = some (.int .i64 P) ∧ w'.cell? ⟨q, k * 10 + 1, none⟩ = some (.int .i64 W) ∧ w'.cell? ⟨q, k * 10 + 2, none⟩ = some (.int .i64 d))
    (first | (with_reducible exact ⟨e0, e1, e2⟩) | (with_reducible exact H6.out _ HR1.out) | (with_reducible exact H7.out _ HR1.out))
    (first | (go_at_call 23; ((with_reducible refine (CA.out _).mono ?_); rintro e w1 ⟨rfl, hb1⟩; have HB1 : Hid (But No w w1) := (But.refl No w).drew.trans hb1; have HR1 := Lib.hid (H1.out w1 HB1.out); obtain ⟨y4, y5, y6, y7, y8, d4, d5, d6, d7, d8⟩ := H5.out w1 HR1.out; have f4 := HR1.out.frozen (k * 10 + 4); have f5 := HR1.out.frozen (k * 10 + 4 + 1); have f6 := HR1.out.frozen (k * 10 + 4 + 2); have f7 := HR1.out.frozen (k * 10 + 4 + 3); have f8 := HR1.out.frozen (k * 10 + 4 + 4); clear hb1)))
  rename_i hHeld
  clear hHeld
  have HR2 := Lib.hid (H2.out w1 HR1.out)
  have HB2 : Hid (But (Just q) w (((((w1.setCell ⟨q, k * 10 + 4, none⟩ (.bool true)).setCell ⟨q, k * 10 + 4 + 1, none⟩ (.int .i64 x)).setCell ⟨q, k * 10 + 4 + 2, none⟩ (.int .i64 m1)).setCell ⟨q, k * 10 + 4 + 3, none⟩ (.int .i64 0)).setCell ⟨q, k * 10 + 4 + 4, none⟩ (.bool u1))) :=
    (((((HB1.out.no.setCell (p := ⟨q, _, none⟩) (just q) _).setCell (p := ⟨q, _, none⟩) (just q) _).setCell (p := ⟨q, _, none⟩) (just q) _).setCell (p := ⟨q, _, none⟩) (just q) _).setCell (p := ⟨q, _, none⟩) (just q) _)
  clear H7 HR1 HB1 d4 d5 d6 d7 d8 f4 f5 f6 f7 f8 c0 c1 c2 e0 e1 e2
  generalize ((((w1.setCell ⟨q, k * 10 + 4, none⟩ (.bool true)).setCell ⟨q, k * 10 + 4 + 1, none⟩ (.int .i64 x)).setCell ⟨q, k * 10 + 4 + 2, none⟩ (.int .i64 m1)).setCell ⟨q, k * 10 + 4 + 3, none⟩ (.int .i64 0)).setCell ⟨q, k * 10 + 4 + 4, none⟩ (.bool u1) = w2 at HR2 HB2 ⊢
  obtain ⟨a0, a1, a2, a3, a9⟩ := H4.out w2 HR2.out
  clear a2 a3 a9
  go_wp2_with (first | (go_at_call 24; ((with_reducible refine (CF.out _).mono ?_); rintro e w3 ⟨rfl, hb3⟩; have HB3 := Lib.hid hb3; have HR3 : Hid (Rw w3 q n g1) := HR2.out.no hb3; obtain ⟨a0', a1', a2, a3, a9⟩ := H4.out w3 HR3.out; have f2 := HR3.out.frozen (k * 10 + 2); have f3 := HR3.out.frozen (k * 10 + 3); have f9 := HR3.out.frozen (k * 10 + 9); clear hb3)))
  go_ret
  exact ⟨rfl, H3.out _ HR3.out, ((((HB2.out.trans HB3.out.no).setCell (p := ⟨q, _, none⟩) (just q) _).setCell (p := ⟨q, _, none⟩) (just q) _).setCell (p := ⟨q, _, none⟩) (just q) _)⟩
end
end Go.Proofs.Ytekgnofmldpifaa
