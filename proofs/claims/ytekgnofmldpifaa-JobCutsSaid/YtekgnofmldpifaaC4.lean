/- Contracts of the book's calls: Ask, Next, Start, State, Work, Over. -/
import Derived.Test.YtekgnofmldpifaaC3
namespace Go.Proofs.Ytekgnofmldpifaa
open Go.ChangeShapes Go.WideShapes Go.ChangeAt Go.RowKit Go.Deep
theorem Mv.of {w w' : World} {S : Nat → Prop} {p q c n k : Nat} {f : Nat → En} {e : En} (h : JP w S p n f) (hpq : p ≠ q) (hp : Blk w p #[.slice (some ⟨q, 0, none⟩) n c] 50) (hc : n ≤ c) (hS : ∀ k, S k ↔ k = p ∨ k = q) (he : Fit e) (hm : Ed w q n (upd f k e) w') : Mv w S p n (upd f k e) w' :=
  ⟨⟨⟨q, c, hpq, hp.but hm.2 hpq, hm.1, hc, hS⟩, h.n24, fun j hj => if e : j = k then by rw [e, upd_at]; exact he else by rw [upd_ne _ _ e]; exact h.fit j hj⟩, hm.2.mono (fun j _ e => (hS j).2 (.inr e))⟩
section
variable (p n : Nat) (f : Nat → En) (S : Nat → Prop) (w : World)
theorem estart_any (q : Nat) (k : Nat) (x : Int) (hk : k < n) (h : Rw w q n f) (hf : Fit (f k)) :
    Calls Try.prog 19 #[.pointer (some ⟨q, k * 10, none⟩), .int .i64 x] w fun r w' => r = .returned (.bool (staB (f k) x)) ∧ Ed w q n (upd f k (staE (f k) x)) w' := by
  cases hb : staB (f k) x with
  | true => exact estart_yes q n f w k x hk h hf hb
  | false =>
    refine (estart_no q n f w k x hk h hb).mono ?_
    rintro e w' ⟨rfl, rfl⟩
    refine ⟨rfl, ?_, But.refl _ _⟩
    unfold staE; rw [hb, if_neg (by simp), upd_self]; exact h
theorem ework_any (q : Nat) (k : Nat) (x : Int) (hk : k < n) (h : Rw w q n f) (hf : Fit (f k)) :
    Calls Try.prog 20 #[.pointer (some ⟨q, k * 10, none⟩), .int .i64 x] w fun r w' => r = .returned (.bool (wrkB (f k) x)) ∧ Ed w q n (upd f k (wrkE (f k) x)) w' := by
  cases hb : wrkB (f k) x with
  | true => exact ework_yes q n f w k x hk h hf hb
  | false =>
    refine (ework_no q n f w k x hk h hb).mono ?_
    rintro e w' ⟨rfl, j, rfl⟩
    refine ⟨rfl, ?_, (But.refl _ _).drewN j⟩
    unfold wrkE; rw [hb, if_neg (by simp), upd_self]; exact h.no ((But.refl _ _).drewN j)
theorem ask_any (k : Nat) (x : Int) (hk : k < n) (h : JP w S p n f) :
    Calls Try.prog 9 #[.pointer (some ⟨p, 0, none⟩), .int .i64 k, .int .i64 x] w fun r w' => r = .returned (.bool (askB (f k) x)) ∧ Mv w S p n (upd f k (askE (f k) x)) w' := by
  obtain ⟨q, c, h1, h2, h3, h4, h5⟩ := h.ex
  have CI := Lib.hid (find_in p q n c k w h2 hk)
  have CE := Lib.hid (eask_any q n f w k x hk h3)
  have HM : Hid (∀ w', Ed w q n (upd f k (askE (f k) x)) w' → Mv w S p n (upd f k (askE (f k) x)) w') := fun w' hm => Mv.of h h1 h2 h4 h5 ((h.fit k hk).ask x) hm
  generalize upd f k (askE (f k) x) = g at CE HM ⊢
  generalize askB (f k) x = u at CE ⊢
  clear h h1 h2 h3 h4 h5
  go_enter Try.func9, Try.ntmps9
  go_wp2_with (first | (go_at_call 16; ((with_reducible refine CI.out.mono ?_); rintro e w1 ⟨rfl, rfl⟩)) | (go_at_call 17; ((with_reducible refine CE.out.mono ?_); rintro e w2 ⟨rfl, hm⟩; have HE := Lib.hid (HM.out _ hm); clear hm)))
  go_ret
  exact ⟨rfl, HE.out⟩
theorem start_any (k : Nat) (x : Int) (hk : k < n) (h : JP w S p n f) :
    Calls Try.prog 11 #[.pointer (some ⟨p, 0, none⟩), .int .i64 k, .int .i64 x] w fun r w' => r = .returned (.bool (staB (f k) x)) ∧ Mv w S p n (upd f k (staE (f k) x)) w' := by
  obtain ⟨q, c, h1, h2, h3, h4, h5⟩ := h.ex
  have CI := Lib.hid (find_in p q n c k w h2 hk)
  have CE := Lib.hid (estart_any n f w q k x hk h3 (h.fit k hk))
  have HM : Hid (∀ w', Ed w q n (upd f k (staE (f k) x)) w' → Mv w S p n (upd f k (staE (f k) x)) w') := fun w' hm => Mv.of h h1 h2 h4 h5 ((h.fit k hk).sta x) hm
  generalize upd f k (staE (f k) x) = g at CE HM ⊢
  generalize staB (f k) x = u at CE ⊢
  clear h h1 h2 h3 h4 h5
  go_enter Try.func11, Try.ntmps11
  go_wp2_with (first | (go_at_call 16; ((with_reducible refine CI.out.mono ?_); rintro e w1 ⟨rfl, rfl⟩)) | (go_at_call 19; ((with_reducible refine CE.out.mono ?_); rintro e w2 ⟨rfl, hm⟩; have HE := Lib.hid (HM.out _ hm); clear hm)))
  go_ret
  exact ⟨rfl, HE.out⟩
theorem work_any (k : Nat) (x : Int) (hk : k < n) (h : JP w S p n f) :
    Calls Try.prog 13 #[.pointer (some ⟨p, 0, none⟩), .int .i64 k, .int .i64 x] w fun r w' => r = .returned (.bool (wrkB (f k) x)) ∧ Mv w S p n (upd f k (wrkE (f k) x)) w' := by
  obtain ⟨q, c, h1, h2, h3, h4, h5⟩ := h.ex
  have CI := Lib.hid (find_in p q n c k w h2 hk)
  have CE := Lib.hid (ework_any n f w q k x hk h3 (h.fit k hk))
  have HM : Hid (∀ w', Ed w q n (upd f k (wrkE (f k) x)) w' → Mv w S p n (upd f k (wrkE (f k) x)) w') := fun w' hm => Mv.of h h1 h2 h4 h5 ((h.fit k hk).wrk x) hm
  generalize upd f k (wrkE (f k) x) = g at CE HM ⊢
  generalize wrkB (f k) x = u at CE ⊢
  clear h h1 h2 h3 h4 h5
  go_enter Try.func13, Try.ntmps13
  go_wp2_with (first | (go_at_call 16; ((with_reducible refine CI.out.mono ?_); rintro e w1 ⟨rfl, rfl⟩)) | (go_at_call 20; ((with_reducible refine CE.out.mono ?_); rintro e w2 ⟨rfl, hm⟩; have HE := Lib.hid (HM.out _ hm); clear hm)))
  go_ret
  exact ⟨rfl, HE.out⟩
theorem over_any (k : Nat) (hk : k < n) (h : JP w S p n f) :
    Calls Try.prog 14 #[.pointer (some ⟨p, 0, none⟩), .int .i64 k] w fun r w' => r = .returned (.bool ((f k).a)) ∧ Mv w S p n (upd f k (ovrE (f k))) w' := by
  obtain ⟨q, c, h1, h2, h3, h4, h5⟩ := h.ex
  have CI := Lib.hid (find_in p q n c k w h2 hk)
  have CE := Lib.hid (eover_any q n f w k hk h3)
  have HM : Hid (∀ w', Ed w q n (upd f k (ovrE (f k))) w' → Mv w S p n (upd f k (ovrE (f k))) w') := fun w' hm => Mv.of h h1 h2 h4 h5 ((h.fit k hk).ovr) hm
  generalize upd f k (ovrE (f k)) = g at CE HM ⊢
  generalize (f k).a = u at CE ⊢
  clear h h1 h2 h3 h4 h5
  go_enter Try.func14, Try.ntmps14
  go_wp2_with (first | (go_at_call 16; ((with_reducible refine CI.out.mono ?_); rintro e w1 ⟨rfl, rfl⟩)) | (go_at_call 21; ((with_reducible refine CE.out.mono ?_); rintro e w2 ⟨rfl, hm⟩; have HE := Lib.hid (HM.out _ hm); clear hm)))
  go_ret
  exact ⟨rfl, HE.out⟩
theorem next_any (k : Nat) (x : Int) (hk : k < n) (h : JP w S p n f) :
    Calls Try.prog 10 #[.pointer (some ⟨p, 0, none⟩), .int .i64 k, .int .i64 x] w fun r w' => r = .returned (.int .i64 (nxt (f k) x)) ∧ w = w' := by
  obtain ⟨q, c, h1, h2, h3, h4, h5⟩ := h.ex
  have CI := Lib.hid (find_in p q n c k w h2 hk)
  have CE := Lib.hid (enext_any q n f w k x hk h3)
  generalize nxt (f k) x = u at CE ⊢
  clear h h1 h2 h3 h4 h5
  go_enter Try.func10, Try.ntmps10
  go_wp2_with (first | (go_at_call 16; ((with_reducible refine CI.out.mono ?_); rintro e w1 ⟨rfl, rfl⟩)) | (go_at_call 18; ((with_reducible refine CE.out.mono ?_); rintro e w2 ⟨rfl, rfl⟩)))
  go_ret
  exact ⟨rfl, rfl⟩
theorem state_any (k : Nat) (hk : k < n) (h : JP w S p n f) :
    Calls Try.prog 12 #[.pointer (some ⟨p, 0, none⟩), .int .i64 k] w fun r w' => r = .returned (stv (f k)) ∧ But No w w' := by
  obtain ⟨q, c, h1, h2, h3, h4, h5⟩ := h.ex
  unfold stv
  have CI : Hid (∀ W, But No w W → Calls Try.prog 16 #[.pointer (some ⟨p, 0, none⟩), .int .i64 k] W fun r w' => r = .returned (.pointer (some ⟨q, k * 10, none⟩)) ∧ W = w') := fun W hb => find_in p q n c k W (h2.but hb (fun f => f)) hk
  have HR : Hid (∀ W, But No w W → W.cell? ⟨q, k * 10 + 4, none⟩ = some (.bool (f k).a) ∧ W.cell? ⟨q, k * 10 + 4 + 1, none⟩ = some (.int .i64 (f k).r) ∧ W.cell? ⟨q, k * 10 + 4 + 2, none⟩ = some (.int .i64 (f k).m) ∧ W.cell? ⟨q, k * 10 + 4 + 3, none⟩ = some (.int .i64 (f k).n) ∧ W.cell? ⟨q, k * 10 + 4 + 4, none⟩ = some (.bool (f k).c)) := fun W hb =>
    ⟨(h3.no hb).at_ hk (o := 4) (by omega), (h3.no hb).at_ hk (o := 5) (by omega), (h3.no hb).at_ hk (o := 6) (by omega), (h3.no hb).at_ hk (o := 7) (by omega), (h3.no hb).at_ hk (o := 8) (by omega)⟩
  generalize (f k).a = a at HR ⊢
  generalize (f k).r = r at HR ⊢
  generalize (f k).m = m at HR ⊢
  generalize (f k).n = y at HR ⊢
  generalize (f k).c = u at HR ⊢
  have hlt : q < w.heap.size := h3.lt
  have HB1 : Hid (But No w (w.alloc (.cells #[.bool false, .int .i64 0, .int .i64 0, .int .i64 0, .bool false] 35))) := (But.refl _ _).alloc _
  obtain ⟨c4, c5, c6, c7, c8⟩ := HR.out _ (But.refl No w)
  clear h h1 h2 h3 h4 h5 HR
  go_enter Try.func12, Try.ntmps12
  go_wp2_with (first | (go_at_call 16; ((with_reducible refine (CI.out _ HB1.out).mono ?_); rintro e w1 ⟨rfl, rfl⟩)))
  have hk := Blk.new w #[.bool a, .int .i64 r, .int .i64 m, .int .i64 y, .bool u] 35
  have k0 := hk.cell (o := 0) rfl
  have k1 := hk.cell (o := 1) rfl
  have k2 := hk.cell (o := 2) rfl
  have k3 := hk.cell (o := 3) rfl
  have k4 := hk.cell (o := 4) rfl
  refine bodyPost_ret (v := .agg #[.bool a, .int .i64 r, .int .i64 m, .int .i64 y, .bool u]) (by simp [results, Try.results12, go_sem, k0, k1, k2, k3, k4]) rfl ?_
  exact ⟨rfl, (But.refl _ _).alloc _⟩
end
end Go.Proofs.Ytekgnofmldpifaa
