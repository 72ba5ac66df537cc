/- Contracts of arriving, after, and of an entry's start, work and over. -/
import Derived.Test.YtekgnofmldpifaaC1
namespace Go.Proofs.Ytekgnofmldpifaa
open Go.ChangeShapes Go.WideShapes Go.ChangeAt Go.RowKit Go.Deep
def newSt (now W d : Int) : Value := .agg #[.bool true, .int .i64 now, .int .i64 (if d < W then d else W), .int .i64 0, .bool (decide (W < d))]
theorem arriving_any (P W now d : Int) (w : World) :
    Calls Try.prog 23 #[.agg #[.int .i64 P, .int .i64 W], .int .i64 now, .int .i64 d] w fun r w' => r = .returned (newSt now W d) ∧ But No w w' := by
  have HV : Hid (newSt now W d = .agg #[.bool true, .int .i64 now, .int .i64 (if d < W then d else W), .int .i64 0, .bool (decide (W < d))]) := rfl
  by_cases h1 : d < W
  · have b1 : decide (W < d) = false := by simp; omega
    rw [if_pos h1, b1] at HV
    rw [HV.out]
    have n1 : ¬ W < d := by omega
    go_enter Try.func23, Try.ntmps23
    go_wp2
    have hk := blk2 w (.cells #[.int .i64 P, .int .i64 W] 46) #[.bool true, .int .i64 now, .int .i64 d, .int .i64 0, .bool false] 35
    have k0 := hk.cell (o := 0) rfl
    have k1 := hk.cell (o := 1) rfl
    have k2 := hk.cell (o := 2) rfl
    have k3 := hk.cell (o := 3) rfl
    have k4 := hk.cell (o := 4) rfl
    refine bodyPost_ret (v := .agg #[.bool true, .int .i64 now, .int .i64 d, .int .i64 0, .bool false]) (by simp [results, Try.results23, go_sem, k0, k1, k2, k3, k4]) rfl ?_
    exact ⟨rfl, ((But.refl _ _).alloc _).alloc _⟩
  · rw [if_neg h1] at HV
    by_cases h2 : W < d
    · have b1 : decide (W < d) = true := by simpa using h2
      rw [b1] at HV
      rw [HV.out]
      go_enter Try.func23, Try.ntmps23
      go_wp2
      have hk := blk2 w (.cells #[.int .i64 P, .int .i64 W] 46) #[.bool true, .int .i64 now, .int .i64 W, .int .i64 0, .bool true] 35
      have k0 := hk.cell (o := 0) rfl
      have k1 := hk.cell (o := 1) rfl
      have k2 := hk.cell (o := 2) rfl
      have k3 := hk.cell (o := 3) rfl
      have k4 := hk.cell (o := 4) rfl
      refine bodyPost_ret (v := .agg #[.bool true, .int .i64 now, .int .i64 W, .int .i64 0, .bool true]) (by simp [results, Try.results23, go_sem, k0, k1, k2, k3, k4]) rfl ?_
      exact ⟨rfl, ((But.refl _ _).alloc _).alloc _⟩
    · obtain rfl : d = W := by omega
      have b1 : decide (d < d) = false := by simp
      rw [b1] at HV
      rw [HV.out]
      go_enter Try.func23, Try.ntmps23
      go_wp2
      have hk := blk2 w (.cells #[.int .i64 P, .int .i64 d] 46) #[.bool true, .int .i64 now, .int .i64 d, .int .i64 0, .bool false] 35
      have k0 := hk.cell (o := 0) rfl
      have k1 := hk.cell (o := 1) rfl
      have k2 := hk.cell (o := 2) rfl
      have k3 := hk.cell (o := 3) rfl
      have k4 := hk.cell (o := 4) rfl
      refine bodyPost_ret (v := .agg #[.bool true, .int .i64 now, .int .i64 d, .int .i64 0, .bool false]) (by simp [results, Try.results23, go_sem, k0, k1, k2, k3, k4]) rfl ?_
      exact ⟨rfl, ((But.refl _ _).alloc _).alloc _⟩
theorem after_any (P W now : Int) (w : World) (h0 : 0 ≤ now) (h1 : now ≤ 9007199254740991) (h2 : 1 ≤ P) (h3 : P ≤ 1099511627776) :
    Calls Try.prog 24 #[.agg #[.int .i64 P, .int .i64 W], .int .i64 now] w fun r w' => r = .returned (.int .i64 (now + P)) ∧ But No w w' := by
  go_enter Try.func24, Try.ntmps24
  go_wp2
  go_ret
  exact ⟨rfl, (But.refl _ _).alloc _⟩
section
variable (q n : Nat) (f : Nat → En) (w : World)
theorem eover_any (k : Nat) (hk : k < n) (h : Rw w q n f) :
    Calls Try.prog 21 #[.pointer (some ⟨q, k * 10, none⟩)] w fun r w' => r = .returned (.bool (f k).a) ∧ Ed w q n (upd f k (ovrE (f k))) w' := by
  have c4 : w.cell? ⟨q, k * 10 + 4, none⟩ = some (.bool (f k).a) := h.at_ hk (o := 4) (by omega)
  have c5 : w.cell? ⟨q, k * 10 + 4 + 1, none⟩ = some (.int .i64 (f k).r) := h.at_ hk (o := 5) (by omega)
  have c6 : w.cell? ⟨q, k * 10 + 4 + 2, none⟩ = some (.int .i64 (f k).m) := h.at_ hk (o := 6) (by omega)
  have c7 : w.cell? ⟨q, k * 10 + 4 + 3, none⟩ = some (.int .i64 (f k).n) := h.at_ hk (o := 7) (by omega)
  have c8 : w.cell? ⟨q, k * 10 + 4 + 4, none⟩ = some (.bool (f k).c) := h.at_ hk (o := 8) (by omega)
  have f4 : w.frozen? ⟨q, k * 10 + 4, none⟩ = false := h.frozen _
  have f5 : w.frozen? ⟨q, k * 10 + 4 + 1, none⟩ = false := h.frozen _
  have f6 : w.frozen? ⟨q, k * 10 + 4 + 2, none⟩ = false := h.frozen _
  have f7 : w.frozen? ⟨q, k * 10 + 4 + 3, none⟩ = false := h.frozen _
  have f8 : w.frozen? ⟨q, k * 10 + 4 + 4, none⟩ = false := h.frozen _
  have HR : Hid (Rw (((((w.setCell ⟨q, k * 10 + 4, none⟩ (.bool false)).setCell ⟨q, k * 10 + 4 + 1, none⟩ (.int .i64 0)).setCell ⟨q, k * 10 + 4 + 2, none⟩ (.int .i64 0)).setCell ⟨q, k * 10 + 4 + 3, none⟩ (.int .i64 0)).setCell ⟨q, k * 10 + 4 + 4, none⟩ (.bool false)) q n (upd f k (ovrE (f k)))) :=
    Rw.setS (e := f k) (by rw [upd_self]; exact h) hk false 0 0 0 false
  generalize upd f k (ovrE (f k)) = g at HR ⊢
  generalize (f k).a = a at c4 ⊢
  clear h
  go_enter Try.func21, Try.ntmps21
  go_wp2
  go_ret
  exact ⟨rfl, HR.out, ((((((But.refl _ _).setCell (p := ⟨q, _, none⟩) (just q) _).setCell (p := ⟨q, _, none⟩) (just q) _).setCell (p := ⟨q, _, none⟩) (just q) _).setCell (p := ⟨q, _, none⟩) (just q) _).setCell (p := ⟨q, _, none⟩) (just q) _)⟩
theorem ework_no (k : Nat) (x : Int) (hk : k < n) (h : Rw w q n f) (hb : wrkB (f k) x = false) :
    Calls Try.prog 20 #[.pointer (some ⟨q, k * 10, none⟩), .int .i64 x] w fun r w' => r = .returned (.bool false) ∧ ∃ j, w' = w.drewN j := by
  have c4 : w.cell? ⟨q, k * 10 + 4, none⟩ = some (.bool (f k).a) := h.at_ hk (o := 4) (by omega)
  have c6 : w.cell? ⟨q, k * 10 + 6, none⟩ = some (.int .i64 (f k).m) := h.at_ hk (o := 6) (by omega)
  have c7 : w.cell? ⟨q, k * 10 + 7, none⟩ = some (.int .i64 (f k).n) := h.at_ hk (o := 7) (by omega)
  have c9 : w.cell? ⟨q, k * 10 + 9, none⟩ = some (.int .i64 (f k).k) := h.at_ hk (o := 9) (by omega)
  have CT := Lib.hid (fun j => (isTick_any x (w.drewN j)).mono (fun _ _ h => (⟨h.1, h.2.symm⟩ : _ ∧ _)))
  clear h
  have HW : Hid (¬ (isT x = true ∧ (f k).a = true ∧ (f k).n ≠ (f k).m ∧ (f k).k ≠ x)) := by
    show ¬ _; unfold wrkB at hb; exact of_decide_eq_false hb
  clear hb
  cases ht : isT x with
  | false =>
    rw [ht] at CT
    clear ht HW
    go_enter Try.func20, Try.ntmps20
    go_wp2_with fail
    go_quiet ((go_at_call 22; exact Calls.quiet_of_same (CT.out _)))
    go_wp2
    go_ret
    exact ⟨rfl, ⟨_, rfl⟩⟩
  | true =>
    rw [ht] at CT
    cases ha : (f k).a with
    | false =>
      rw [ha] at c4
      clear ht HW ha
      go_enter Try.func20, Try.ntmps20
      go_wp2_with fail
      go_quiet ((go_at_call 22; exact Calls.quiet_of_same (CT.out _)))
      go_wp2
      go_ret
      exact ⟨rfl, ⟨_, rfl⟩⟩
    | true =>
      rw [ha] at c4
      by_cases hn : (f k).n = (f k).m
      · rw [hn] at c7
        generalize (f k).m = m at c6 c7
        have b1 : (m == m) = true := by simp
        clear ht HW ha hn
        go_enter Try.func20, Try.ntmps20
        go_wp2_with fail
        go_quiet ((go_at_call 22; exact Calls.quiet_of_same (CT.out _)))
        go_wp2
        go_ret
        exact ⟨rfl, ⟨_, rfl⟩⟩
      · have hkx : (f k).k = x := Classical.byContradiction fun hne => HW.out ⟨ht, ha, hn, hne⟩
        rw [hkx] at c9
        have b1 : ((f k).n == (f k).m) = false := by simpa using hn
        have b2 : (x == x) = true := by simp
        generalize (f k).m = m at c6 b1
        generalize (f k).n = y at c7 b1
        clear ht HW ha hn hkx
        go_enter Try.func20, Try.ntmps20
        go_wp2_with fail
        go_quiet ((go_at_call 22; exact Calls.quiet_of_same (CT.out _)))
        go_wp2
        go_ret
        exact ⟨rfl, ⟨_, rfl⟩⟩
theorem ework_yes (k : Nat) (x : Int) (hk : k < n) (h : Rw w q n f) (hf : Fit (f k)) (hb : wrkB (f k) x = true) :
    Calls Try.prog 20 #[.pointer (some ⟨q, k * 10, none⟩), .int .i64 x] w fun r w' => r = .returned (.bool true) ∧ Ed w q n (upd f k (wrkE (f k) x)) w' := by
  have c4 : w.cell? ⟨q, k * 10 + 4, none⟩ = some (.bool (f k).a) := h.at_ hk (o := 4) (by omega)
  have c6 : w.cell? ⟨q, k * 10 + 6, none⟩ = some (.int .i64 (f k).m) := h.at_ hk (o := 6) (by omega)
  have c7 : w.cell? ⟨q, k * 10 + 7, none⟩ = some (.int .i64 (f k).n) := h.at_ hk (o := 7) (by omega)
  have c9 : w.cell? ⟨q, k * 10 + 9, none⟩ = some (.int .i64 (f k).k) := h.at_ hk (o := 9) (by omega)
  have f7 : w.frozen? ⟨q, k * 10 + 7, none⟩ = false := h.frozen _
  have f9 : w.frozen? ⟨q, k * 10 + 9, none⟩ = false := h.frozen _
  have CT := Lib.hid (fun j => (isTick_any x (w.drewN j)).mono (fun _ _ h => (⟨h.1, h.2.symm⟩ : _ ∧ _)))
  have hW : isT x = true ∧ (f k).a = true ∧ (f k).n ≠ (f k).m ∧ (f k).k ≠ x := by
    unfold wrkB at hb; exact of_decide_eq_true hb
  obtain ⟨ht, ha, hn, hx⟩ := hW
  rw [ht] at CT
  rw [ha] at c4
  have b1 : ((f k).n == (f k).m) = false := by simpa using hn
  have b2 : ((f k).k == x) = false := by simpa using hx
  have HR : Hid (∀ j, Rw (((w.drewN j).setCell ⟨q, k * 10 + 7, none⟩ (.int .i64 ((f k).n + 1))).setCell ⟨q, k * 10 + 9, none⟩ (.int .i64 x)) q n (upd f k (wrkE (f k) x))) := by
    intro j
    have h' : Rw (w.drewN j) q n (upd f k (f k)) := by rw [upd_self]; exact h.no ((But.refl _ _).drewN j)
    have := (h'.setN hk ((f k).n + 1)).setK hk x
    have e : wrkE (f k) x = { f k with n := (f k).n + 1, k := x } := by unfold wrkE; rw [hb]; rfl
    rw [e]; exact this
  have n0 := hf.n0
  have n9 : (f k).n ≤ 1099511627776 := by have := hf.nm; have := hf.mW; have := hf.W1; omega
  generalize upd f k (wrkE (f k) x) = g at HR ⊢
  generalize (f k).m = m at c6 b1
  generalize (f k).n = y at c7 b1 HR n0 n9
  generalize (f k).k = z at c9 b2
  clear h hn hx ha ht hb hf
  go_enter Try.func20, Try.ntmps20
  go_wp2_with fail
  go_quiet ((go_at_call 22; exact Calls.quiet_of_same (CT.out _)))
  go_wp2
  go_ret
  exact ⟨rfl, HR.out _, ((((But.refl _ _).drewN _).setCell (p := ⟨q, _, none⟩) (just q) _).setCell (p := ⟨q, _, none⟩) (just q) _)⟩
end
end Go.Proofs.Ytekgnofmldpifaa
