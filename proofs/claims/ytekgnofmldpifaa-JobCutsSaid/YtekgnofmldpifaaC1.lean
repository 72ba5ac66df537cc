/- Contracts of isTime, isTick, find, and of an entry's ask and next. -/
import Derived.Test.YtekgnofmldpifaaM
namespace Go.Proofs.Ytekgnofmldpifaa
open Go.ChangeShapes Go.WideShapes Go.ChangeAt Go.RowKit Go.Deep
theorem isTime_any (n : Int) (w : World) : Calls Try.prog 15 #[.int .i64 n] w fun r w' => r = .returned (.bool (decide (1 ≤ n ∧ n ≤ 1099511627776))) ∧ w = w' := by
  by_cases h : 1 ≤ n
  · have b1 : decide (1 ≤ n) = true := by simpa using h
    by_cases h2 : n ≤ 1099511627776
    · have b2 : decide (n ≤ 1099511627776) = true := by simpa using h2
      have HE : Hid (decide (1 ≤ n ∧ n ≤ 1099511627776) = true) := by show _ = _; simp; omega
      clear h h2
      go_enter Try.func15, Try.ntmps15
      go_wp2
      go_ret
      exact ⟨by rw [HE.out]; rfl, rfl⟩
    · have b2 : decide (n ≤ 1099511627776) = false := by simp; omega
      have HE : Hid (decide (1 ≤ n ∧ n ≤ 1099511627776) = false) := by show _ = _; simp; omega
      clear h h2
      go_enter Try.func15, Try.ntmps15
      go_wp2
      go_ret
      exact ⟨by rw [HE.out]; rfl, rfl⟩
  · have b1 : decide (1 ≤ n) = false := by simp; omega
    have HE : Hid (decide (1 ≤ n ∧ n ≤ 1099511627776) = false) := by show _ = _; simp; omega
    clear h
    go_enter Try.func15, Try.ntmps15
    go_wp2
    go_ret
    exact ⟨by rw [HE.out]; rfl, rfl⟩
theorem isTick_any (n : Int) (w : World) : Calls Try.prog 22 #[.int .i64 n] w fun r w' => r = .returned (.bool (isT n)) ∧ w = w' := by
  unfold isT
  by_cases h : 0 ≤ n
  · have b1 : decide (0 ≤ n) = true := by simpa using h
    by_cases h2 : n ≤ 9007199254740991
    · have b2 : decide (n ≤ 9007199254740991) = true := by simpa using h2
      have HE : Hid (decide (0 ≤ n ∧ n ≤ 9007199254740991) = true) := by show _ = _; simp; omega
      clear h h2
      go_enter Try.func22, Try.ntmps22
      go_wp2
      go_ret
      exact ⟨by rw [HE.out]; rfl, rfl⟩
    · have b2 : decide (n ≤ 9007199254740991) = false := by simp; omega
      have HE : Hid (decide (0 ≤ n ∧ n ≤ 9007199254740991) = false) := by show _ = _; simp; omega
      clear h h2
      go_enter Try.func22, Try.ntmps22
      go_wp2
      go_ret
      exact ⟨by rw [HE.out]; rfl, rfl⟩
  · have b1 : decide (0 ≤ n) = false := by simp; omega
    have HE : Hid (decide (0 ≤ n ∧ n ≤ 9007199254740991) = false) := by show _ = _; simp; omega
    clear h
    go_enter Try.func22, Try.ntmps22
    go_wp2
    go_ret
    exact ⟨by rw [HE.out]; rfl, rfl⟩
theorem find_in (p q n c k : Nat) (w : World) (h : Blk w p #[.slice (some ⟨q, 0, none⟩) n c] 50) (hk : k < n) :
    Calls Try.prog 16 #[.pointer (some ⟨p, 0, none⟩), .int .i64 k] w fun r w' => r = .returned (.pointer (some ⟨q, k * 10, none⟩)) ∧ w = w' := by
  have c3 : w.cell? ⟨p, 0, none⟩ = some (.slice (some ⟨q, 0, none⟩) n c) := h.cell (o := 0) rfl
  have b1 : decide ((k : Int) < 0) = false := by simp
  have b2 : decide ((n : Int) ≤ (k : Int)) = false := by simp; omega
  have kn' : (k : Int) < (n : Int) := by omega
  clear h
  go_enter Try.func16, Try.ntmps16
  go_wp2
  go_ret
  exact ⟨by simp, rfl⟩
theorem find_out (p q n c : Nat) (k : Int) (w : World) (h : Blk w p #[.slice (some ⟨q, 0, none⟩) n c] 50) (hk : k < 0 ∨ n ≤ k) :
    Calls Try.prog 16 #[.pointer (some ⟨p, 0, none⟩), .int .i64 k] w fun r w' => r = .returned (.pointer none) ∧ w = w' := by
  have c3 : w.cell? ⟨p, 0, none⟩ = some (.slice (some ⟨q, 0, none⟩) n c) := h.cell (o := 0) rfl
  clear h
  by_cases h0 : k < 0
  · have b1 : decide (k < 0) = true := by simpa using h0
    go_enter Try.func16, Try.ntmps16
    go_wp2
    go_ret
    exact ⟨rfl, rfl⟩
  · have b1 : decide (k < 0) = false := by simpa using h0
    have b2 : decide ((n : Int) ≤ k) = true := by simp; omega
    go_enter Try.func16, Try.ntmps16
    go_wp2
    go_ret
    exact ⟨rfl, rfl⟩
section
variable (q n : Nat) (f : Nat → En) (w : World)
/-- What a call on one entry leaves. -/
def Ed (w : World) (q n : Nat) (f : Nat → En) (w' : World) : Prop := Rw w' q n f ∧ But (Just q) w w'
theorem eask_any (k : Nat) (x : Int) (hk : k < n) (h : Rw w q n f) :
    Calls Try.prog 17 #[.pointer (some ⟨q, k * 10, none⟩), .int .i64 x] w fun r w' => r = .returned (.bool (askB (f k) x)) ∧ Ed w q n (upd f k (askE (f k) x)) w' := by
  have c2 : w.cell? ⟨q, k * 10 + 2, none⟩ = some (.int .i64 (f k).d) := h.at_ hk (o := 2) (by omega)
  have fz : w.frozen? ⟨q, k * 10 + 2, none⟩ = false := h.frozen _
  by_cases hx : x < 1
  · have b1 : decide (x < 1) = true := by simpa using hx
    have HB : Hid (askB (f k) x = false) := by show _ = _; unfold askB; simp; omega
    have HE : Hid (askE (f k) x = f k) := by show _ = _; unfold askE; rw [HB.out]; rfl
    have HR := Lib.hid h
    clear h hx
    go_enter Try.func17, Try.ntmps17
    go_wp2
    go_ret
    refine ⟨by rw [HB.out]; rfl, ?_⟩
    rw [HE.out, upd_self]
    exact ⟨HR.out, But.refl _ _⟩
  · have b1 : decide (x < 1) = false := by simpa using hx
    by_cases hd : 0 < (f k).d
    · have b2 : decide (0 < (f k).d) = true := by simpa using hd
      have HB : Hid (askB (f k) x = false) := by show _ = _; unfold askB; simp; omega
      have HE : Hid (askE (f k) x = f k) := by show _ = _; unfold askE; rw [HB.out]; rfl
      have HR := Lib.hid h
      clear h hx hd
      go_enter Try.func17, Try.ntmps17
      go_wp2
      go_ret
      refine ⟨by rw [HB.out]; rfl, ?_⟩
      rw [HE.out, upd_self]
      exact ⟨HR.out, But.refl _ _⟩
    · have b2 : decide (0 < (f k).d) = false := by simpa using hd
      have HB : Hid (askB (f k) x = true) := by show _ = _; unfold askB; simp; omega
      have HE : Hid (askE (f k) x = { f k with d := x }) := by show _ = _; unfold askE; rw [HB.out]; rfl
      have HR : Hid (Rw (w.setCell ⟨q, k * 10 + 2, none⟩ (.int .i64 x)) q n (upd f k { f k with d := x })) :=
        Rw.setD (e := f k) (by rw [upd_self]; exact h) hk x
      clear h hx hd
      go_enter Try.func17, Try.ntmps17
      go_wp2
      go_ret
      refine ⟨by rw [HB.out]; rfl, ?_⟩
      rw [HE.out]
      exact ⟨HR.out, (But.refl _ _).setCell (just q) _⟩
theorem enext_any (k : Nat) (x : Int) (hk : k < n) (h : Rw w q n f) :
    Calls Try.prog 18 #[.pointer (some ⟨q, k * 10, none⟩), .int .i64 x] w fun r w' => r = .returned (.int .i64 (nxt (f k) x)) ∧ w = w' := by
  have c2 : w.cell? ⟨q, k * 10 + 2, none⟩ = some (.int .i64 (f k).d) := h.at_ hk (o := 2) (by omega)
  have c3 : w.cell? ⟨q, k * 10 + 3, none⟩ = some (.int .i64 (f k).f) := h.at_ hk (o := 3) (by omega)
  have c4 : w.cell? ⟨q, k * 10 + 4, none⟩ = some (.bool (f k).a) := h.at_ hk (o := 4) (by omega)
  have CT := Lib.hid (isTick_any x w)
  clear h
  cases ht : isT x with
  | false =>
    rw [ht] at CT
    have HE : Hid (nxt (f k) x = -1) := by show _ = _; unfold nxt; rw [ht]; simp
    clear ht
    go_enter Try.func18, Try.ntmps18
    go_wp2_with (go_at_call 22; refine CT.out.mono ?_; rintro e w1 ⟨rfl, rfl⟩)
    go_ret
    exact ⟨by rw [HE.out]; rfl, rfl⟩
  | true =>
    rw [ht] at CT
    by_cases hd : (f k).d = 0
    · have HE : Hid (nxt (f k) x = -1) := by show _ = _; unfold nxt; simp [hd]
      rw [hd] at c2
      clear ht
      go_enter Try.func18, Try.ntmps18
      go_wp2_with (go_at_call 22; refine CT.out.mono ?_; rintro e w1 ⟨rfl, rfl⟩)
      go_ret
      exact ⟨by rw [HE.out]; rfl, rfl⟩
    · have b2 : ((f k).d == 0) = false := by simpa using hd
      cases ha : (f k).a with
      | true =>
        have HE : Hid (nxt (f k) x = -1) := by show _ = _; unfold nxt; simp [ha]
        rw [ha] at c4
        clear ht hd ha
        go_enter Try.func18, Try.ntmps18
        go_wp2_with (go_at_call 22; refine CT.out.mono ?_; rintro e w1 ⟨rfl, rfl⟩)
        go_ret
        exact ⟨by rw [HE.out]; rfl, rfl⟩
      | false =>
        have HE : Hid (nxt (f k) x = if x < (f k).f then (f k).f else x) := by show _ = _; unfold nxt; simp [ha, ht, hd]
        rw [ha] at c4
        clear ht hd ha
        go_enter Try.func18, Try.ntmps18
        go_wp2_with (go_at_call 22; refine CT.out.mono ?_; rintro e w1 ⟨rfl, rfl⟩)
        all_goals go_ret
        all_goals exact ⟨by rw [HE.out]; split <;> first | rfl | (exfalso; omega), rfl⟩
end
end Go.Proofs.Ytekgnofmldpifaa
