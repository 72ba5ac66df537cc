/- The contracts of Has, With and Without. -/
import Derived.Test.YtgocjgipigjhbaaC1
namespace Go.Proofs.Ytgocjgipigjhbaa
open Go.ChangeShapes Go.WideShapes Go.ChangeAt Go.RowKit
/-- A set as a value. -/
abbrev sv (s : Q) : Value := .agg #[.int .u64 s.a, .int .u64 s.b, .int .u64 s.c, .int .u64 s.d]
abbrev cells4 (s : Q) : Array Value := #[.int .u64 s.a, .int .u64 s.b, .int .u64 s.c, .int .u64 s.d]
def Q.hasI (s : Q) (i : Int) : Bool := decide (0 ≤ i) && decide (i < 256) && s.has i.toNat
theorem has_bit (x r : Nat) : decide (x &&& 2 ^ r ≠ 0) = x.testBit r := by
  have h : ∀ j, (x &&& 2 ^ r).testBit j = (x.testBit j && decide (r = j)) := fun j => by rw [Nat.testBit_and, Nat.testBit_two_pow]
  by_cases e : x.testBit r = true
  · rw [e, decide_eq_true_iff]
    intro h0
    have := h r
    rw [h0, e] at this
    simp at this
  · have e' : x.testBit r = false := by simpa using e
    rw [e', decide_eq_false_iff_not]
    intro h0
    apply h0
    apply Nat.eq_of_testBit_eq
    intro j
    rw [h j]
    by_cases c : r = j
    · subst c; simp [e']
    · simp [c]
theorem has_word (x r : Nat) (hx : x < 18446744073709551616) (hr : r < 64) : bits .and .u64 (x : Int) ((2 ^ r : Nat) : Int) = ((x &&& 2 ^ r : Nat) : Int) := u64_and_nat x (2 ^ r) hx (two_pow_lt hr)
theorem has_test (x r : Nat) (hx : x < 18446744073709551616) (hr : r < 64) : (bits .and .u64 (x : Int) ((2 ^ r : Nat) : Int) != 0) = x.testBit r := by
  rw [has_word x r hx hr, ← has_bit]
  by_cases h : x &&& 2 ^ r = 0
  · simp [h]
  · simp only [ne_eq, h, not_false_eq_true, decide_true, bne_iff_ne]; omega
set_option maxHeartbeats 1000000 in
theorem has_yes (s : Q) (i : Nat) (w : World) (hs : s.ok) (hi : i < 256) : Calls Try.prog 13 #[sv s, .int .i64 i] w fun e w' => e = .returned (.bool (s.has i)) ∧ But No w w' := by
  have ha := hs.a
  have hb := hs.b
  have hc := hs.c
  have hd := hs.d
  have HT : Hid (∀ x : Nat, x < 18446744073709551616 → (bits .and .u64 (x : Int) ((2 ^ (i % 64) : Nat) : Int) != 0) = x.testBit (i % 64)) := fun x hx => has_test x (i % 64) hx (by omega)
  have CW : Hid (∀ w, Calls Try.prog 24 #[.int .i64 i] w fun e w' => e = .returned (.int .i64 ((i / 64 : Nat) : Int)) ∧ w' = w) := fun w => (word_any i w hi).mono fun _ _ ⟨he, hw⟩ => ⟨he, hw.symm⟩
  have CB : Hid (∀ w, Calls Try.prog 25 #[.int .i64 i] w fun e w' => e = .returned (.int .u64 ((2 ^ (i % 64) : Nat) : Int)) ∧ w' = w) := fun w => (bit_any i w hi).mono fun _ _ ⟨he, hw⟩ => ⟨he, hw.symm⟩
  obtain ⟨k, hk⟩ : ∃ k, i / 64 = k := ⟨_, rfl⟩
  have hk4 : k < 4 := by omega
  have HK := Lib.hid hk
  rw [hk] at CW
  clear hk
  generalize 2 ^ (i % 64) = m at HT CB
  go_enter Try.func13, Try.ntmps13
  go_wp2_with (first | (go_at_call 23; (with_reducible refine (level_yes _ _ (by omega) (by omega)).mono ?_); rintro e w' ⟨rfl, rfl⟩))
  match k, hk4 with
  | 0, _ =>
    go_quiet ((first | (go_at_call 24; exact Calls.quiet_of_same (CW.out _)) | (go_at_call 25; exact Calls.quiet_of_same (CB.out _))))
    go_wp2
    go_ret
    exact ⟨ret_bool (by rw [HT.out _ ha]; unfold Q.has; rw [HK.out]; rfl), ((But.refl _ _).alloc _).drewN _⟩
  | 1, _ =>
    go_quiet ((first | (go_at_call 24; exact Calls.quiet_of_same (CW.out _)) | (go_at_call 25; exact Calls.quiet_of_same (CB.out _))))
    go_wp2
    go_ret
    exact ⟨ret_bool (by rw [HT.out _ hb]; unfold Q.has; rw [HK.out]; rfl), ((But.refl _ _).alloc _).drewN _⟩
  | 2, _ =>
    go_quiet ((first | (go_at_call 24; exact Calls.quiet_of_same (CW.out _)) | (go_at_call 25; exact Calls.quiet_of_same (CB.out _))))
    go_wp2
    go_ret
    exact ⟨ret_bool (by rw [HT.out _ hc]; unfold Q.has; rw [HK.out]; rfl), ((But.refl _ _).alloc _).drewN _⟩
  | 3, _ =>
    go_quiet ((first | (go_at_call 24; exact Calls.quiet_of_same (CW.out _)) | (go_at_call 25; exact Calls.quiet_of_same (CB.out _))))
    go_wp2
    go_ret
    exact ⟨ret_bool (by rw [HT.out _ hd]; unfold Q.has; rw [HK.out]; rfl), ((But.refl _ _).alloc _).drewN _⟩
set_option maxHeartbeats 1000000 in
theorem has_no (s : Q) (i : Int) (w : World) (hi : i < 0 ∨ 256 ≤ i) : Calls Try.prog 13 #[sv s, .int .i64 i] w fun e w' => e = .returned (.bool false) ∧ But No w w' := by
  have CL : Hid (∀ w, Calls Try.prog 23 #[.int .i64 i] w fun e w' => e = .returned (.bool false) ∧ w = w') := fun w => level_no i w hi
  clear hi
  go_enter Try.func13, Try.ntmps13
  go_wp2_with (first | (go_at_call 23; (with_reducible refine (CL.out _).mono ?_); rintro e w' ⟨rfl, rfl⟩))
  go_ret
  exact ⟨rfl, (But.refl _ _).alloc _⟩
theorem has_any (s : Q) (i : Int) (w : World) (hs : s.ok) : Calls Try.prog 13 #[sv s, .int .i64 i] w fun e w' => e = .returned (.bool (s.hasI i)) ∧ But No w w' := by
  by_cases h0 : 0 ≤ i
  · by_cases h1 : i < 256
    · obtain ⟨n, rfl⟩ : ∃ n : Nat, i = n := ⟨i.toNat, by omega⟩
      refine (has_yes s n w hs (by omega)).mono fun e w' ⟨he, hw⟩ => ⟨?_, hw⟩
      rw [he]
      exact ret_bool (by unfold Q.hasI; simp [h1])
    · refine (has_no s i w (by omega)).mono fun e w' ⟨he, hw⟩ => ⟨?_, hw⟩
      rw [he]
      exact ret_bool (by unfold Q.hasI; simp [h1])
  · refine (has_no s i w (by omega)).mono fun e w' ⟨he, hw⟩ => ⟨?_, hw⟩
    rw [he]
    exact ret_bool (by unfold Q.hasI; simp [h0])
theorem two_new (w : World) (s : Q) : ∃ w1, (w.alloc (.cells #[.int .u64 s.a, .int .u64 s.b, .int .u64 s.c, .int .u64 s.d] 26)).alloc (.cells #[.int .u64 0, .int .u64 0, .int .u64 0, .int .u64 0] 26) = w1 ∧ But No w w1 ∧
    Blk w1 w.heap.size (cells4 s) 26 ∧ Blk w1 (w.heap.size + 1) #[.int .u64 0, .int .u64 0, .int .u64 0, .int .u64 0] 26 := by
  refine ⟨_, rfl, ((But.refl _ _).alloc _).alloc _, (Blk.new w _ _).but (S := No) ((But.refl _ _).alloc _) (fun f => f), ?_⟩
  have := Blk.new (w.alloc (.cells #[.int .u64 s.a, .int .u64 s.b, .int .u64 s.c, .int .u64 s.d] 26)) #[.int .u64 0, .int .u64 0, .int .u64 0, .int .u64 0] 26
  simpa using this
set_option maxHeartbeats 2000000 in
theorem with_yes (s : Q) (i : Nat) (w : World) (hs : s.ok) (hi : i < 256) : Calls Try.prog 18 #[sv s, .int .i64 i] w fun e w' => e = .returned (sv (s.with_ i)) ∧ But No w w' := by
  have ha := hs.a
  have hb := hs.b
  have hc := hs.c
  have hd := hs.d
  have HT : Hid (∀ x : Nat, x < 18446744073709551616 → (bits .or .u64 (x : Int) ((2 ^ (i % 64) : Nat) : Int)) = ((x ||| 2 ^ (i % 64) : Nat) : Int)) := fun x hx => u64_or_nat x _ hx (two_pow_lt (by omega))
  have CW : Hid (∀ w, Calls Try.prog 24 #[.int .i64 i] w fun e w' => e = .returned (.int .i64 ((i / 64 : Nat) : Int)) ∧ w' = w) := fun w => (word_any i w hi).mono fun _ _ ⟨he, hw⟩ => ⟨he, hw.symm⟩
  have CB : Hid (∀ w, Calls Try.prog 25 #[.int .i64 i] w fun e w' => e = .returned (.int .u64 ((2 ^ (i % 64) : Nat) : Int)) ∧ w' = w) := fun w => (bit_any i w hi).mono fun _ _ ⟨he, hw⟩ => ⟨he, hw.symm⟩
  obtain ⟨k, hk⟩ : ∃ k, i / 64 = k := ⟨_, rfl⟩
  have hk4 : k < 4 := by omega
  have HK := Lib.hid hk
  rw [hk] at CW
  clear hk
  obtain ⟨m, hm⟩ : ∃ m, 2 ^ (i % 64) = m := ⟨_, rfl⟩
  rw [hm] at HT CB
  have HM := Lib.hid hm
  clear hm
  obtain ⟨w1, hw1, hb1, hp, hq⟩ := two_new w s
  have HW1 := Lib.hid hw1
  have HB1 := Lib.hid hb1
  have c0 := hp.cell (o := 0) rfl
  have c1 := hp.cell (o := 1) rfl
  have c2 := hp.cell (o := 2) rfl
  have c3 := hp.cell (o := 3) rfl
  have d0 := hq.cell (o := 0) rfl
  have d1 := hq.cell (o := 1) rfl
  have d2 := hq.cell (o := 2) rfl
  have d3 := hq.cell (o := 3) rfl
  have fp := hp.frozen
  have f0 := hq.frozen 0
  have f1 := hq.frozen 1
  have f2 := hq.frozen 2
  have f3 := hq.frozen 3
  clear hw1 hb1 hp hq
  match k, hk4 with
  | 0, _ =>
    have fk := fp 0
    clear fp
    have HE : Hid (s.with_ i = ⟨s.a ||| m, s.b, s.c, s.d⟩) := by show _ = _; unfold Q.with_ Q.set; rw [HK.out, HM.out]; rfl
    go_enter Try.func18, Try.ntmps18
    go_wp2_with (first | (go_at_call 23; (with_reducible refine (level_yes _ _ (by omega) (by omega)).mono ?_); rintro e w' ⟨rfl, rfl⟩))
    rw [HW1.out]
    go_still_tail 10, (by kernel_rfl)
    still_call (CW.out _)
    repeat still_step
    still_call (CB.out _)
    repeat still_step
    refine wpStill_nil ?_
    go_wp2
    refine bodyPost_ret (v := .agg #[.int .u64 (bits .or .u64 s.a m), .int .u64 s.b, .int .u64 s.c, .int .u64 s.d]) (by simp [results, Try.results18, go_sem, d0, d1, d2, d3]) rfl ⟨?_, ?_⟩
    · rw [HE.out, HT.out _ ha]
    · exact (((((HB1.out.setNew (p := ⟨w.heap.size, _, none⟩) (Nat.le_refl _) _).setNew (p := ⟨w.heap.size + 1, _, none⟩) (Nat.le_succ _) _).setNew (p := ⟨w.heap.size + 1, _, none⟩) (Nat.le_succ _) _).setNew (p := ⟨w.heap.size + 1, _, none⟩) (Nat.le_succ _) _).setNew (p := ⟨w.heap.size + 1, _, none⟩) (Nat.le_succ _) _).drew
  | 1, _ =>
    have fk := fp 1
    clear fp
    have HE : Hid (s.with_ i = ⟨s.a, s.b ||| m, s.c, s.d⟩) := by show _ = _; unfold Q.with_ Q.set; rw [HK.out, HM.out]; rfl
    go_enter Try.func18, Try.ntmps18
    go_wp2_with (first | (go_at_call 23; (with_reducible refine (level_yes _ _ (by omega) (by omega)).mono ?_); rintro e w' ⟨rfl, rfl⟩))
    rw [HW1.out]
    go_still_tail 10, (by kernel_rfl)
    still_call (CW.out _)
    repeat still_step
    still_call (CB.out _)
    repeat still_step
    refine wpStill_nil ?_
    go_wp2
    refine bodyPost_ret (v := .agg #[.int .u64 s.a, .int .u64 (bits .or .u64 s.b m), .int .u64 s.c, .int .u64 s.d]) (by simp [results, Try.results18, go_sem, d0, d1, d2, d3]) rfl ⟨?_, ?_⟩
    · rw [HE.out, HT.out _ hb]
    · exact (((((HB1.out.setNew (p := ⟨w.heap.size, _, none⟩) (Nat.le_refl _) _).setNew (p := ⟨w.heap.size + 1, _, none⟩) (Nat.le_succ _) _).setNew (p := ⟨w.heap.size + 1, _, none⟩) (Nat.le_succ _) _).setNew (p := ⟨w.heap.size + 1, _, none⟩) (Nat.le_succ _) _).setNew (p := ⟨w.heap.size + 1, _, none⟩) (Nat.le_succ _) _).drew
  | 2, _ =>
    have fk := fp 2
    clear fp
    have HE : Hid (s.with_ i = ⟨s.a, s.b, s.c ||| m, s.d⟩) := by show _ = _; unfold Q.with_ Q.set; rw [HK.out, HM.out]; rfl
    go_enter Try.func18, Try.ntmps18
    go_wp2_with (first | (go_at_call 23; (with_reducible refine (level_yes _ _ (by omega) (by omega)).mono ?_); rintro e w' ⟨rfl, rfl⟩))
    rw [HW1.out]
    go_still_tail 10, (by kernel_rfl)
    still_call (CW.out _)
    repeat still_step
    still_call (CB.out _)
    repeat still_step
    refine wpStill_nil ?_
    go_wp2
    refine bodyPost_ret (v := .agg #[.int .u64 s.a, .int .u64 s.b, .int .u64 (bits .or .u64 s.c m), .int .u64 s.d]) (by simp [results, Try.results18, go_sem, d0, d1, d2, d3]) rfl ⟨?_, ?_⟩
    · rw [HE.out, HT.out _ hc]
    · exact (((((HB1.out.setNew (p := ⟨w.heap.size, _, none⟩) (Nat.le_refl _) _).setNew (p := ⟨w.heap.size + 1, _, none⟩) (Nat.le_succ _) _).setNew (p := ⟨w.heap.size + 1, _, none⟩) (Nat.le_succ _) _).setNew (p := ⟨w.heap.size + 1, _, none⟩) (Nat.le_succ _) _).setNew (p := ⟨w.heap.size + 1, _, none⟩) (Nat.le_succ _) _).drew
  | 3, _ =>
    have fk := fp 3
    clear fp
    have HE : Hid (s.with_ i = ⟨s.a, s.b, s.c, s.d ||| m⟩) := by show _ = _; unfold Q.with_ Q.set; rw [HK.out, HM.out]; rfl
    go_enter Try.func18, Try.ntmps18
    go_wp2_with (first | (go_at_call 23; (with_reducible refine (level_yes _ _ (by omega) (by omega)).mono ?_); rintro e w' ⟨rfl, rfl⟩))
    rw [HW1.out]
    go_still_tail 10, (by kernel_rfl)
    still_call (CW.out _)
    repeat still_step
    still_call (CB.out _)
    repeat still_step
    refine wpStill_nil ?_
    go_wp2
    refine bodyPost_ret (v := .agg #[.int .u64 s.a, .int .u64 s.b, .int .u64 s.c, .int .u64 (bits .or .u64 s.d m)]) (by simp [results, Try.results18, go_sem, d0, d1, d2, d3]) rfl ⟨?_, ?_⟩
    · rw [HE.out, HT.out _ hd]
    · exact (((((HB1.out.setNew (p := ⟨w.heap.size, _, none⟩) (Nat.le_refl _) _).setNew (p := ⟨w.heap.size + 1, _, none⟩) (Nat.le_succ _) _).setNew (p := ⟨w.heap.size + 1, _, none⟩) (Nat.le_succ _) _).setNew (p := ⟨w.heap.size + 1, _, none⟩) (Nat.le_succ _) _).setNew (p := ⟨w.heap.size + 1, _, none⟩) (Nat.le_succ _) _).drew
set_option maxHeartbeats 1000000 in
theorem with_no (s : Q) (i : Int) (w : World) (hi : i < 0 ∨ 256 ≤ i) : Calls Try.prog 18 #[sv s, .int .i64 i] w fun e w' => e = .returned (sv s) ∧ But No w w' := by
  have CL : Hid (∀ w, Calls Try.prog 23 #[.int .i64 i] w fun e w' => e = .returned (.bool false) ∧ w = w') := fun w => level_no i w hi
  clear hi
  obtain ⟨w1, hw1, hb1, hp, hq⟩ := two_new w s
  have HW1 := Lib.hid hw1
  have HB1 := Lib.hid hb1
  have c0 := hp.cell (o := 0) rfl
  have c1 := hp.cell (o := 1) rfl
  have c2 := hp.cell (o := 2) rfl
  have c3 := hp.cell (o := 3) rfl
  have d0 := hq.cell (o := 0) rfl
  have d1 := hq.cell (o := 1) rfl
  have d2 := hq.cell (o := 2) rfl
  have d3 := hq.cell (o := 3) rfl
  have f0 := hq.frozen 0
  have f1 := hq.frozen 1
  have f2 := hq.frozen 2
  have f3 := hq.frozen 3
  clear hw1 hb1 hp hq
  go_enter Try.func18, Try.ntmps18
  go_wp2_with (first | (go_at_call 23; rw [HW1.out]; (with_reducible refine (CL.out _).mono ?_); rintro e w' ⟨rfl, rfl⟩))
  refine bodyPost_ret (v := sv s) (by simp [results, Try.results18, go_sem, d0, d1, d2, d3]) rfl ⟨rfl, ?_⟩
  exact ((((HB1.out.setNew (p := ⟨w.heap.size + 1, _, none⟩) (Nat.le_succ _) _).setNew (p := ⟨w.heap.size + 1, _, none⟩) (Nat.le_succ _) _).setNew (p := ⟨w.heap.size + 1, _, none⟩) (Nat.le_succ _) _).setNew (p := ⟨w.heap.size + 1, _, none⟩) (Nat.le_succ _) _)
def Q.withI (s : Q) (i : Int) : Q := if 0 ≤ i ∧ i < 256 then s.with_ i.toNat else s
theorem Q.withI_ok {s : Q} (h : s.ok) (i : Int) : (s.withI i).ok := by
  unfold Q.withI
  split
  · exact Q.with_ok h _
  · exact h
theorem with_any (s : Q) (i : Int) (w : World) (hs : s.ok) : Calls Try.prog 18 #[sv s, .int .i64 i] w fun e w' => e = .returned (sv (s.withI i)) ∧ But No w w' := by
  by_cases h : 0 ≤ i ∧ i < 256
  · obtain ⟨n, rfl⟩ : ∃ n : Nat, i = n := ⟨i.toNat, by omega⟩
    refine (with_yes s n w hs (by omega)).mono fun e w' ⟨he, hw⟩ => ⟨?_, hw⟩
    rw [he]; unfold Q.withI; rw [if_pos h]; rfl
  · refine (with_no s i w (by omega)).mono fun e w' ⟨he, hw⟩ => ⟨?_, hw⟩
    rw [he]; unfold Q.withI; rw [if_neg h]
set_option maxHeartbeats 2000000 in
theorem without_yes (s : Q) (i : Nat) (w : World) (hs : s.ok) (hi : i < 256) : Calls Try.prog 19 #[sv s, .int .i64 i] w fun e w' => e = .returned (sv (s.without i)) ∧ But No w w' := by
  have ha := hs.a
  have hb := hs.b
  have hc := hs.c
  have hd := hs.d
  have HT : Hid (∀ x : Nat, x < 18446744073709551616 → (bits .andNot .u64 (x : Int) ((2 ^ (i % 64) : Nat) : Int)) = ((x &&& (18446744073709551615 - 2 ^ (i % 64)) : Nat) : Int)) := fun x hx => u64_andNot_nat x _ hx (two_pow_lt (by omega))
  have CW : Hid (∀ w, Calls Try.prog 24 #[.int .i64 i] w fun e w' => e = .returned (.int .i64 ((i / 64 : Nat) : Int)) ∧ w' = w) := fun w => (word_any i w hi).mono fun _ _ ⟨he, hw⟩ => ⟨he, hw.symm⟩
  have CB : Hid (∀ w, Calls Try.prog 25 #[.int .i64 i] w fun e w' => e = .returned (.int .u64 ((2 ^ (i % 64) : Nat) : Int)) ∧ w' = w) := fun w => (bit_any i w hi).mono fun _ _ ⟨he, hw⟩ => ⟨he, hw.symm⟩
  obtain ⟨k, hk⟩ : ∃ k, i / 64 = k := ⟨_, rfl⟩
  have hk4 : k < 4 := by omega
  have HK := Lib.hid hk
  rw [hk] at CW
  clear hk
  obtain ⟨m, hm⟩ : ∃ m, 2 ^ (i % 64) = m := ⟨_, rfl⟩
  rw [hm] at HT CB
  have HM := Lib.hid hm
  clear hm
  obtain ⟨w1, hw1, hb1, hp, hq⟩ := two_new w s
  have HW1 := Lib.hid hw1
  have HB1 := Lib.hid hb1
  have c0 := hp.cell (o := 0) rfl
  have c1 := hp.cell (o := 1) rfl
  have c2 := hp.cell (o := 2) rfl
  have c3 := hp.cell (o := 3) rfl
  have d0 := hq.cell (o := 0) rfl
  have d1 := hq.cell (o := 1) rfl
  have d2 := hq.cell (o := 2) rfl
  have d3 := hq.cell (o := 3) rfl
  have fp := hp.frozen
  have f0 := hq.frozen 0
  have f1 := hq.frozen 1
  have f2 := hq.frozen 2
  have f3 := hq.frozen 3
  clear hw1 hb1 hp hq
  match k, hk4 with
  | 0, _ =>
    have fk := fp 0
    clear fp
    have HE : Hid (s.without i = ⟨s.a &&& (18446744073709551615 - m), s.b, s.c, s.d⟩) := by show _ = _; unfold Q.without Q.set; rw [HK.out, HM.out]; rfl
    go_enter Try.func19, Try.ntmps19
    go_wp2_with (first | (go_at_call 23; (with_reducible refine (level_yes _ _ (by omega) (by omega)).mono ?_); rintro e w' ⟨rfl, rfl⟩))
    rw [HW1.out]
    go_still_tail 10, (by kernel_rfl)
    still_call (CW.out _)
    repeat still_step
    still_call (CB.out _)
    repeat still_step
    refine wpStill_nil ?_
    go_wp2
    refine bodyPost_ret (v := .agg #[.int .u64 (bits .andNot .u64 s.a m), .int .u64 s.b, .int .u64 s.c, .int .u64 s.d]) (by simp [results, Try.results19, go_sem, d0, d1, d2, d3]) rfl ⟨?_, ?_⟩
    · rw [HE.out, HT.out _ ha]
    · exact (((((HB1.out.setNew (p := ⟨w.heap.size, _, none⟩) (Nat.le_refl _) _).setNew (p := ⟨w.heap.size + 1, _, none⟩) (Nat.le_succ _) _).setNew (p := ⟨w.heap.size + 1, _, none⟩) (Nat.le_succ _) _).setNew (p := ⟨w.heap.size + 1, _, none⟩) (Nat.le_succ _) _).setNew (p := ⟨w.heap.size + 1, _, none⟩) (Nat.le_succ _) _).drew
  | 1, _ =>
    have fk := fp 1
    clear fp
    have HE : Hid (s.without i = ⟨s.a, s.b &&& (18446744073709551615 - m), s.c, s.d⟩) := by show _ = _; unfold Q.without Q.set; rw [HK.out, HM.out]; rfl
    go_enter Try.func19, Try.ntmps19
    go_wp2_with (first | (go_at_call 23; (with_reducible refine (level_yes _ _ (by omega) (by omega)).mono ?_); rintro e w' ⟨rfl, rfl⟩))
    rw [HW1.out]
    go_still_tail 10, (by kernel_rfl)
    still_call (CW.out _)
    repeat still_step
    still_call (CB.out _)
    repeat still_step
    refine wpStill_nil ?_
    go_wp2
    refine bodyPost_ret (v := .agg #[.int .u64 s.a, .int .u64 (bits .andNot .u64 s.b m), .int .u64 s.c, .int .u64 s.d]) (by simp [results, Try.results19, go_sem, d0, d1, d2, d3]) rfl ⟨?_, ?_⟩
    · rw [HE.out, HT.out _ hb]
    · exact (((((HB1.out.setNew (p := ⟨w.heap.size, _, none⟩) (Nat.le_refl _) _).setNew (p := ⟨w.heap.size + 1, _, none⟩) (Nat.le_succ _) _).setNew (p := ⟨w.heap.size + 1, _, none⟩) (Nat.le_succ _) _).setNew (p := ⟨w.heap.size + 1, _, none⟩) (Nat.le_succ _) _).setNew (p := ⟨w.heap.size + 1, _, none⟩) (Nat.le_succ _) _).drew
  | 2, _ =>
    have fk := fp 2
    clear fp
    have HE : Hid (s.without i = ⟨s.a, s.b, s.c &&& (18446744073709551615 - m), s.d⟩) := by show _ = _; unfold Q.without Q.set; rw [HK.out, HM.out]; rfl
    go_enter Try.func19, Try.ntmps19
    go_wp2_with (first | (go_at_call 23; (with_reducible refine (level_yes _ _ (by omega) (by omega)).mono ?_); rintro e w' ⟨rfl, rfl⟩))
    rw [HW1.out]
    go_still_tail 10, (by kernel_rfl)
    still_call (CW.out _)
    repeat still_step
    still_call (CB.out _)
    repeat still_step
    refine wpStill_nil ?_
    go_wp2
    refine bodyPost_ret (v := .agg #[.int .u64 s.a, .int .u64 s.b, .int .u64 (bits .andNot .u64 s.c m), .int .u64 s.d]) (by simp [results, Try.results19, go_sem, d0, d1, d2, d3]) rfl ⟨?_, ?_⟩
    · rw [HE.out, HT.out _ hc]
    · exact (((((HB1.out.setNew (p := ⟨w.heap.size, _, none⟩) (Nat.le_refl _) _).setNew (p := ⟨w.heap.size + 1, _, none⟩) (Nat.le_succ _) _).setNew (p := ⟨w.heap.size + 1, _, none⟩) (Nat.le_succ _) _).setNew (p := ⟨w.heap.size + 1, _, none⟩) (Nat.le_succ _) _).setNew (p := ⟨w.heap.size + 1, _, none⟩) (Nat.le_succ _) _).drew
  | 3, _ =>
    have fk := fp 3
    clear fp
    have HE : Hid (s.without i = ⟨s.a, s.b, s.c, s.d &&& (18446744073709551615 - m)⟩) := by show _ = _; unfold Q.without Q.set; rw [HK.out, HM.out]; rfl
    go_enter Try.func19, Try.ntmps19
    go_wp2_with (first | (go_at_call 23; (with_reducible refine (level_yes _ _ (by omega) (by omega)).mono ?_); rintro e w' ⟨rfl, rfl⟩))
    rw [HW1.out]
    go_still_tail 10, (by kernel_rfl)
    still_call (CW.out _)
    repeat still_step
    still_call (CB.out _)
    repeat still_step
    refine wpStill_nil ?_
    go_wp2
    refine bodyPost_ret (v := .agg #[.int .u64 s.a, .int .u64 s.b, .int .u64 s.c, .int .u64 (bits .andNot .u64 s.d m)]) (by simp [results, Try.results19, go_sem, d0, d1, d2, d3]) rfl ⟨?_, ?_⟩
    · rw [HE.out, HT.out _ hd]
    · exact (((((HB1.out.setNew (p := ⟨w.heap.size, _, none⟩) (Nat.le_refl _) _).setNew (p := ⟨w.heap.size + 1, _, none⟩) (Nat.le_succ _) _).setNew (p := ⟨w.heap.size + 1, _, none⟩) (Nat.le_succ _) _).setNew (p := ⟨w.heap.size + 1, _, none⟩) (Nat.le_succ _) _).setNew (p := ⟨w.heap.size + 1, _, none⟩) (Nat.le_succ _) _).drew
set_option maxHeartbeats 1000000 in
theorem without_no (s : Q) (i : Int) (w : World) (hi : i < 0 ∨ 256 ≤ i) : Calls Try.prog 19 #[sv s, .int .i64 i] w fun e w' => e = .returned (sv s) ∧ But No w w' := by
  have CL : Hid (∀ w, Calls Try.prog 23 #[.int .i64 i] w fun e w' => e = .returned (.bool false) ∧ w = w') := fun w => level_no i w hi
  clear hi
  obtain ⟨w1, hw1, hb1, hp, hq⟩ := two_new w s
  have HW1 := Lib.hid hw1
  have HB1 := Lib.hid hb1
  have c0 := hp.cell (o := 0) rfl
  have c1 := hp.cell (o := 1) rfl
  have c2 := hp.cell (o := 2) rfl
  have c3 := hp.cell (o := 3) rfl
  have d0 := hq.cell (o := 0) rfl
  have d1 := hq.cell (o := 1) rfl
  have d2 := hq.cell (o := 2) rfl
  have d3 := hq.cell (o := 3) rfl
  have f0 := hq.frozen 0
  have f1 := hq.frozen 1
  have f2 := hq.frozen 2
  have f3 := hq.frozen 3
  clear hw1 hb1 hp hq
  go_enter Try.func19, Try.ntmps19
  go_wp2_with (first | (go_at_call 23; rw [HW1.out]; (with_reducible refine (CL.out _).mono ?_); rintro e w' ⟨rfl, rfl⟩))
  refine bodyPost_ret (v := sv s) (by simp [results, Try.results19, go_sem, d0, d1, d2, d3]) rfl ⟨rfl, ?_⟩
  exact ((((HB1.out.setNew (p := ⟨w.heap.size + 1, _, none⟩) (Nat.le_succ _) _).setNew (p := ⟨w.heap.size + 1, _, none⟩) (Nat.le_succ _) _).setNew (p := ⟨w.heap.size + 1, _, none⟩) (Nat.le_succ _) _).setNew (p := ⟨w.heap.size + 1, _, none⟩) (Nat.le_succ _) _)
def Q.withoutI (s : Q) (i : Int) : Q := if 0 ≤ i ∧ i < 256 then s.without i.toNat else s
theorem Q.withoutI_ok {s : Q} (h : s.ok) (i : Int) : (s.withoutI i).ok := by
  unfold Q.withoutI
  split
  · exact Q.without_ok h _
  · exact h
theorem without_any (s : Q) (i : Int) (w : World) (hs : s.ok) : Calls Try.prog 19 #[sv s, .int .i64 i] w fun e w' => e = .returned (sv (s.withoutI i)) ∧ But No w w' := by
  by_cases h : 0 ≤ i ∧ i < 256
  · obtain ⟨n, rfl⟩ : ∃ n : Nat, i = n := ⟨i.toNat, by omega⟩
    refine (without_yes s n w hs (by omega)).mono fun e w' ⟨he, hw⟩ => ⟨?_, hw⟩
    rw [he]; unfold Q.withoutI; rw [if_pos h]; rfl
  · refine (without_no s i w (by omega)).mono fun e w' ⟨he, hw⟩ => ⟨?_, hw⟩
    rw [he]; unfold Q.withoutI; rw [if_neg h]
end Go.Proofs.Ytgocjgipigjhbaa
