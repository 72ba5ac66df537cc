/- The contracts of First, Next and Count. -/
import Derived.Test.YtgocjgipigjhbaaC2
namespace Go.Proofs.Ytgocjgipigjhbaa
open Go.ChangeShapes Go.WideShapes Go.ChangeAt Go.RowKit
def eq4 (a b c d a' b' c' d' : Int) : Bool := a == a' && (b == b' && (c == c' && d == d'))
theorem eq4_self (a b c d : Int) : eq4 a b c d a b c d = true := by simp [eq4]
theorem info22 : ∃ i, Try.prog.info? 22 = some i := ⟨_, rfl⟩
theorem eq_in23 (n : Nat) (a b c d a' b' c' d' : Int) (w : World) : (Op.equalIn (n + 2) 23 (.agg #[.int .u64 a, .int .u64 b, .int .u64 c, .int .u64 d]) (.agg #[.int .u64 a', .int .u64 b', .int .u64 c', .int .u64 d'])).run Try.prog w = .ok (eq4 a b c d a' b' c' d') w := by
  obtain ⟨i, hi⟩ := info22
  rw [run_equalIn_array w (n + 1) _ _ Try.underlying23 hi]
  have hc : Try.prog.cellsOf 22 = 1 := by kernel_rfl
  rw [hc]
  have h4 : List.range 4 = [0, 1, 2, 3] := by decide
  rw [h4]
  simp [Op.eqItems, go_sem, part, Try.underlying22, eq4]
  by_cases h1 : a = a' <;> by_cases h2 : b = b' <;> by_cases h3 : c = c' <;> by_cases h5 : d = d' <;> simp [h1, h2, h3, h5]
theorem eq_23 (a b c d a' b' c' d' : Int) (w : World) : (binOp .eql 23 (.agg #[.int .u64 a, .int .u64 b, .int .u64 c, .int .u64 d]) (.agg #[.int .u64 a', .int .u64 b', .int .u64 c', .int .u64 d'])).run Try.prog w = .ok (.bool (eq4 a b c d a' b' c' d')) w := by
  rw [run_eql_struct, eq_in23 9998]; rfl
theorem eq_26 (a b c d a' b' c' d' : Int) (w : World) : (binOp .eql 26 (.agg #[.int .u64 a, .int .u64 b, .int .u64 c, .int .u64 d]) (.agg #[.int .u64 a', .int .u64 b', .int .u64 c', .int .u64 d'])).run Try.prog w = .ok (.bool (eq4 a b c d a' b' c' d')) w := by
  rw [run_eql_struct, run_equalIn_agg w 9999 26 _ _ (by kernel_rfl) (by kernel_rfl)]
  have hf : ∃ f, (Try.prog.fieldsOf 26).toList = [f] ∧ f.name = "W" ∧ f.type = 23 ∧ f.offset = 0 := ⟨_, rfl, rfl, rfl, rfl⟩
  obtain ⟨f, hf, hn, ht, ho⟩ := hf
  rw [hf]
  have hp : ∀ (x y z t : Int), (part 23 #[.int .u64 x, .int .u64 y, .int .u64 z, .int .u64 t] 0).run Try.prog w = .ok (.agg #[.int .u64 x, .int .u64 y, .int .u64 z, .int .u64 t]) w := by
    intro x y z t
    simp [part, go_sem]
  simp only [Op.eqFields, hn, ht, ho, Sem.run_bind, Sem.run_ite, hp, Result.andThen_ok, eq_in23 9997]
  cases eq4 a b c d a' b' c' d' <;> simp
attribute [local go_sem] eq_in23
theorem box_new (w : World) (s : Q) : ∃ w1, w.alloc (.cells #[.int .u64 s.a, .int .u64 s.b, .int .u64 s.c, .int .u64 s.d] 26) = w1 ∧ But No w w1 ∧ Blk w1 w.heap.size (cells4 s) 26 :=
  ⟨_, rfl, (But.refl _ _).alloc _, Blk.new w _ _⟩
set_option maxHeartbeats 2000000 in
theorem first_any (s : Q) (w : World) (hs : s.ok) : Calls Try.prog 14 #[sv s] w fun e w' => e = .returned (.int .i64 s.first) ∧ But No w w' := by
  have ha := hs.a
  have hb := hs.b
  have hc := hs.c
  have hd := hs.d
  obtain ⟨w1, hw1, hb1, hp⟩ := box_new w s
  have HW1 := Lib.hid hw1
  have HB1 := Lib.hid hb1
  have c0 := hp.cell (o := 0) rfl
  have c1 := hp.cell (o := 1) rfl
  have c2 := hp.cell (o := 2) rfl
  have c3 := hp.cell (o := 3) rfl
  clear hw1 hb1 hp
  by_cases hz : eq4 s.a s.b s.c s.d 0 0 0 0 = true
  · have HF : Hid (s.first = -1) := by
      have hz2 := hz
      unfold eq4 at hz2
      simp at hz2
      refine Q.first_none (fun k hk => ?_)
      match k, hk with
      | 0, _ => exact hz2.1
      | 1, _ => exact hz2.2.1
      | 2, _ => exact hz2.2.2.1
      | 3, _ => exact hz2.2.2.2
    go_enter Try.func14, Try.ntmps14
    go_wp2
    go_ret
    exact ⟨ret_int HF.out.symm, (But.refl _ _).alloc _⟩
  · have hz' : eq4 s.a s.b s.c s.d 0 0 0 0 = false := by simpa using hz
    have HZ : Hid (∀ k, k < 4 → (∀ j, j < k → s.w j = 0) → k = 3 → s.d ≠ 0) := by
      intro k _ h0 h3 hd
      subst h3
      have g0 := h0 0 (by omega)
      have g1 := h0 1 (by omega)
      have g2 := h0 2 (by omega)
      simp [Q.w] at g0 g1 g2
      apply hz
      unfold eq4
      simp [g0, g1, g2, hd]
    clear hz
    go_enter Try.func14, Try.ntmps14
    go_wp2_with fail
    rw [HW1.out]
    go_loop [3] (fun t => ∃ k : Nat, t = .int .i64 k ∧ k < 4 ∧ Hid (∀ j, j < k → s.w j = 0)) (fun t => 4 - (intOf t).toNat)
    case atStart => exact ⟨0, rfl, by omega, fun j hj => absurd hj (by omega)⟩
    case round =>
      obtain ⟨k, rfl, hk, hall⟩ := hrel
      match k, hk with
      | 0, _ =>
        by_cases hx : s.a = 0
        · have hbx : ((s.a : Int) == 0) = true := by simp [hx]
          have hall' : Hid (∀ j, j < 1 → s.w j = 0) := by
            intro j hj
            by_cases e : j = 0
            · subst e; exact hx
            · exact hall.out j (by omega)
          clear hx
          go_wp2
          go_round
          case rel => exact ⟨1, rfl, by omega, hall'⟩
          case measure => simp [intOf]
        · have hbx : ((s.a : Int) == 0) = false := by rw [beq_eq_false_iff_ne]; omega
          have hpos : 0 < s.a := by omega
          have CL : Hid (∀ w, Calls Try.prog 26 #[.int .u64 s.a] w (LowEnd s.a w)) := fun w => low_any s.a w hpos ha
          clear hx
          go_wp2_with (first | (go_at_call 26; (with_reducible refine (CL.out _).mono ?_); rintro e w' ⟨n, hn, rfl, rfl⟩; have hn64 := hn.lt; have HN := Lib.hid hn; clear hn))
          go_ret
          have hF := Q.first_of (s := s) (k := 0) (n := n) (by omega) HN.out.lt hall.out HN.out.bit HN.out.no
          exact ⟨ret_int (by rw [hF]; omega), HB1.out⟩
      | 1, _ =>
        by_cases hx : s.b = 0
        · have hbx : ((s.b : Int) == 0) = true := by simp [hx]
          have hall' : Hid (∀ j, j < 2 → s.w j = 0) := by
            intro j hj
            by_cases e : j = 1
            · subst e; exact hx
            · exact hall.out j (by omega)
          clear hx
          go_wp2
          go_round
          case rel => exact ⟨2, rfl, by omega, hall'⟩
          case measure => simp [intOf]
        · have hbx : ((s.b : Int) == 0) = false := by rw [beq_eq_false_iff_ne]; omega
          have hpos : 0 < s.b := by omega
          have CL : Hid (∀ w, Calls Try.prog 26 #[.int .u64 s.b] w (LowEnd s.b w)) := fun w => low_any s.b w hpos hb
          clear hx
          go_wp2_with (first | (go_at_call 26; (with_reducible refine (CL.out _).mono ?_); rintro e w' ⟨n, hn, rfl, rfl⟩; have hn64 := hn.lt; have HN := Lib.hid hn; clear hn))
          go_ret
          have hF := Q.first_of (s := s) (k := 1) (n := n) (by omega) HN.out.lt hall.out HN.out.bit HN.out.no
          exact ⟨ret_int (by rw [hF]; omega), HB1.out⟩
      | 2, _ =>
        by_cases hx : s.c = 0
        · have hbx : ((s.c : Int) == 0) = true := by simp [hx]
          have hall' : Hid (∀ j, j < 3 → s.w j = 0) := by
            intro j hj
            by_cases e : j = 2
            · subst e; exact hx
            · exact hall.out j (by omega)
          clear hx
          go_wp2
          go_round
          case rel => exact ⟨3, rfl, by omega, hall'⟩
          case measure => simp [intOf]
        · have hbx : ((s.c : Int) == 0) = false := by rw [beq_eq_false_iff_ne]; omega
          have hpos : 0 < s.c := by omega
          have CL : Hid (∀ w, Calls Try.prog 26 #[.int .u64 s.c] w (LowEnd s.c w)) := fun w => low_any s.c w hpos hc
          clear hx
          go_wp2_with (first | (go_at_call 26; (with_reducible refine (CL.out _).mono ?_); rintro e w' ⟨n, hn, rfl, rfl⟩; have hn64 := hn.lt; have HN := Lib.hid hn; clear hn))
          go_ret
          have hF := Q.first_of (s := s) (k := 2) (n := n) (by omega) HN.out.lt hall.out HN.out.bit HN.out.no
          exact ⟨ret_int (by rw [hF]; omega), HB1.out⟩
      | 3, _ =>
        by_cases hx : s.d = 0
        · exact absurd hx (HZ.out 3 (by omega) hall.out rfl)
        · have hbx : ((s.d : Int) == 0) = false := by rw [beq_eq_false_iff_ne]; omega
          have hpos : 0 < s.d := by omega
          have CL : Hid (∀ w, Calls Try.prog 26 #[.int .u64 s.d] w (LowEnd s.d w)) := fun w => low_any s.d w hpos hd
          clear hx
          go_wp2_with (first | (go_at_call 26; (with_reducible refine (CL.out _).mono ?_); rintro e w' ⟨n, hn, rfl, rfl⟩; have hn64 := hn.lt; have HN := Lib.hid hn; clear hn))
          go_ret
          have hF := Q.first_of (s := s) (k := 3) (n := n) (by omega) HN.out.lt hall.out HN.out.bit HN.out.no
          exact ⟨ret_int (by rw [hF]; omega), HB1.out⟩
set_option maxHeartbeats 2000000 in
theorem above_low (s : Q) (i : Int) (w : World) (hi : i < 0) : Calls Try.prog 27 #[sv s, .int .i64 i] w fun e w' => e = .returned (sv s) ∧ But No w w' := by
  go_enter Try.func27, Try.ntmps27
  go_wp2
  refine bodyPost_ret (v := sv s) (by simp [results, Try.results27, go_sem]) rfl ⟨rfl, ?_⟩
  exact ((But.refl _ _).alloc _).alloc _
set_option maxHeartbeats 2000000 in
theorem above_high (s : Q) (i : Int) (w : World) (hi : 255 ≤ i) : Calls Try.prog 27 #[sv s, .int .i64 i] w fun e w' => e = .returned (sv Q.zero) ∧ But No w w' := by
  have h0 : ¬ i < 0 := by omega
  go_enter Try.func27, Try.ntmps27
  go_wp2
  refine bodyPost_ret (v := .agg #[.int .u64 0, .int .u64 0, .int .u64 0, .int .u64 0]) (by simp [results, Try.results27, go_sem]) rfl ⟨rfl, ?_⟩
  exact ((But.refl _ _).alloc _).alloc _
theorem two_vals (w : World) (v0 v1 v2 v3 : Value) : ∃ w1, (w.alloc (.cells #[v0, v1, v2, v3] 26)).alloc (.cells #[.int .u64 0, .int .u64 0, .int .u64 0, .int .u64 0] 26) = w1 ∧ But No w w1 ∧
    Blk w1 w.heap.size #[v0, v1, v2, v3] 26 ∧ Blk w1 (w.heap.size + 1) #[.int .u64 0, .int .u64 0, .int .u64 0, .int .u64 0] 26 := by
  refine ⟨_, rfl, ((But.refl _ _).alloc _).alloc _, (Blk.new w _ _).but (S := No) ((But.refl _ _).alloc _) (fun f => f), ?_⟩
  have := Blk.new (w.alloc (.cells #[v0, v1, v2, v3] 26)) #[.int .u64 0, .int .u64 0, .int .u64 0, .int .u64 0] 26
  simpa using this
theorem cut_word (x r : Nat) (hx : x < 18446744073709551616) (hr : r < 64) : bits .andNot .u64 (x : Int) (((2 ^ r : Nat) : Int) - 1) = ((x &&& (18446744073709551615 - (2 ^ r - 1)) : Nat) : Int) := by
  have hp := Nat.two_pow_pos r
  have hl := two_pow_lt hr
  have e : ((2 ^ r : Nat) : Int) - 1 = ((2 ^ r - 1 : Nat) : Int) := by omega
  rw [e]
  exact u64_andNot_nat x (2 ^ r - 1) hx (by omega)
set_option maxHeartbeats 4000000 in
theorem above_mid (s : Q) (i : Nat) (w : World) (hs : s.ok) (hi : i < 255) : Calls Try.prog 27 #[sv s, .int .i64 i] w fun e w' => e = .returned (sv (s.from_ (i + 1))) ∧ But No w w' := by
  have ha := hs.a
  have hb := hs.b
  have hc := hs.c
  have hd := hs.d
  have HT : Hid (∀ x : Nat, x < 18446744073709551616 → (bits .andNot .u64 (x : Int) (((2 ^ ((i + 1) % 64) : Nat) : Int) - 1)) = ((x &&& (18446744073709551615 - (2 ^ ((i + 1) % 64) - 1)) : Nat) : Int)) := fun x hx => cut_word x _ hx (by omega)
  have CW : Hid (∀ w, Calls Try.prog 24 #[.int .i64 ((i : Int) + 1)] w fun e w' => e = .returned (.int .i64 (((i + 1) / 64 : Nat) : Int)) ∧ w' = w) := fun w => (word_any (i + 1) w (by omega)).mono fun _ _ ⟨he, hw⟩ => ⟨he, hw.symm⟩
  have CB : Hid (∀ w, Calls Try.prog 25 #[.int .i64 ((i : Int) + 1)] w fun e w' => e = .returned (.int .u64 ((2 ^ ((i + 1) % 64) : Nat) : Int)) ∧ w' = w) := fun w => (bit_any (i + 1) w (by omega)).mono fun _ _ ⟨he, hw⟩ => ⟨he, hw.symm⟩
  have h1 : ¬ (i : Int) < 0 := by omega
  have h2 : ¬ 255 ≤ (i : Int) := by omega
  obtain ⟨k, hk⟩ : ∃ k, (i + 1) / 64 = k := ⟨_, rfl⟩
  have hk4 : k < 4 := by omega
  have HK := Lib.hid hk
  rw [hk] at CW
  clear hk
  obtain ⟨m, hm⟩ : ∃ m, 2 ^ ((i + 1) % 64) = m := ⟨_, rfl⟩
  have hm1 : 1 ≤ m := by rw [← hm]; exact Nat.two_pow_pos _
  have hm2 : m < 18446744073709551616 := by rw [← hm]; exact two_pow_lt (by omega)
  rw [hm] at HT CB
  have HM := Lib.hid hm
  clear hm
  match k, hk4 with
  | 0, _ =>
    have HE : Hid (s.from_ (i + 1) = ⟨s.a &&& (18446744073709551615 - (m - 1)), s.b, s.c, s.d⟩) := by show _ = _; unfold Q.from_ keep; rw [HK.out, HM.out]; rfl
    obtain ⟨w1, hw1, hb1, hp, hq⟩ := two_vals w (.int .u64 s.a) (.int .u64 s.b) (.int .u64 s.c) (.int .u64 s.d)
    have HW1 := Lib.hid hw1
    have HB1 := Lib.hid hb1
    have c0 := hp.cell (o := 0) rfl
    have c1 := hp.cell (o := 1) rfl
    have c2 := hp.cell (o := 2) rfl
    have c3 := hp.cell (o := 3) rfl
    have d0 := hq.cell (o := 0) rfl
    have d1 := hq.cell (o := 1) rfl
    have d2 := hq.cell (o := 2) rfl
    have d3 := hq.cell (o := 3) rfl
    have fk := hp.frozen 0
    have f0 := hq.frozen 0
    have f1 := hq.frozen 1
    have f2 := hq.frozen 2
    have f3 := hq.frozen 3
    clear hw1 hb1 hp hq
    go_enter Try.func27, Try.ntmps27
    go_wp2_with (first | (go_at_call 24; (with_reducible refine (CW.out _).mono ?_); rintro e w' ⟨rfl, rfl⟩))
    refine wp_loop_rounds 1 ?_
    rw [rounds_succ]
    go_wp2_with fail
    rw [HW1.out]
    go_still_tail 11, (by kernel_rfl)
    still_call (CW.out _)
    repeat still_step
    still_call (CB.out _)
    repeat still_step
    refine wpStill_nil ?_
    go_wp2
    refine bodyPost_ret (v := .agg #[.int .u64 (bits .andNot .u64 s.a ((m : Int) - 1)), .int .u64 s.b, .int .u64 s.c, .int .u64 s.d]) (by simp [results, Try.results27, go_sem, d0, d1, d2, d3]) rfl ⟨?_, ?_⟩
    · rw [HE.out, HT.out _ ha]
    · exact (((((HB1.out.setNew (p := ⟨w.heap.size, _, none⟩) (Nat.le_refl _) _).setNew (p := ⟨w.heap.size + 1, _, none⟩) (Nat.le_succ _) _).setNew (p := ⟨w.heap.size + 1, _, none⟩) (Nat.le_succ _) _).setNew (p := ⟨w.heap.size + 1, _, none⟩) (Nat.le_succ _) _).setNew (p := ⟨w.heap.size + 1, _, none⟩) (Nat.le_succ _) _).drew
  | 1, _ =>
    have HE : Hid (s.from_ (i + 1) = ⟨0, s.b &&& (18446744073709551615 - (m - 1)), s.c, s.d⟩) := by show _ = _; unfold Q.from_ keep; rw [HK.out, HM.out]; rfl
    obtain ⟨w1, hw1, hb1, hp, hq⟩ := two_vals w (.int .u64 0) (.int .u64 s.b) (.int .u64 s.c) (.int .u64 s.d)
    have HW1 := Lib.hid hw1
    have HB1 := Lib.hid hb1
    have c0 := hp.cell (o := 0) rfl
    have c1 := hp.cell (o := 1) rfl
    have c2 := hp.cell (o := 2) rfl
    have c3 := hp.cell (o := 3) rfl
    have d0 := hq.cell (o := 0) rfl
    have d1 := hq.cell (o := 1) rfl
    have d2 := hq.cell (o := 2) rfl
    have d3 := hq.cell (o := 3) rfl
    have fk := hp.frozen 1
    have f0 := hq.frozen 0
    have f1 := hq.frozen 1
    have f2 := hq.frozen 2
    have f3 := hq.frozen 3
    clear hw1 hb1 hp hq
    go_enter Try.func27, Try.ntmps27
    go_wp2_with (first | (go_at_call 24; (with_reducible refine (CW.out _).mono ?_); rintro e w' ⟨rfl, rfl⟩))
    refine wp_loop_rounds 2 ?_
    rw [rounds_succ]
    go_wp2_with fail
    rw [rounds_succ]
    go_wp2_with fail
    rw [HW1.out]
    go_still_tail 11, (by kernel_rfl)
    still_call (CW.out _)
    repeat still_step
    still_call (CB.out _)
    repeat still_step
    refine wpStill_nil ?_
    go_wp2
    refine bodyPost_ret (v := .agg #[.int .u64 0, .int .u64 (bits .andNot .u64 s.b ((m : Int) - 1)), .int .u64 s.c, .int .u64 s.d]) (by simp [results, Try.results27, go_sem, d0, d1, d2, d3]) rfl ⟨?_, ?_⟩
    · rw [HE.out, HT.out _ hb]; rfl
    · exact (((((HB1.out.setNew (p := ⟨w.heap.size, _, none⟩) (Nat.le_refl _) _).setNew (p := ⟨w.heap.size + 1, _, none⟩) (Nat.le_succ _) _).setNew (p := ⟨w.heap.size + 1, _, none⟩) (Nat.le_succ _) _).setNew (p := ⟨w.heap.size + 1, _, none⟩) (Nat.le_succ _) _).setNew (p := ⟨w.heap.size + 1, _, none⟩) (Nat.le_succ _) _).drew
  | 2, _ =>
    have HE : Hid (s.from_ (i + 1) = ⟨0, 0, s.c &&& (18446744073709551615 - (m - 1)), s.d⟩) := by show _ = _; unfold Q.from_ keep; rw [HK.out, HM.out]; rfl
    obtain ⟨w1, hw1, hb1, hp, hq⟩ := two_vals w (.int .u64 0) (.int .u64 0) (.int .u64 s.c) (.int .u64 s.d)
    have HW1 := Lib.hid hw1
    have HB1 := Lib.hid hb1
    have c0 := hp.cell (o := 0) rfl
    have c1 := hp.cell (o := 1) rfl
    have c2 := hp.cell (o := 2) rfl
    have c3 := hp.cell (o := 3) rfl
    have d0 := hq.cell (o := 0) rfl
    have d1 := hq.cell (o := 1) rfl
    have d2 := hq.cell (o := 2) rfl
    have d3 := hq.cell (o := 3) rfl
    have fk := hp.frozen 2
    have f0 := hq.frozen 0
    have f1 := hq.frozen 1
    have f2 := hq.frozen 2
    have f3 := hq.frozen 3
    clear hw1 hb1 hp hq
    go_enter Try.func27, Try.ntmps27
    go_wp2_with (first | (go_at_call 24; (with_reducible refine (CW.out _).mono ?_); rintro e w' ⟨rfl, rfl⟩))
    refine wp_loop_rounds 3 ?_
    rw [rounds_succ]
    go_wp2_with fail
    rw [rounds_succ]
    go_wp2_with fail
    rw [rounds_succ]
    go_wp2_with fail
    rw [HW1.out]
    go_still_tail 11, (by kernel_rfl)
    still_call (CW.out _)
    repeat still_step
    still_call (CB.out _)
    repeat still_step
    refine wpStill_nil ?_
    go_wp2
    refine bodyPost_ret (v := .agg #[.int .u64 0, .int .u64 0, .int .u64 (bits .andNot .u64 s.c ((m : Int) - 1)), .int .u64 s.d]) (by simp [results, Try.results27, go_sem, d0, d1, d2, d3]) rfl ⟨?_, ?_⟩
    · rw [HE.out, HT.out _ hc]; rfl
    · exact (((((HB1.out.setNew (p := ⟨w.heap.size, _, none⟩) (Nat.le_refl _) _).setNew (p := ⟨w.heap.size + 1, _, none⟩) (Nat.le_succ _) _).setNew (p := ⟨w.heap.size + 1, _, none⟩) (Nat.le_succ _) _).setNew (p := ⟨w.heap.size + 1, _, none⟩) (Nat.le_succ _) _).setNew (p := ⟨w.heap.size + 1, _, none⟩) (Nat.le_succ _) _).drew
  | 3, _ =>
    have HE : Hid (s.from_ (i + 1) = ⟨0, 0, 0, s.d &&& (18446744073709551615 - (m - 1))⟩) := by show _ = _; unfold Q.from_ keep; rw [HK.out, HM.out]; rfl
    obtain ⟨w1, hw1, hb1, hp, hq⟩ := two_vals w (.int .u64 0) (.int .u64 0) (.int .u64 0) (.int .u64 s.d)
    have HW1 := Lib.hid hw1
    have HB1 := Lib.hid hb1
    have c0 := hp.cell (o := 0) rfl
    have c1 := hp.cell (o := 1) rfl
    have c2 := hp.cell (o := 2) rfl
    have c3 := hp.cell (o := 3) rfl
    have d0 := hq.cell (o := 0) rfl
    have d1 := hq.cell (o := 1) rfl
    have d2 := hq.cell (o := 2) rfl
    have d3 := hq.cell (o := 3) rfl
    have fk := hp.frozen 3
    have f0 := hq.frozen 0
    have f1 := hq.frozen 1
    have f2 := hq.frozen 2
    have f3 := hq.frozen 3
    clear hw1 hb1 hp hq
    go_enter Try.func27, Try.ntmps27
    go_wp2_with (first | (go_at_call 24; (with_reducible refine (CW.out _).mono ?_); rintro e w' ⟨rfl, rfl⟩))
    refine wp_loop_rounds 4 ?_
    rw [rounds_succ]
    go_wp2_with fail
    rw [rounds_succ]
    go_wp2_with fail
    rw [rounds_succ]
    go_wp2_with fail
    rw [rounds_succ]
    go_wp2_with fail
    rw [HW1.out]
    go_still_tail 11, (by kernel_rfl)
    still_call (CW.out _)
    repeat still_step
    still_call (CB.out _)
    repeat still_step
    refine wpStill_nil ?_
    go_wp2
    refine bodyPost_ret (v := .agg #[.int .u64 0, .int .u64 0, .int .u64 0, .int .u64 (bits .andNot .u64 s.d ((m : Int) - 1))]) (by simp [results, Try.results27, go_sem, d0, d1, d2, d3]) rfl ⟨?_, ?_⟩
    · rw [HE.out, HT.out _ hd]; rfl
    · exact (((((HB1.out.setNew (p := ⟨w.heap.size, _, none⟩) (Nat.le_refl _) _).setNew (p := ⟨w.heap.size + 1, _, none⟩) (Nat.le_succ _) _).setNew (p := ⟨w.heap.size + 1, _, none⟩) (Nat.le_succ _) _).setNew (p := ⟨w.heap.size + 1, _, none⟩) (Nat.le_succ _) _).setNew (p := ⟨w.heap.size + 1, _, none⟩) (Nat.le_succ _) _).drew
def Q.aboveI (s : Q) (i : Int) : Q := if i < 0 then s else if 255 ≤ i then Q.zero else s.from_ (i.toNat + 1)
theorem Q.aboveI_ok {s : Q} (h : s.ok) (i : Int) : (s.aboveI i).ok := by
  unfold Q.aboveI
  split
  · exact h
  · split
    · exact Q.zero_ok
    · exact Q.from_ok h _
theorem Q.aboveI_first (s : Q) (i : Int) : (s.aboveI i).first = s.next i := by
  unfold Q.aboveI Q.next
  by_cases h0 : i < 0
  · rw [if_pos h0, if_pos h0]
  · rw [if_neg h0, if_neg h0]
    by_cases h1 : 255 ≤ i
    · rw [if_pos h1, show 256 - (i + 1).toNat = 0 by omega]
      exact Q.first_none (fun k _ => by unfold Q.zero Q.w; simp)
    · rw [if_neg h1, Q.next_from s (by omega)]
      have : i.toNat + 1 = (i + 1).toNat := by omega
      rw [this]
theorem above_any (s : Q) (i : Int) (w : World) (hs : s.ok) : Calls Try.prog 27 #[sv s, .int .i64 i] w fun e w' => e = .returned (sv (s.aboveI i)) ∧ But No w w' := by
  unfold Q.aboveI
  by_cases h0 : i < 0
  · rw [if_pos h0]; exact above_low s i w h0
  · rw [if_neg h0]
    by_cases h1 : 255 ≤ i
    · rw [if_pos h1]; exact above_high s i w h1
    · rw [if_neg h1]
      obtain ⟨n, rfl⟩ : ∃ n : Nat, i = n := ⟨i.toNat, by omega⟩
      exact above_mid s n w hs (by omega)
set_option maxHeartbeats 1000000 in
theorem next_any (s : Q) (i : Int) (w : World) (hs : s.ok) : Calls Try.prog 16 #[sv s, .int .i64 i] w fun e w' => e = .returned (.int .i64 (s.next i)) ∧ But No w w' := by
  have CA : Hid (∀ w, Calls Try.prog 27 #[sv s, .int .i64 i] w fun e w' => e = .returned (sv (s.aboveI i)) ∧ But No w w') := fun w => above_any s i w hs
  have CF : Hid (∀ w, Calls Try.prog 14 #[sv (s.aboveI i)] w fun e w' => e = .returned (.int .i64 (s.next i)) ∧ But No w w') := fun w => by rw [← Q.aboveI_first]; exact first_any _ w (Q.aboveI_ok hs i)
  go_enter Try.func16, Try.ntmps16
  go_wp2_with (first | (go_at_call 27; (with_reducible refine (CA.out _).mono ?_); rintro e w1 ⟨rfl, hb1⟩; have HB1 := Lib.hid hb1; clear hb1) | (go_at_call 14; (with_reducible refine (CF.out _).mono ?_); rintro e w2 ⟨rfl, hb2⟩; have HB2 := Lib.hid hb2; clear hb2))
  go_ret
  exact ⟨rfl, (((But.refl _ _).alloc _).trans HB1.out).trans HB2.out⟩
set_option maxHeartbeats 1000000 in
theorem count_any (s : Q) (w : World) (hs : s.ok) : Calls Try.prog 17 #[sv s] w fun e w' => e = .returned (.int .i64 s.count) ∧ But No w w' := by
  have ha := hs.a
  have hb := hs.b
  have hc := hs.c
  have hd := hs.d
  have i0 : ∀ w x y z t, (Instr.index 23 (.agg #[x, y, z, t]) (.int .i64 0)).run Try.prog w = .ok x w := fun _ _ _ _ _ => by kernel_rfl
  have i1 : ∀ w x y z t, (Instr.index 23 (.agg #[x, y, z, t]) (.int .i64 1)).run Try.prog w = .ok y w := fun _ _ _ _ _ => by kernel_rfl
  have i2 : ∀ w x y z t, (Instr.index 23 (.agg #[x, y, z, t]) (.int .i64 2)).run Try.prog w = .ok z w := fun _ _ _ _ _ => by kernel_rfl
  have i3 : ∀ w x y z t, (Instr.index 23 (.agg #[x, y, z, t]) (.int .i64 3)).run Try.prog w = .ok t w := fun _ _ _ _ _ => by kernel_rfl
  have pa := pop_le s.a
  have pb := pop_le s.b
  have pc := pop_le s.c
  have pd := pop_le s.d
  have HC := Lib.hid s.count_eq
  go_enter Try.func17, Try.ntmps17
  go_wp2_with fail
  refine wp_loop_rounds 5 ?_
  rw [rounds_succ]
  go_wp2_with (first | (go_at_call 28; (with_reducible refine (ones_any _ _ ha).mono ?_); rintro e w' ⟨rfl, rfl⟩))
  rw [rounds_succ]
  go_wp2_with (first | (go_at_call 28; (with_reducible refine (ones_any _ _ hb).mono ?_); rintro e w' ⟨rfl, rfl⟩))
  rw [rounds_succ]
  go_wp2_with (first | (go_at_call 28; (with_reducible refine (ones_any _ _ hc).mono ?_); rintro e w' ⟨rfl, rfl⟩))
  rw [rounds_succ]
  go_wp2_with (first | (go_at_call 28; (with_reducible refine (ones_any _ _ hd).mono ?_); rintro e w' ⟨rfl, rfl⟩))
  rw [rounds_succ]
  go_wp2
  go_ret
  exact ⟨ret_int (by rw [HC.out]; omega), (But.refl _ _).alloc _⟩
end Go.Proofs.Ytgocjgipigjhbaa
