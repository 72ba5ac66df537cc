/- Contracts of Charge, Load, areCosts and New. -/
import Derived.Test.YtaichiodlbdpjaaC2
namespace Go.Proofs.Ytaichiodlbdpjaa
open Go.ChangeShapes Go.WideShapes Go.ChangeAt Go.RowKit Go.Deep
theorem Mv.no {w w' w2 : World} {S : Nat → Prop} {p n : Nat} {C : Cs} {f : Nat → St} (h : Mv w S p n C f w') (hb : But No w' w2) : Mv w S p n C f w2 := ⟨h.1.no hb, h.2.trans hb.no⟩
theorem Mv.drew {w w' : World} {S : Nat → Prop} {p n : Nat} {C : Cs} {f : Nat → St} (h : Mv w S p n C f w') : Mv w S p n C f w'.drew := h.no (But.refl _ _).drew
def cost (C : Cs) (op : Int) : Int := if op = 1 then C.a else if op = 2 then C.b else C.c
structure Fit (C : Cs) : Prop where
  a0 : 0 ≤ C.a
  a1 : C.a ≤ 50
  b0 : 0 ≤ C.b
  b1 : C.b ≤ 50
  c0 : 0 ≤ C.c
  c1 : C.c ≤ 50
theorem Fit.cost {C : Cs} (h : Fit C) (op : Int) : 0 ≤ cost C op ∧ cost C op ≤ 50 := by
  have := h.a0; have := h.a1; have := h.b0; have := h.b1; have := h.c0; have := h.c1
  unfold Ytaichiodlbdpjaa.cost; split
  · omega
  · split <;> omega
section
variable (p n : Nat) (C : Cs) (f : Nat → St) (S : Nat → Prop) (w : World)
theorem charge_bad (k : Nat) (op : Int) (hk : k < n) (ho : ¬ (1 ≤ op ∧ op ≤ 3)) (h : CP w S p n C f) : Calls Try.prog 13 #[.pointer (some ⟨p, 0, none⟩), .int .i64 k, .int .i64 op] w fun r w' => r = .returned (.bool false) ∧ w = w' := by
  obtain ⟨q, h1, h2⟩ := h.ex
  have CF := Lib.hid (find_in p q n k C f w h1 hk)
  have CO := Lib.hid (isOp_any op w)
  rw [decide_eq_false ho] at CO
  clear h h1 h2
  go_enter Try.func13, Try.ntmps13
  go_wp2_with (first | (go_at_call 23; refine CF.out.mono ?_; rintro e w1 ⟨rfl, rfl⟩) | (go_at_call 24; refine CO.out.mono ?_; rintro e w1 ⟨rfl, rfl⟩))
  go_ret
  exact ⟨rfl, rfl⟩
theorem charge_ok (k : Nat) (op : Int) (hk : k < n) (ho : 1 ≤ op ∧ op ≤ 3) (hC : Fit C) (h : CP w S p n C f) (h0 : 0 ≤ (f k).o) (h9 : (f k).o ≤ 1000000) :
    Calls Try.prog 13 #[.pointer (some ⟨p, 0, none⟩), .int .i64 k, .int .i64 op] w fun r w' => r = .returned (.bool true) ∧ Mv w S p n C (upd f k ⟨(f k).o + cost C op, (f k).l, (f k).s⟩) w' := by
  obtain ⟨q, h1, h2⟩ := h.ex
  have CF := Lib.hid (find_in p q n k C f w h1 hk)
  have CO := Lib.hid (isOp_any op w)
  rw [decide_eq_true ho] at CO
  have c0 := h1.o hk
  have fz : w.frozen? ⟨q, k * 3, none⟩ = false := h1.hq.frozen _
  have hc := hC.cost op
  have HM : Hid (Mv w S p n C (upd f k ⟨(f k).o + cost C op, (f k).l, (f k).s⟩) (w.setCell ⟨q, k * 3, none⟩ (.int .i64 ((f k).o + cost C op)))) := h1.mv h2 (But.refl _ _) _ (flat_o f k _)
  obtain rfl | rfl | rfl : op = 1 ∨ op = 2 ∨ op = 3 := by omega
  · have c1 : w.cell? ⟨p, 0, none⟩ = some (.int .i64 (cost C 1)) := h1.hp.cell (o := 0) rfl
    generalize (upd f k ⟨(f k).o + cost C 1, (f k).l, (f k).s⟩) = g at HM ⊢
    generalize (f k).o = x at c0 HM h0 h9
    generalize cost C 1 = y at c1 HM hc
    obtain ⟨y0, y1⟩ := hc
    have pq := h1.pq
    clear h h1 h2 ho
    go_enter Try.func13, Try.ntmps13
    go_wp2_with (first | (go_at_call 23; refine CF.out.mono ?_; rintro e w1 ⟨rfl, rfl⟩) | (go_at_call 24; refine CO.out.mono ?_; rintro e w1 ⟨rfl, rfl⟩))
    go_region
    all_goals go_wp2
    all_goals go_ret
    all_goals exact ⟨rfl, HM.out.drew⟩
  · have c1 : w.cell? ⟨p, 1, none⟩ = some (.int .i64 (cost C 2)) := h1.hp.cell (o := 1) rfl
    generalize (upd f k ⟨(f k).o + cost C 2, (f k).l, (f k).s⟩) = g at HM ⊢
    generalize (f k).o = x at c0 HM h0 h9
    generalize cost C 2 = y at c1 HM hc
    obtain ⟨y0, y1⟩ := hc
    have pq := h1.pq
    clear h h1 h2 ho
    go_enter Try.func13, Try.ntmps13
    go_wp2_with (first | (go_at_call 23; refine CF.out.mono ?_; rintro e w1 ⟨rfl, rfl⟩) | (go_at_call 24; refine CO.out.mono ?_; rintro e w1 ⟨rfl, rfl⟩))
    go_region
    all_goals go_wp2
    all_goals go_ret
    all_goals exact ⟨rfl, HM.out.drew⟩
  · have c1 : w.cell? ⟨p, 2, none⟩ = some (.int .i64 (cost C 3)) := h1.hp.cell (o := 2) rfl
    generalize (upd f k ⟨(f k).o + cost C 3, (f k).l, (f k).s⟩) = g at HM ⊢
    generalize (f k).o = x at c0 HM h0 h9
    generalize cost C 3 = y at c1 HM hc
    obtain ⟨y0, y1⟩ := hc
    have pq := h1.pq
    clear h h1 h2 ho
    go_enter Try.func13, Try.ntmps13
    go_wp2_with (first | (go_at_call 23; refine CF.out.mono ?_; rintro e w1 ⟨rfl, rfl⟩) | (go_at_call 24; refine CO.out.mono ?_; rintro e w1 ⟨rfl, rfl⟩))
    go_region
    all_goals go_wp2
    all_goals go_ret
    all_goals exact ⟨rfl, HM.out.drew⟩
theorem load_same (k : Nat) (t : Int) (hk : k < n) (h : CP w S p n C f) (h0 : (f k).l = t) : Calls Try.prog 14 #[.pointer (some ⟨p, 0, none⟩), .int .i64 k, .int .i64 t] w fun r w' => r = .returned (.bool false) ∧ w = w' := by
  obtain ⟨q, h1, h2⟩ := h.ex
  have CF := Lib.hid (find_in p q n k C f w h1 hk)
  have c0 := h1.l hk
  rw [h0] at c0
  have b1 : (t == t) = true := by simp
  clear h h1 h2 h0
  go_enter Try.func14, Try.ntmps14
  go_wp2_with (go_at_call 23; refine CF.out.mono ?_; rintro e w1 ⟨rfl, rfl⟩)
  go_ret
  exact ⟨rfl, rfl⟩
theorem load_new (k : Nat) (t : Int) (hk : k < n) (hC : Fit C) (h : CP w S p n C f) (hl : (f k).l ≠ t) (h0 : 0 ≤ (f k).o) (h9 : (f k).o ≤ 1000000) :
    Calls Try.prog 14 #[.pointer (some ⟨p, 0, none⟩), .int .i64 k, .int .i64 t] w fun r w' => r = .returned (.bool true) ∧ Mv w S p n C (upd f k ⟨(f k).o + C.b, t, (f k).s⟩) w' := by
  obtain ⟨q, h1, h2⟩ := h.ex
  have CF := Lib.hid (find_in p q n k C f w h1 hk)
  have c0 := h1.l hk
  have fz : w.frozen? ⟨q, k * 3 + 1, none⟩ = false := h1.hq.frozen _
  have HM : Hid (Mv w S p n C (upd f k ⟨(f k).o, t, (f k).s⟩) (w.setCell ⟨q, k * 3 + 1, none⟩ (.int .i64 t))) := h1.mv h2 (But.refl _ _) _ (flat_l f k _)
  have CC : Hid (∀ w1, Mv w S p n C (upd f k ⟨(f k).o, t, (f k).s⟩) w1 → Calls Try.prog 13 #[.pointer (some ⟨p, 0, none⟩), .int .i64 k, .int .i64 2] w1 fun r w' => r = .returned (.bool true) ∧ Mv w S p n C (upd f k ⟨(f k).o + C.b, t, (f k).s⟩) w') := by
    intro w1 hm
    have e : upd f k ⟨(f k).o, t, (f k).s⟩ k = ⟨(f k).o, t, (f k).s⟩ := by simp [upd]
    refine (charge_ok p n C _ S w1 k 2 hk (by omega) hC hm.1 (by rw [e]; exact h0) (by rw [e]; exact h9)).mono ?_
    rintro r w' ⟨rfl, hm2⟩
    refine ⟨rfl, ?_, hm.2.trans hm2.2⟩
    have := hm2.1
    rw [e] at this
    have e2 : upd (upd f k ⟨(f k).o, t, (f k).s⟩) k ⟨(f k).o + cost C 2, t, (f k).s⟩ = upd f k ⟨(f k).o + C.b, t, (f k).s⟩ := by
      funext j; unfold upd; by_cases hj : j = k
      · simp [hj, cost]
      · simp [hj]
    rw [e2] at this
    exact this
  generalize (upd f k ⟨(f k).o + C.b, t, (f k).s⟩) = g2 at CC ⊢
  generalize (upd f k ⟨(f k).o, t, (f k).s⟩) = g at HM CC
  have b1 : ((f k).l == t) = false := by simpa using hl
  generalize (f k).l = x at c0 b1
  clear h h1 h2 hl h0 h9 hC
  go_enter Try.func14, Try.ntmps14
  go_wp2_with (first | (go_at_call 23; refine CF.out.mono ?_; rintro e w1 ⟨rfl, rfl⟩) | (go_at_call 13; (refine (CC.out _ HM.out).mono ?_); rintro e w1 ⟨rfl, hm⟩))
  go_ret
  exact ⟨rfl, hm⟩
end
theorem areCosts_ok (C : Cs) (w : World) (h : Fit C) : Calls Try.prog 22 #[.agg #[.int .i64 C.a, .int .i64 C.b, .int .i64 C.c]] w fun r w' => r = .returned (.bool true) ∧ But No w w' := by
  obtain ⟨a, b, c⟩ := C
  obtain ⟨a0, a1, b0, b1, c0, c1⟩ := h
  simp only at a0 a1 b0 b1 c0 c1 ⊢
  have d0 : decide (a < 0) = false := by simpa using a0
  have d1 : decide (b < 0) = false := by simpa using b0
  have d2 : decide (c < 0) = false := by simpa using c0
  have e0 : decide (50 < a) = false := by simpa using a1
  have e1 : decide (50 < b) = false := by simpa using b1
  have e2 : decide (50 < c) = false := by simpa using c1
  have i0 : ∀ w x y z, (Instr.index 26 (.agg #[x, y, z]) (.int .i64 0)).run Try.prog w = .ok x w := fun _ _ _ _ => by kernel_rfl
  have i1 : ∀ w x y z, (Instr.index 26 (.agg #[x, y, z]) (.int .i64 1)).run Try.prog w = .ok y w := fun _ _ _ _ => by kernel_rfl
  have i2 : ∀ w x y z, (Instr.index 26 (.agg #[x, y, z]) (.int .i64 2)).run Try.prog w = .ok z w := fun _ _ _ _ => by kernel_rfl
  clear a0 a1 b0 b1 c0 c1
  go_enter Try.func22, Try.ntmps22
  go_wp2_with fail
  refine wp_loop_rounds 4 ?_
  rw [rounds_succ]
  go_wp2_with fail
  rw [rounds_succ]
  go_wp2_with fail
  rw [rounds_succ]
  go_wp2_with fail
  rw [rounds_succ]
  go_wp2_with fail
  go_ret
  exact ⟨rfl, (But.refl _ _).alloc _⟩
theorem info47 : (Try.prog.info? 47).map (fun i => (i.zero, i.size, i.bytes)) = some (some (.agg #[.int .i64 0, .int .i64 0, .int .i64 0]), 3, 24) := by kernel_rfl
def st0 : St := ⟨0, -1, 0⟩
theorem vals_made {w : World} {b n : Nat} (h : w.ownsRow 0 47 3 (.slice (some ⟨b, 0, none⟩) n n) n (madeCells (Value.agg #[.int .i64 0, .int .i64 0, .int .i64 0]).cells (n * 3)).toList) : Vals w b 47 (n * 3) (flat (fun _ => ⟨0, 0, 0⟩)) := by
  obtain ⟨h1, h2⟩ := h
  rcases h2 with ⟨h2, _⟩ | ⟨g, cap, cur, hv, _, hh, hn, hc, hs, ht⟩
  · cases h2
  · cases hv
    have e : cur = ((List.range (n * 3)).map (flat (fun _ => ⟨0, 0, 0⟩))).toArray := by
      apply Array.ext'
      have e1 : cur.toList.take (n * 3) = cur.toList := List.take_of_length_le (by simp; omega)
      rw [e1] at ht
      rw [ht]
      apply List.ext_getElem?
      intro j
      by_cases hj : j < n * 3
      · have hsz : (Value.agg #[.int .i64 0, .int .i64 0, .int .i64 0]).cells = #[.int .i64 0, .int .i64 0, .int .i64 0] := rfl
        have hm : j % 3 = 0 ∨ j % 3 = 1 ∨ j % 3 = 2 := by omega
        rcases hm with hm | hm | hm
        · simp [madeCells, hj, flat, hsz, hm]
        · simp [madeCells, hj, flat, hsz, hm]
        · simp [madeCells, hj, flat, hsz, hm]
      · simp [madeCells, hj]
    show w.heap[b]? = _
    rw [hh, e]
/-- So many cores have been told that they have run no task. -/
def fill (k : Nat) : Nat → St := fun j => if j < k then st0 else ⟨0, 0, 0⟩
theorem fill_next (k : Nat) : (fun j => if j = k * 3 + 1 then Value.int .i64 (-1) else flat (fill k) j) = flat (fill (k + 1)) := by
  rw [flat_l]
  congr 1
  funext j
  unfold upd fill st0
  by_cases h : j = k
  · subst h; simp
  · by_cases h2 : j < k
    · simp [h, h2, show j < k + 1 by omega]
    · simp [h, h2, show ¬ j < k + 1 by omega]
theorem fill_all (n : Nat) {w : World} {b : Nat} (h : Vals w b 47 (n * 3) (flat (fill n))) : Vals w b 47 (n * 3) (flat (fun _ => st0)) :=
  h.congr (fun j hj => by unfold flat fill; simp only [if_pos (show j / 3 < n by omega)])
def NewEnd (w : World) (n : Nat) (C : Cs) (p : Nat) (w' : World) : Prop := ∃ S, CP w' S p n C (fun _ => st0) ∧ But No w w' ∧ ∀ k, S k → w.heap.size ≤ k
theorem new_bad (n : Int) (w : World) (h : n < 1 ∨ 8 < n) :
    Calls Try.prog 12 #[.int .i64 n, .agg #[.int .i64 0, .int .i64 0, .int .i64 0]] w fun r w' => r = .returned (.tuple #[.pointer none, .int .i64 1]) ∧ But No w w' := by
  have CO := Lib.hid (fun W => isCount_any n W)
  rw [decide_eq_false (by omega)] at CO
  clear h
  go_enter Try.func12, Try.ntmps12
  go_wp2_with (go_at_call 20; refine (CO.out _).mono ?_; rintro e w1 ⟨rfl, rfl⟩)
  go_ret2
  exact ⟨rfl, (But.refl _ _).alloc _⟩
structure Mk (w wr : World) (b n k : Nat) (C : Cs) : Prop where
  but : But No w wr
  box : Blk wr w.heap.size #[.int .i64 C.a, .int .i64 C.b, .int .i64 C.c] 26
  all : Vals wr b 47 (n * 3) (flat (fill k))
  new : w.heap.size < b
theorem Mk.step {w wr : World} {b n k : Nat} {C : Cs} (h : Mk w wr b n k C) : Mk w (wr.setCell ⟨b, k * 3 + 1, none⟩ (.int .i64 (-1))) b n (k + 1) C :=
  ⟨h.but.setNew (p := ⟨b, k * 3 + 1, none⟩) (Nat.le_of_lt h.new) _, h.box.other (a := ⟨b, k * 3 + 1, none⟩) (Nat.ne_of_lt h.new) _, by
    have := h.all.set (k := k * 3 + 1) (.int .i64 (-1)); rw [fill_next] at this; exact this, h.new⟩
set_option maxHeartbeats 1000000 in
theorem new_ok (n : Nat) (C : Cs) (w : World) (h0 : 1 ≤ n) (h1 : n ≤ 8) (hC : Fit C) :
    Calls Try.prog 12 #[.int .i64 n, .agg #[.int .i64 C.a, .int .i64 C.b, .int .i64 C.c]] w fun r w' => ∃ p, r = .returned (.tuple #[.pointer (some ⟨p, 0, none⟩), .int .i64 0]) ∧ NewEnd w n C p w' := by
  have CO := Lib.hid (fun W => isCount_any n W)
  rw [decide_eq_true (by omega)] at CO
  have CA := Lib.hid (fun W => areCosts_ok C W hC)
  obtain ⟨i0, hi0, hz0, hz1, hz2⟩ := info_parts info47
  have I0 : Hid (Try.prog.info? 47 = some i0 ∧ i0.zero = some (.agg #[.int .i64 0, .int .i64 0, .int .i64 0]) ∧ i0.size = 3 ∧ i0.bytes = 24) := ⟨hi0, hz0, hz1, hz2⟩
  have HB0 : Hid (Blk (w.alloc (.cells #[.int .i64 C.a, .int .i64 C.b, .int .i64 C.c] 26)) w.heap.size #[.int .i64 C.a, .int .i64 C.b, .int .i64 C.c] 26) := Blk.new _ _ _
  clear hi0 hz0 hz1 hz2 hC
  go_enter Try.func12, Try.ntmps12
  go_wp2_with (first
    | (go_at_call 20; refine (CO.out _).mono ?_; rintro e w1 ⟨rfl, rfl⟩)
    | (go_at_call 22; refine (CA.out _).mono ?_; rintro e w1 ⟨rfl, hb⟩; have HX := Lib.hid (HB0.out.but hb (fun f => f)); have HW : Hid (But No w w1) := ((But.refl No w).alloc _).trans hb; have x0 := HX.out.cell (o := 0) rfl; have x1 := HX.out.cell (o := 1) rfl; have x2 := HX.out.cell (o := 2) rfl; clear hb)
    | (at_make; refine wpList_make_full _ rfl _ _ 45 rfl 0 47 i0 _ 3 Try.underlying45 I0.out.1 I0.out.2.1 I0.out.2.2.1 .i64 .i64 _ _ n rfl rfl (by omega) (by omega) (by rw [I0.out.2.2.2]; omega) (by unfold maxLen; omega) (Nat.zero_le _) ?_; intro w0 hown0 hgrow0; have HK : Hid (Mk w w0 w1.heap.size n 0 C) := ⟨HW.out.grown hgrow0 (fun k e => by cases e), HX.out.but ((But.refl No w1).grown hgrow0 (fun k e => by cases e)) (fun f => f), vals_made hown0, HX.out.lt⟩; clear hown0 hgrow0))
  generalize w1.heap.size = b at HK ⊢
  clear x0 x1 x2 HX HW HB0 CO CA I0
  go_loopw [20] (fun s wr => ∃ k : Nat, s = .int .i64 k ∧ k ≤ n ∧ Hid (Mk w wr b n k C)) (fun s _ => n - (intOf s).toNat)
  case atStart => exact ⟨0, rfl, by omega, HK⟩
  case round =>
    obtain ⟨k, rfl, hk, hm⟩ := hrel
    by_cases hlt : k < n
    · have kn' : (k : Int) < (n : Int) := by omega
      have fz : wr.frozen? ⟨b, k * 3 + 1, none⟩ = false := hm.out.all.frozen _
      have c1 := hm.out.all.cell (k := k * 3 + 1) (by omega)
      go_wp2
      go_roundw
      case rel => exact ⟨k + 1, by go_num, by omega, hm.out.step⟩
      case measure => simp [intOf]; omega
    · have b1 : decide ((k : Int) < (n : Int)) = false := by simp; omega
      obtain rfl : k = n := by omega
      have y0 := hm.out.box.cell (o := 0) rfl
      have y1 := hm.out.box.cell (o := 1) rfl
      have y2 := hm.out.box.cell (o := 2) rfl
      go_wp2
      go_ret2
      refine ⟨wr.heap.size, rfl, Own wr.heap.size b, ⟨b, ⟨?_, Blk.new _ _ _, (fill_all k hm.out.all).but (S := No) ((But.refl _ _).alloc _) (fun f => f), h1⟩, fun _ => Iff.rfl⟩, hm.out.but.alloc _, ?_⟩
      · have := hm.out.all.lt; omega
      · rintro j (rfl | rfl)
        · exact hm.out.but.size
        · exact Nat.le_of_lt hm.out.new
end Go.Proofs.Ytaichiodlbdpjaa
