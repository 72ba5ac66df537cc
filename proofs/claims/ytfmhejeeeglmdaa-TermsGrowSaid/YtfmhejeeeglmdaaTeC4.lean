/- The contracts of hasTask, find and Uses. -/
import Derived.Test.YtfmhejeeeglmdaaTeC3
namespace Go.Proofs.Ytfmhejeeeglmdaa.ter
open Go.ChangeShapes Go.WideShapes Go.ChangeAt Go.RowKit Go.Deep ky2 val
theorem tsk_cases (s : Sys) (task : Int) : (∃ (k : Nat) (t : Tsk), task = (k : Int) ∧ s.ts[k]? = some t ∧ right s = true ∧ tsk? s task = some t) ∨ (tsk? s task = none ∧ (task < 0 ∨ (s.ts.length : Int) ≤ task ∨ right s = false)) := by
  unfold tsk?
  by_cases h : right s = true ∧ 0 ≤ task
  · rw [if_pos h]
    by_cases hl : task.toNat < s.ts.length
    · exact .inl ⟨task.toNat, s.ts[task.toNat], by omega, List.getElem?_eq_getElem hl, h.1, List.getElem?_eq_getElem hl⟩
    · exact .inr ⟨List.getElem?_eq_none (by omega), by omega⟩
  · rw [if_neg h]
    refine .inr ⟨rfl, ?_⟩
    cases hr : right s with
    | true => rw [hr] at h; have : ¬ 0 ≤ task := fun h' => h ⟨rfl, h'⟩; omega
    | false => simp
theorem sec_cases (s : Sys) (task sect : Int) : (∃ (k : Nat) (t : Tsk) (j : Nat) (x : Sec), task = (k : Int) ∧ s.ts[k]? = some t ∧ right s = true ∧ tsk? s task = some t ∧ sect = (j : Int) ∧ t.secs[j]? = some x ∧ sec? s task sect = some x) ∨
    (sec? s task sect = none ∧ tsk? s task = none) ∨ (sec? s task sect = none ∧ ∃ (k : Nat) (t : Tsk), task = (k : Int) ∧ s.ts[k]? = some t ∧ right s = true ∧ tsk? s task = some t ∧ (sect < 0 ∨ (t.secs.length : Int) ≤ sect)) := by
  unfold sec?
  rcases tsk_cases s task with ⟨k, t, h1, h2, h3, h4⟩ | ⟨h4, _⟩
  · rw [h4]
    simp only [Option.bind_some]
    by_cases h : 0 ≤ sect
    · rw [if_pos h]
      by_cases hl : sect.toNat < t.secs.length
      · exact .inl ⟨k, t, sect.toNat, t.secs[sect.toNat], h1, h2, h3, rfl, by omega, List.getElem?_eq_getElem hl, List.getElem?_eq_getElem hl⟩
      · exact .inr (.inr ⟨List.getElem?_eq_none (by omega), k, t, h1, h2, h3, rfl, by omega⟩)
    · rw [if_neg h]
      exact .inr (.inr ⟨rfl, k, t, h1, h2, h3, rfl, by omega⟩)
  · rw [h4]
    exact .inr (.inl ⟨rfl, rfl⟩)
/-- What find answers. -/
def findV (o : Option Sec) : Value := match o with | some x => .tuple #[secV x, .bool true] | none => .tuple #[secV (0, 0, 0), .bool false]
set_option maxRecDepth 100000 in
set_option maxHeartbeats 2000000 in
theorem hasTask_any (s : Sys) (A : Option Addr) (n c : Nat) (task : Int) (w : World) (h : RSys w A n c s) : Calls Try.prog 27 #[sysV s A n c, .int .i64 task] w fun e w' => e = .returned (.bool (tsk? s task).isSome) ∧ But No w w' := by
  have HN := h.ts.len
  have CR : Hid (∀ W, But No w W → Calls Try.prog 18 #[sysV s A n c] W fun e w' => e = .returned (.bool (right s)) ∧ But No W w') := fun W hb => right_any s A n c W (h.no hb)
  clear h
  rcases tsk_cases s task with ⟨k, t, rfl, h2, h3, h4⟩ | ⟨h4, h5⟩
  · have hk := (List.getElem?_eq_some_iff.1 h2).1
    rw [HN] at hk
    have hk2 : (k : Int) < (n : Int) := by omega
    have hk0 : (0 : Int) ≤ (k : Int) := Int.natCast_nonneg k
    rw [h3] at CR
    rw [h4]
    clear h2 h3 h4 HN
    unfold sysV at CR ⊢
    go_enter Try.func27, Try.ntmps27
    go_wp2_with (go_at_call 18; refine (CR.out _ ((But.refl No w).alloc _)).mono ?_; rintro e w1 ⟨rfl, hb1⟩; have HB1 := Lib.hid (((But.refl No w).alloc _).trans hb1); clear hb1)
    go_ret
    exact ⟨rfl, HB1.out⟩
  · rw [h4, show (none : Option Tsk).isSome = false from rfl]
    clear h4
    by_cases h0 : task < 0
    · have b0 : decide ((0 : Int) ≤ task) = false := by simp; omega
      clear h5
      unfold sysV at CR ⊢
      go_enter Try.func27, Try.ntmps27
      go_wp2
      go_ret
      exact ⟨rfl, (But.refl No w).alloc _⟩
    · have b0 : decide ((0 : Int) ≤ task) = true := by simp; omega
      by_cases h1 : (n : Int) ≤ task
      · have b1 : decide (task < (n : Int)) = false := by simp; omega
        clear h5
        unfold sysV at CR ⊢
        go_enter Try.func27, Try.ntmps27
        go_wp2
        go_ret
        exact ⟨rfl, (But.refl No w).alloc _⟩
      · have b1 : decide (task < (n : Int)) = true := by simp; omega
        have h3 : right s = false := by
          rw [HN] at h5
          rcases h5 with h | h | h
          · omega
          · omega
          · exact h
        rw [h3] at CR
        clear h3 h5
        unfold sysV at CR ⊢
        go_enter Try.func27, Try.ntmps27
        go_wp2_with (go_at_call 18; refine (CR.out _ ((But.refl No w).alloc _)).mono ?_; rintro e w1 ⟨rfl, hb1⟩; have HB1 := Lib.hid (((But.refl No w).alloc _).trans hb1); clear hb1)
        go_ret
        exact ⟨rfl, HB1.out⟩
theorem tskN (s : Sys) (task : Int) (h : tsk? s task = none) : (tsk? s task).isSome = false := by rw [h]; rfl
set_option maxRecDepth 100000 in
set_option maxHeartbeats 2000000 in
theorem find_any (s : Sys) (A : Option Addr) (n c : Nat) (task sect : Int) (w : World) (h : RSys w A n c s) : Calls Try.prog 23 #[sysV s A n c, .int .i64 task, .int .i64 sect] w fun e w' => e = .returned (findV (sec? s task sect)) ∧ But No w w' := by
  have HN := h.ts.len
  have HR := Lib.hid h.ts
  have CH : Hid (∀ W, But No w W → Calls Try.prog 27 #[sysV s A n c, .int .i64 task] W fun e w' => e = .returned (.bool (tsk? s task).isSome) ∧ But No W w') := fun W hb => hasTask_any s A n c task W (h.no hb)
  clear h
  rcases sec_cases s task sect with ⟨k, t, j, x, rfl, h2, h3, h4, rfl, h5, h6⟩ | ⟨h6, h4⟩ | ⟨h6, k, t, rfl, h2, h3, h4, h5⟩
  · have hk := (List.getElem?_eq_some_iff.1 h2).1
    rw [HN] at hk
    have hk2 : (k : Int) < (n : Int) := by omega
    have hk0 : (0 : Int) ≤ (k : Int) := Int.natCast_nonneg k
    rw [h6]
    rw [h4, show (some t).isSome = true from rfl] at CH
    obtain ⟨b, off, A', c', rfl, _, _, _, c3, _, hS⟩ := HR.out.at1 h2
    have hj := (List.getElem?_eq_some_iff.1 h5).1
    obtain ⟨bb, oo, rfl, e0, e1, e2⟩ := hS.at1 h5
    obtain ⟨x0, x1, x2⟩ := x
    simp only at e0 e1 e2
    generalize t.secs.length = m at c3 hj
    have hj2 : (j : Int) < (m : Int) := by omega
    have hj0 : (0 : Int) ≤ (j : Int) := Int.natCast_nonneg j
    have b1 : decide ((m : Int) ≤ (j : Int)) = false := by simp; omega
    have b2 : decide (m ≤ j) = false := by simp; omega
    clear h2 h3 h4 h5 h6 hS HN
    unfold sysV at CH ⊢
    go_enter Try.func23, Try.ntmps23
    go_wp2_with (go_at_call 27; refine (CH.out _ (((But.refl No w).alloc _).alloc _)).mono ?_; rintro e w1 ⟨rfl, hb1⟩; have hB := (((But.refl No w).alloc _).alloc _).trans hb1; have HB1 := Lib.hid hB; have q3 := cell_keep c3 hB; have r0 := cell_keep e0 hB; have r1 := cell_keep e1 hB; have r2 := cell_keep e2 hB; have hx := (blk2 w (.cells (boxS s (some ⟨b, off, none⟩) n c) 24) #[.int .i64 0, .int .i64 0, .int .i64 0] 36).but hb1 (fun f => f); have HX := Lib.hid hx; have f0 := hx.frozen 0; have f1 := hx.frozen 1; have f2 := hx.frozen 2; have g0 := hx.cell (o := 0) rfl; have g1 := hx.cell (o := 1) rfl; have g2 := hx.cell (o := 2) rfl; have s8 : w1.cell? ⟨w.heap.size, 8, none⟩ = some (.slice (some ⟨b, off, none⟩) n c) := (((Blk.new w (boxS s (some ⟨b, off, none⟩) n c) 24).alloc (.cells #[.int .i64 0, .int .i64 0, .int .i64 0] 36)).but hb1 (fun f => f)).cell (o := 8) rfl; clear hx hb1 hB)
    obtain ⟨w3, hw3, hb3, k0, k1, k2⟩ : ∃ w3, ((w1.setCell ⟨w.heap.size + 1, 0, none⟩ (.int .i64 x0)).setCell ⟨w.heap.size + 1, 1, none⟩ (.int .i64 x1)).setCell ⟨w.heap.size + 1, 2, none⟩ (.int .i64 x2) = w3 ∧ But No w w3 ∧ w3.cell? ⟨w.heap.size + 1, 0, none⟩ = some (.int .i64 x0) ∧ w3.cell? ⟨w.heap.size + 1, 1, none⟩ = some (.int .i64 x1) ∧ w3.cell? ⟨w.heap.size + 1, 2, none⟩ = some (.int .i64 x2) := by
      have hb := store3 HX.out (.int .i64 x0) (.int .i64 x1) (.int .i64 x2)
      exact ⟨_, rfl, ((HB1.out.setNew (Nat.le_succ _) _).setNew (Nat.le_succ _) _).setNew (Nat.le_succ _) _, hb.cell rfl, hb.cell rfl, hb.cell rfl⟩
    rw [hw3]
    clear hw3
    refine bodyPost_ret (v := findV (some (x0, x1, x2))) (by simp [results, Try.results23, go_sem, k0, k1, k2, findV]) rfl ?_
    exact ⟨rfl, hb3⟩
  · rw [h6]
    rw [tskN s task h4] at CH
    clear h4 h6 HN
    unfold sysV at CH ⊢
    go_enter Try.func23, Try.ntmps23
    go_wp2_with (go_at_call 27; refine (CH.out _ (((But.refl No w).alloc _).alloc _)).mono ?_; rintro e w1 ⟨rfl, hb1⟩; have hB := (((But.refl No w).alloc _).alloc _).trans hb1; have HB1 := Lib.hid hB; have hx := (blk2 w (.cells (boxS s A n c) 24) #[.int .i64 0, .int .i64 0, .int .i64 0] 36).but hb1 (fun f => f); have HX := Lib.hid hx; have f0 := hx.frozen 0; have f1 := hx.frozen 1; have f2 := hx.frozen 2; have g0 := hx.cell (o := 0) rfl; have g1 := hx.cell (o := 1) rfl; have g2 := hx.cell (o := 2) rfl; have s8 : w1.cell? ⟨w.heap.size, 8, none⟩ = some (.slice A n c) := (((Blk.new w (boxS s A n c) 24).alloc (.cells #[.int .i64 0, .int .i64 0, .int .i64 0] 36)).but hb1 (fun f => f)).cell (o := 8) rfl; clear hx hb1 hB)
    obtain ⟨w3, hw3, hb3, k0, k1, k2⟩ : ∃ w3, ((w1.setCell ⟨w.heap.size + 1, 0, none⟩ (.int .i64 0)).setCell ⟨w.heap.size + 1, 1, none⟩ (.int .i64 0)).setCell ⟨w.heap.size + 1, 2, none⟩ (.int .i64 0) = w3 ∧ But No w w3 ∧ w3.cell? ⟨w.heap.size + 1, 0, none⟩ = some (.int .i64 0) ∧ w3.cell? ⟨w.heap.size + 1, 1, none⟩ = some (.int .i64 0) ∧ w3.cell? ⟨w.heap.size + 1, 2, none⟩ = some (.int .i64 0) := by
      have hb := store3 HX.out (.int .i64 0) (.int .i64 0) (.int .i64 0)
      exact ⟨_, rfl, ((HB1.out.setNew (Nat.le_succ _) _).setNew (Nat.le_succ _) _).setNew (Nat.le_succ _) _, hb.cell rfl, hb.cell rfl, hb.cell rfl⟩
    rw [hw3]
    clear hw3
    refine bodyPost_ret (v := findV (none)) (by simp [results, Try.results23, go_sem, k0, k1, k2, findV]) rfl ?_
    exact ⟨rfl, hb3⟩
  · have hk := (List.getElem?_eq_some_iff.1 h2).1
    rw [HN] at hk
    have hk2 : (k : Int) < (n : Int) := by omega
    have hk0 : (0 : Int) ≤ (k : Int) := Int.natCast_nonneg k
    rw [h6]
    rw [h4, show (some t).isSome = true from rfl] at CH
    obtain ⟨b, off, A', c', rfl, _, _, _, c3, _, hS⟩ := HR.out.at1 h2
    have HM := Lib.hid hS.len
    generalize t.secs.length = m at c3 h5
    by_cases h0 : sect < 0
    · have b0 : decide (sect < 0) = true := by simp [h0]
      clear h2 h3 h4 h5 h6 hS HN
      unfold sysV at CH ⊢
      go_enter Try.func23, Try.ntmps23
      go_wp2_with (go_at_call 27; refine (CH.out _ (((But.refl No w).alloc _).alloc _)).mono ?_; rintro e w1 ⟨rfl, hb1⟩; have hB := (((But.refl No w).alloc _).alloc _).trans hb1; have HB1 := Lib.hid hB; have q3 := cell_keep c3 hB; have hx := (blk2 w (.cells (boxS s (some ⟨b, off, none⟩) n c) 24) #[.int .i64 0, .int .i64 0, .int .i64 0] 36).but hb1 (fun f => f); have HX := Lib.hid hx; have f0 := hx.frozen 0; have f1 := hx.frozen 1; have f2 := hx.frozen 2; have g0 := hx.cell (o := 0) rfl; have g1 := hx.cell (o := 1) rfl; have g2 := hx.cell (o := 2) rfl; have s8 : w1.cell? ⟨w.heap.size, 8, none⟩ = some (.slice (some ⟨b, off, none⟩) n c) := (((Blk.new w (boxS s (some ⟨b, off, none⟩) n c) 24).alloc (.cells #[.int .i64 0, .int .i64 0, .int .i64 0] 36)).but hb1 (fun f => f)).cell (o := 8) rfl; clear hx hb1 hB)
      obtain ⟨w3, hw3, hb3, k0, k1, k2⟩ : ∃ w3, ((w1.setCell ⟨w.heap.size + 1, 0, none⟩ (.int .i64 0)).setCell ⟨w.heap.size + 1, 1, none⟩ (.int .i64 0)).setCell ⟨w.heap.size + 1, 2, none⟩ (.int .i64 0) = w3 ∧ But No w w3 ∧ w3.cell? ⟨w.heap.size + 1, 0, none⟩ = some (.int .i64 0) ∧ w3.cell? ⟨w.heap.size + 1, 1, none⟩ = some (.int .i64 0) ∧ w3.cell? ⟨w.heap.size + 1, 2, none⟩ = some (.int .i64 0) := by
        have hb := store3 HX.out (.int .i64 0) (.int .i64 0) (.int .i64 0)
        exact ⟨_, rfl, ((HB1.out.setNew (Nat.le_succ _) _).setNew (Nat.le_succ _) _).setNew (Nat.le_succ _) _, hb.cell rfl, hb.cell rfl, hb.cell rfl⟩
      rw [hw3]
      clear hw3
      refine bodyPost_ret (v := findV (none)) (by simp [results, Try.results23, go_sem, k0, k1, k2, findV]) rfl ?_
      exact ⟨rfl, hb3⟩
    · have b0 : decide (sect < 0) = false := by simp; omega
      have b1 : decide ((m : Int) ≤ sect) = true := by simp; omega
      clear h2 h3 h4 h5 h6 hS HN
      unfold sysV at CH ⊢
      go_enter Try.func23, Try.ntmps23
      go_wp2_with (go_at_call 27; refine (CH.out _ (((But.refl No w).alloc _).alloc _)).mono ?_; rintro e w1 ⟨rfl, hb1⟩; have hB := (((But.refl No w).alloc _).alloc _).trans hb1; have HB1 := Lib.hid hB; have q3 := cell_keep c3 hB; have hx := (blk2 w (.cells (boxS s (some ⟨b, off, none⟩) n c) 24) #[.int .i64 0, .int .i64 0, .int .i64 0] 36).but hb1 (fun f => f); have HX := Lib.hid hx; have f0 := hx.frozen 0; have f1 := hx.frozen 1; have f2 := hx.frozen 2; have g0 := hx.cell (o := 0) rfl; have g1 := hx.cell (o := 1) rfl; have g2 := hx.cell (o := 2) rfl; have s8 : w1.cell? ⟨w.heap.size, 8, none⟩ = some (.slice (some ⟨b, off, none⟩) n c) := (((Blk.new w (boxS s (some ⟨b, off, none⟩) n c) 24).alloc (.cells #[.int .i64 0, .int .i64 0, .int .i64 0] 36)).but hb1 (fun f => f)).cell (o := 8) rfl; clear hx hb1 hB)
      obtain ⟨w3, hw3, hb3, k0, k1, k2⟩ : ∃ w3, ((w1.setCell ⟨w.heap.size + 1, 0, none⟩ (.int .i64 0)).setCell ⟨w.heap.size + 1, 1, none⟩ (.int .i64 0)).setCell ⟨w.heap.size + 1, 2, none⟩ (.int .i64 0) = w3 ∧ But No w w3 ∧ w3.cell? ⟨w.heap.size + 1, 0, none⟩ = some (.int .i64 0) ∧ w3.cell? ⟨w.heap.size + 1, 1, none⟩ = some (.int .i64 0) ∧ w3.cell? ⟨w.heap.size + 1, 2, none⟩ = some (.int .i64 0) := by
        have hb := store3 HX.out (.int .i64 0) (.int .i64 0) (.int .i64 0)
        exact ⟨_, rfl, ((HB1.out.setNew (Nat.le_succ _) _).setNew (Nat.le_succ _) _).setNew (Nat.le_succ _) _, hb.cell rfl, hb.cell rfl, hb.cell rfl⟩
      rw [hw3]
      clear hw3
      refine bodyPost_ret (v := findV (none)) (by simp [results, Try.results23, go_sem, k0, k1, k2, findV]) rfl ?_
      exact ⟨rfl, hb3⟩
theorem tskS (s : Sys) (task : Int) {t : Tsk} (h : tsk? s task = some t) : (tsk? s task).isSome = true := by rw [h]; rfl
set_option maxRecDepth 100000 in
set_option maxHeartbeats 2000000 in
theorem uses_any (s : Sys) (A : Option Addr) (n c : Nat) (task : Int) (w : World) (h : RSys w A n c s) : Calls Try.prog 16 #[sysV s A n c, .int .i64 task] w fun e w' => e = .returned (.bool (usesV s task)) ∧ But No w w' := by
  have HN := h.ts.len
  have HR := Lib.hid h.ts
  have CH : Hid (∀ W, But No w W → Calls Try.prog 27 #[sysV s A n c, .int .i64 task] W fun e w' => e = .returned (.bool (tsk? s task).isSome) ∧ But No W w') := fun W hb => hasTask_any s A n c task W (h.no hb)
  clear h
  rcases tsk_cases s task with ⟨k, t, rfl, h2, h3, h4⟩ | ⟨h4, _⟩
  · have hk := (List.getElem?_eq_some_iff.1 h2).1
    rw [HN] at hk
    have hk2 : (k : Int) < (n : Int) := by omega
    have hk0 : (0 : Int) ≤ (k : Int) := Int.natCast_nonneg k
    have HU : Hid (usesV s k = decide (0 < t.secs.length)) := Lib.hid (by unfold usesV; rw [h4])
    rw [tskS s k h4] at CH
    obtain ⟨b, off, A', c', rfl, _, _, _, c3, _, hS⟩ := HR.out.at1 h2
    clear h2 h3 h4 HN
    generalize t.secs.length = m at c3 hS HU
    unfold sysV at CH ⊢
    go_enter Try.func16, Try.ntmps16
    go_wp2_with (go_at_call 27; refine (CH.out _ ((But.refl No w).alloc _)).mono ?_; rintro e w1 ⟨rfl, hb1⟩; have hB := ((But.refl No w).alloc _).trans hb1; have HB1 := Lib.hid hB; have q3 := cell_keep c3 hB; have s8 : w1.cell? ⟨w.heap.size, 8, none⟩ = some (.slice (some ⟨b, off, none⟩) n c) := ((Blk.new w (boxS s (some ⟨b, off, none⟩) n c) 24).but hb1 (fun f => f)).cell (o := 8) rfl; clear hb1 hB)
    go_ret
    exact ⟨ret_bool (by rw [HU.out]), HB1.out⟩
  · have HU : Hid (usesV s task = false) := Lib.hid (by unfold usesV; rw [h4])
    rw [tskN s task h4] at CH
    clear h4 HN
    unfold sysV at CH ⊢
    go_enter Try.func16, Try.ntmps16
    go_wp2_with (go_at_call 27; refine (CH.out _ ((But.refl No w).alloc _)).mono ?_; rintro e w1 ⟨rfl, hb1⟩; have HB1 := Lib.hid (((But.refl No w).alloc _).trans hb1); clear hb1)
    go_ret
    exact ⟨ret_bool HU.out.symm, HB1.out⟩
end Go.Proofs.Ytfmhejeeeglmdaa.ter
