/- The contracts of the program's own fold of totals, of what is asked and of what comes (chapter 15). -/
import Derived.Test.YtfpcnilcbaiojaaDeC4
namespace Go.Proofs.Ytfpcnilcbaiojaa.dem
open Go.ChangeShapes Go.WideShapes Go.ChangeAt Go.RowKit Go.Deep
/-- A total in a block of the call's own, and an empty one. -/
structure FT (w wr : World) (R : Int × Int) : Prop where
  box : Blk wr w.heap.size #[.int .i64 R.1, .int .i64 R.2] 61
  res : Blk wr (w.heap.size + 1) #[.int .i64 0, .int .i64 0] 61
  but : But No w wr
theorem FT.start (w : World) (R : Int × Int) : FT w ((w.alloc (.cells #[.int .i64 R.1, .int .i64 R.2] 61)).alloc (.cells #[.int .i64 0, .int .i64 0] 61)) R := ⟨(Blk.new w _ _).alloc _, blk2 w _ _ _, ((But.refl No w).alloc _).alloc _⟩
theorem FT.no {w wr w2 : World} {R : Int × Int} (h : FT w wr R) (hb : But No wr w2) : FT w w2 R := ⟨h.box.but hb (fun f => f), h.res.but hb (fun f => f), h.but.trans hb⟩
theorem FT.set {w wr : World} {R : Int × Int} (h : FT w wr R) (a b : Int) : FT w ((wr.setCell ⟨w.heap.size, 0, none⟩ (.int .i64 a)).setCell ⟨w.heap.size, 1, none⟩ (.int .i64 b)) (a, b) :=
  ⟨(h.box.set 0 _).set 1 _, (h.res.other (a := ⟨w.heap.size, 0, none⟩) (Nat.succ_ne_self _) _).other (a := ⟨w.heap.size, 1, none⟩) (Nat.succ_ne_self _) _, (h.but.setNew (Nat.le_refl _) _).setNew (Nat.le_refl _) _⟩
set_option maxRecDepth 100000 in
set_option maxHeartbeats 4000000 in
/-- The fold of a total. -/
theorem foldT_any (A : Option Addr) (n c : Nat) (l : List Wk) (T : Nat → Int × Int) (q1 q2 q3 : Value) (w : World) (h : RWk w A n l)
    (hF : ∀ (i : Nat) (x : Wk) (W : World), l[i]? = some x → But No w W → Calls Try.prog 45 #[.agg #[.int .i64 (T i).1, .int .i64 (T i).2], wkV x, q1, q2, q3] W fun e w' => e = .returned (.agg #[.int .i64 (T (i + 1)).1, .int .i64 (T (i + 1)).2]) ∧ But No W w') :
    Calls Try.prog 44 #[.slice A n c, .agg #[.int .i64 (T 0).1, .int .i64 (T 0).2], .func (.func 45) #[] #[q1, q2, q3]] w fun e w' => e = .returned (.agg #[.int .i64 (T n).1, .int .i64 (T n).2]) ∧ But No w w' := by
  have HN := Lib.hid h.len
  have HL := Lib.hid h
  have hmax := h.max
  have HF := Lib.hid hF
  have H0 := Lib.hid (FT.start w (T 0))
  clear h hF
  go_enter Try.func44, Try.ntmps44
  go_wp2_with fail
  go_loopw [11] (fun i wr => ∃ q : Nat, i = .int .i64 (q : Int) ∧ q ≤ n ∧ Hid (FT w wr (T q))) (fun i _ => n - (intOf i).toNat)
  case atStart => exact ⟨0, rfl, by omega, H0.out⟩
  case round =>
    obtain ⟨q, rfl, hq, HT⟩ := hrel
    clear H0
    by_cases hqn : q < n
    · have hqn2 : (q : Int) < (n : Int) := by omega
      have hq0 : (0 : Int) ≤ (q : Int) := Int.natCast_nonneg q
      obtain ⟨x, hx⟩ : ∃ x, l[q]? = some x := ⟨_, List.getElem?_eq_getElem (by rw [HN.out]; exact hqn)⟩
      obtain ⟨b, off, rfl, _, e0, e1, e2, e3⟩ := (HL.out.no HT.out.but).at1 hx
      have CF : Hid (∀ W, But No w W → Calls Try.prog 45 #[.agg #[.int .i64 (T q).1, .int .i64 (T q).2], wkV x, q1, q2, q3] W fun e w' => e = .returned (.agg #[.int .i64 (T (q + 1)).1, .int .i64 (T (q + 1)).2]) ∧ But No W w') := Lib.hid (fun W hb => HF.out q x W hx hb)
      clear hx
      obtain ⟨x0, x1, x2, x3⟩ := x
      unfold wkV at CF
      dsimp only at e0 e1 e2 e3 CF
      obtain ⟨y, hy⟩ : ∃ y, T (q + 1) = y := ⟨_, rfl⟩
      rw [hy] at CF
      have HY := Lib.hid hy
      obtain ⟨z, hz⟩ : ∃ z, T q = z := ⟨_, rfl⟩
      rw [hz] at CF HT
      clear hy hz
      obtain ⟨y0, y1⟩ := y
      obtain ⟨z0, z1⟩ := z
      dsimp only at CF
      have hTa := HT.out.no ((But.refl No wr).alloc (.cells #[.int .i64 x0, .int .i64 x1, .int .i64 x2, .bool x3] 38))
      have s0 := HT.out.box.cell (o := 0) rfl
      have s1 := HT.out.box.cell (o := 1) rfl
      have r0 := hTa.box.cell (o := 0) rfl
      have r1 := hTa.box.cell (o := 1) rfl
      have HTA := Lib.hid hTa
      clear hTa
      dsimp only at s0 s1 r0 r1
      go_wp2_with (go_at_call 45; (with_reducible refine (CF.out _ HTA.out.but).mono ?_); rintro e w1 ⟨rfl, hb1⟩; have hT1 := HTA.out.no hb1; have g0 := hT1.box.frozen 0; have g1 := hT1.box.frozen 1; have t0 := hT1.box.cell (o := 0) rfl; have t1 := hT1.box.cell (o := 1) rfl; have HT1 := Lib.hid hT1; clear hT1 hb1)
      go_roundw
      case rel => exact ⟨q + 1, by go_num, by omega, by rw [HY.out]; exact HT1.out.set _ _⟩
      case measure => simp [intOf]; omega
    · have HI : Hid (q = n) := Lib.hid (by omega)
      have b3 : decide ((q : Int) < (n : Int)) = false := by simp; omega
      rw [HI.out] at HT
      obtain ⟨z, hz⟩ : ∃ z, T n = z := ⟨_, rfl⟩
      rw [hz] at HT
      have HZ := Lib.hid hz
      clear hz
      obtain ⟨z0, z1⟩ := z
      have s0 := HT.out.box.cell (o := 0) rfl
      have s1 := HT.out.box.cell (o := 1) rfl
      have g0 := HT.out.res.frozen 0
      have g1 := HT.out.res.frozen 1
      have t0 := HT.out.res.cell (o := 0) rfl
      have t1 := HT.out.res.cell (o := 1) rfl
      dsimp only at s0 s1
      have KF := (HT.out.res.set 0 (.int .i64 z0)).set 1 (.int .i64 z1)
      have f0 := KF.cell (o := 0) rfl
      have f1 := KF.cell (o := 1) rfl
      clear KF
      go_wp2
      exact bodyPost_ret (v := .agg #[.int .i64 z0, .int .i64 z1]) (by simp [results, Try.results44, go_sem, f0, f1]) rfl ⟨by rw [HZ.out], (HT.out.but.setNew (Nat.le_succ _) _).setNew (Nat.le_succ _) _⟩
set_option maxRecDepth 100000 in
set_option maxHeartbeats 4000000 in
theorem sum_com (A : Option Addr) (n c : Nat) (l : List Wk) (bl rl t : Int) (bt : Nat) (w : World) (h : RWk w A n l) (hr : right l bl rl = true) (ht : 1 ≤ t ∧ t ≤ 9223372036854775807) (hc : w.cell? ⟨bt, 0, none⟩ = some (.int .i64 t)) :
    Calls Try.prog 34 #[.agg #[.slice A n c, .int .i64 bl, .int .i64 rl], .int .i64 t, .func (.func 52) #[] #[.pointer (some ⟨bt, 0, none⟩)]] w fun e w' => e = .returned (.tuple #[.int .i64 (tot bl (cmt rl t) t l n).1, .int .i64 (tot bl (cmt rl t) t l n).2]) ∧ But No w w' := by
  have hmax := h.max
  have hl := h.len
  obtain ⟨_, ⟨hb0, hb9⟩, ⟨hr0, hr9⟩, hok⟩ := right_iff.1 hr
  have hf : ∀ y ∈ l, 0 ≤ cmt rl t y := fun y hy => by have := trm_bd (rl := rl) ht.1 hr0 (hok y hy); omega
  have h3 : Blk (((w.alloc (.cells #[.slice A n c, .int .i64 bl, .int .i64 rl] 44)).alloc (.cells #[.int .i64 t] 3)).alloc (.cells #[.func (.func 52) #[] #[.pointer (some ⟨bt, 0, none⟩)]] 63)) w.heap.size #[.slice A n c, .int .i64 bl, .int .i64 rl] 44 := ((Blk.new w _ _).alloc _).alloc _
  have h4 : Blk (((w.alloc (.cells #[.slice A n c, .int .i64 bl, .int .i64 rl] 44)).alloc (.cells #[.int .i64 t] 3)).alloc (.cells #[.func (.func 52) #[] #[.pointer (some ⟨bt, 0, none⟩)]] 63)) (w.heap.size + 1) #[.int .i64 t] 3 := (blk2 w _ _ _).alloc _
  have h5 : Blk (((w.alloc (.cells #[.slice A n c, .int .i64 bl, .int .i64 rl] 44)).alloc (.cells #[.int .i64 t] 3)).alloc (.cells #[.func (.func 52) #[] #[.pointer (some ⟨bt, 0, none⟩)]] 63)) (w.heap.size + 1 + 1) #[.func (.func 52) #[] #[.pointer (some ⟨bt, 0, none⟩)]] 63 := by
    have := blk2 (w.alloc (.cells #[.slice A n c, .int .i64 bl, .int .i64 rl] 44)) (.cells #[.int .i64 t] 3) #[.func (.func 52) #[] #[.pointer (some ⟨bt, 0, none⟩)]] 63
    rw [size_alloc1] at this; exact this
  have hb : But No w (((w.alloc (.cells #[.slice A n c, .int .i64 bl, .int .i64 rl] 44)).alloc (.cells #[.int .i64 t] 3)).alloc (.cells #[.func (.func 52) #[] #[.pointer (some ⟨bt, 0, none⟩)]] 63)) := (((But.refl No w).alloc _).alloc _).alloc _
  have HBW := Lib.hid hb
  have CF : Hid (Calls Try.prog 44 #[.slice A n c, .agg #[.int .i64 bl, .int .i64 0], .func (.func 45) #[] #[.pointer (some ⟨w.heap.size + 1 + 1, 0, none⟩), .pointer (some ⟨w.heap.size, 0, none⟩), .pointer (some ⟨w.heap.size + 1, 0, none⟩)]] (((w.alloc (.cells #[.slice A n c, .int .i64 bl, .int .i64 rl] 44)).alloc (.cells #[.int .i64 t] 3)).alloc (.cells #[.func (.func 52) #[] #[.pointer (some ⟨bt, 0, none⟩)]] 63)) fun e w' => e = .returned (.agg #[.int .i64 (tot bl (cmt rl t) t l n).1, .int .i64 (tot bl (cmt rl t) t l n).2]) ∧ But No (((w.alloc (.cells #[.slice A n c, .int .i64 bl, .int .i64 rl] 44)).alloc (.cells #[.int .i64 t] 3)).alloc (.cells #[.func (.func 52) #[] #[.pointer (some ⟨bt, 0, none⟩)]] 63)) w') := Lib.hid (by
    have h9 := foldT_any A n c l (tot bl (cmt rl t) t l) (.pointer (some ⟨w.heap.size + 1 + 1, 0, none⟩)) (.pointer (some ⟨w.heap.size, 0, none⟩)) (.pointer (some ⟨w.heap.size + 1, 0, none⟩)) _ (h.no hb) (fun i x W hx hbW => by
      have hil : i < l.length := (List.getElem?_eq_some_iff.1 hx).1
      have hT : (0 ≤ (tot bl (cmt rl t) t l i).1 ∧ (tot bl (cmt rl t) t l i).1 ≤ 9223372036854775807) ∧ ((tot bl (cmt rl t) t l i).2 = 0 ∨ (tot bl (cmt rl t) t l i).2 = 2) := by
        unfold tot
        cases ho : ov bl (cmt rl t) t l i with
        | true => rw [if_pos rfl]; exact ⟨⟨Int.le_refl 0, by omega⟩, Or.inr rfl⟩
        | false => rw [if_neg (by simp)]; exact ⟨⟨sN_pos hb0 hf (Nat.le_of_lt hil), (ov_not ho).1⟩, Or.inl rfl⟩
      have h8 := clo_sumcom (tot bl (cmt rl t) t l i).1 (tot bl (cmt rl t) t l i).2 x (w.heap.size + 1 + 1) w.heap.size (w.heap.size + 1) bt t rl W hT.1 hT.2 (hok x (List.mem_of_getElem? hx)) ht ⟨hr0, by omega⟩ (cell_keep (h5.cell rfl) hbW) (cell_keep (h3.cell rfl) hbW) (cell_keep (h4.cell rfl) hbW) (cell_keep hc (hb.trans hbW))
      rw [com_step hr ht.1 hx] at h8
      exact h8)
    have h0 : tot bl (cmt rl t) t l 0 = (bl, 0) := by unfold tot; rw [if_neg (by rw [ov_zero (by omega)]; simp)]; rfl
    rw [h0] at h9
    exact h9)
  clear h hl hr ht hc hb0 hb9 hr0 hr9 hok hf h3 h4 h5 hb
  generalize tot bl (cmt rl t) t l n = R at CF ⊢
  obtain ⟨R1, R2⟩ := R
  dsimp only at CF ⊢
  have hmf : ∀ (fn : Fn) (first cap : Array Value) (w : World), (Instr.makeFunc fn first cap).run Try.prog w = .ok (.func fn first cap) w := fun _ _ _ _ => rfl
  go_enter Try.func34, Try.ntmps34
  go_wp2_with (go_at_call 44; (with_reducible refine CF.out.mono ?_); rintro e w1 ⟨rfl, hb1⟩; have HB1 := Lib.hid (HBW.out.trans hb1); clear hb1)
  go_region
  all_goals (try go_wp2)
  all_goals go_ret2
  all_goals exact ⟨rfl, by first | exact (HB1.out.alloc _).drew | exact HB1.out.drew.alloc _ | exact HB1.out.alloc _⟩
set_option maxRecDepth 100000 in
set_option maxHeartbeats 4000000 in
theorem com_any (A : Option Addr) (n c : Nat) (l : List Wk) (bl rl t : Int) (w : World) (h : RWk w A n l) (hr : right l bl rl = true) (ht : 1 ≤ t ∧ t ≤ 9223372036854775807) :
    Calls Try.prog 40 #[.agg #[.slice A n c, .int .i64 bl, .int .i64 rl], .int .i64 t] w fun e w' => e = .returned (.tuple #[.int .i64 (tot bl (cmt rl t) t l n).1, .int .i64 (tot bl (cmt rl t) t l n).2]) ∧ But No w w' := by
  have hb : But No w ((w.alloc (.cells #[.slice A n c, .int .i64 bl, .int .i64 rl] 44)).alloc (.cells #[.int .i64 t] 3)) := ((But.refl No w).alloc _).alloc _
  have HBW := Lib.hid hb
  have CS : Hid (Calls Try.prog 34 #[.agg #[.slice A n c, .int .i64 bl, .int .i64 rl], .int .i64 t, .func (.func 52) #[] #[.pointer (some ⟨w.heap.size + 1, 0, none⟩)]] ((w.alloc (.cells #[.slice A n c, .int .i64 bl, .int .i64 rl] 44)).alloc (.cells #[.int .i64 t] 3)) fun e w' => e = .returned (.tuple #[.int .i64 (tot bl (cmt rl t) t l n).1, .int .i64 (tot bl (cmt rl t) t l n).2]) ∧ But No ((w.alloc (.cells #[.slice A n c, .int .i64 bl, .int .i64 rl] 44)).alloc (.cells #[.int .i64 t] 3)) w') := Lib.hid (sum_com A n c l bl rl t (w.heap.size + 1) _ (h.no hb) hr ht ((blk2 w _ _ _).cell rfl))
  clear h hr hb
  generalize tot bl (cmt rl t) t l n = R at CS ⊢
  obtain ⟨R1, R2⟩ := R
  dsimp only at CS ⊢
  have hmf : ∀ (fn : Fn) (first cap : Array Value) (w : World), (Instr.makeFunc fn first cap).run Try.prog w = .ok (.func fn first cap) w := fun _ _ _ _ => rfl
  go_enter Try.func40, Try.ntmps40
  go_wp2_with (go_at_call 34; (with_reducible refine CS.out.mono ?_); rintro e w1 ⟨rfl, hb1⟩; have HB1 := Lib.hid (HBW.out.trans hb1); clear hb1)
  go_ret2
  exact ⟨rfl, HB1.out⟩
set_option maxRecDepth 100000 in
set_option maxHeartbeats 4000000 in
theorem sum_dem (A : Option Addr) (n c : Nat) (l : List Wk) (bl rl t : Int) (bt : Nat) (w : World) (h : RWk w A n l) (hr : right l bl rl = true) (ht : 1 ≤ t ∧ t ≤ 9223372036854775807) (hc : w.cell? ⟨bt, 0, none⟩ = some (.int .i64 t)) :
    Calls Try.prog 34 #[.agg #[.slice A n c, .int .i64 bl, .int .i64 rl], .int .i64 t, .func (.func 35) #[] #[.pointer (some ⟨bt, 0, none⟩)]] w fun e w' => e = .returned (.tuple #[.int .i64 (tot bl (trm rl t) t l n).1, .int .i64 (tot bl (trm rl t) t l n).2]) ∧ But No w w' := by
  have hmax := h.max
  have hl := h.len
  obtain ⟨_, ⟨hb0, hb9⟩, ⟨hr0, hr9⟩, hok⟩ := right_iff.1 hr
  have hf : ∀ y ∈ l, 0 ≤ trm rl t y := fun y hy => by have := trm_bd (rl := rl) ht.1 hr0 (hok y hy); omega
  have h3 : Blk (((w.alloc (.cells #[.slice A n c, .int .i64 bl, .int .i64 rl] 44)).alloc (.cells #[.int .i64 t] 3)).alloc (.cells #[.func (.func 35) #[] #[.pointer (some ⟨bt, 0, none⟩)]] 63)) w.heap.size #[.slice A n c, .int .i64 bl, .int .i64 rl] 44 := ((Blk.new w _ _).alloc _).alloc _
  have h4 : Blk (((w.alloc (.cells #[.slice A n c, .int .i64 bl, .int .i64 rl] 44)).alloc (.cells #[.int .i64 t] 3)).alloc (.cells #[.func (.func 35) #[] #[.pointer (some ⟨bt, 0, none⟩)]] 63)) (w.heap.size + 1) #[.int .i64 t] 3 := (blk2 w _ _ _).alloc _
  have h5 : Blk (((w.alloc (.cells #[.slice A n c, .int .i64 bl, .int .i64 rl] 44)).alloc (.cells #[.int .i64 t] 3)).alloc (.cells #[.func (.func 35) #[] #[.pointer (some ⟨bt, 0, none⟩)]] 63)) (w.heap.size + 1 + 1) #[.func (.func 35) #[] #[.pointer (some ⟨bt, 0, none⟩)]] 63 := by
    have := blk2 (w.alloc (.cells #[.slice A n c, .int .i64 bl, .int .i64 rl] 44)) (.cells #[.int .i64 t] 3) #[.func (.func 35) #[] #[.pointer (some ⟨bt, 0, none⟩)]] 63
    rw [size_alloc1] at this; exact this
  have hb : But No w (((w.alloc (.cells #[.slice A n c, .int .i64 bl, .int .i64 rl] 44)).alloc (.cells #[.int .i64 t] 3)).alloc (.cells #[.func (.func 35) #[] #[.pointer (some ⟨bt, 0, none⟩)]] 63)) := (((But.refl No w).alloc _).alloc _).alloc _
  have HBW := Lib.hid hb
  have CF : Hid (Calls Try.prog 44 #[.slice A n c, .agg #[.int .i64 bl, .int .i64 0], .func (.func 45) #[] #[.pointer (some ⟨w.heap.size + 1 + 1, 0, none⟩), .pointer (some ⟨w.heap.size, 0, none⟩), .pointer (some ⟨w.heap.size + 1, 0, none⟩)]] (((w.alloc (.cells #[.slice A n c, .int .i64 bl, .int .i64 rl] 44)).alloc (.cells #[.int .i64 t] 3)).alloc (.cells #[.func (.func 35) #[] #[.pointer (some ⟨bt, 0, none⟩)]] 63)) fun e w' => e = .returned (.agg #[.int .i64 (tot bl (trm rl t) t l n).1, .int .i64 (tot bl (trm rl t) t l n).2]) ∧ But No (((w.alloc (.cells #[.slice A n c, .int .i64 bl, .int .i64 rl] 44)).alloc (.cells #[.int .i64 t] 3)).alloc (.cells #[.func (.func 35) #[] #[.pointer (some ⟨bt, 0, none⟩)]] 63)) w') := Lib.hid (by
    have h9 := foldT_any A n c l (tot bl (trm rl t) t l) (.pointer (some ⟨w.heap.size + 1 + 1, 0, none⟩)) (.pointer (some ⟨w.heap.size, 0, none⟩)) (.pointer (some ⟨w.heap.size + 1, 0, none⟩)) _ (h.no hb) (fun i x W hx hbW => by
      have hil : i < l.length := (List.getElem?_eq_some_iff.1 hx).1
      have hT : (0 ≤ (tot bl (trm rl t) t l i).1 ∧ (tot bl (trm rl t) t l i).1 ≤ 9223372036854775807) ∧ ((tot bl (trm rl t) t l i).2 = 0 ∨ (tot bl (trm rl t) t l i).2 = 2) := by
        unfold tot
        cases ho : ov bl (trm rl t) t l i with
        | true => rw [if_pos rfl]; exact ⟨⟨Int.le_refl 0, by omega⟩, Or.inr rfl⟩
        | false => rw [if_neg (by simp)]; exact ⟨⟨sN_pos hb0 hf (Nat.le_of_lt hil), (ov_not ho).1⟩, Or.inl rfl⟩
      have h8 := clo_sumdem (tot bl (trm rl t) t l i).1 (tot bl (trm rl t) t l i).2 x (w.heap.size + 1 + 1) w.heap.size (w.heap.size + 1) bt t rl W hT.1 hT.2 (hok x (List.mem_of_getElem? hx)) ht ⟨hr0, by omega⟩ (cell_keep (h5.cell rfl) hbW) (cell_keep (h3.cell rfl) hbW) (cell_keep (h4.cell rfl) hbW) (cell_keep hc (hb.trans hbW))
      rw [dem_step hr ht.1 hx] at h8
      exact h8)
    have h0 : tot bl (trm rl t) t l 0 = (bl, 0) := by unfold tot; rw [if_neg (by rw [ov_zero (by omega)]; simp)]; rfl
    rw [h0] at h9
    exact h9)
  clear h hl hr ht hc hb0 hb9 hr0 hr9 hok hf h3 h4 h5 hb
  generalize tot bl (trm rl t) t l n = R at CF ⊢
  obtain ⟨R1, R2⟩ := R
  dsimp only at CF ⊢
  have hmf : ∀ (fn : Fn) (first cap : Array Value) (w : World), (Instr.makeFunc fn first cap).run Try.prog w = .ok (.func fn first cap) w := fun _ _ _ _ => rfl
  go_enter Try.func34, Try.ntmps34
  go_wp2_with (go_at_call 44; (with_reducible refine CF.out.mono ?_); rintro e w1 ⟨rfl, hb1⟩; have HB1 := Lib.hid (HBW.out.trans hb1); clear hb1)
  go_region
  all_goals (try go_wp2)
  all_goals go_ret2
  all_goals exact ⟨rfl, by first | exact (HB1.out.alloc _).drew | exact HB1.out.drew.alloc _ | exact HB1.out.alloc _⟩
set_option maxRecDepth 100000 in
set_option maxHeartbeats 4000000 in
theorem dem_any (A : Option Addr) (n c : Nat) (l : List Wk) (bl rl t : Int) (w : World) (h : RWk w A n l) (hr : right l bl rl = true) (ht : 1 ≤ t ∧ t ≤ 9223372036854775807) :
    Calls Try.prog 21 #[.agg #[.slice A n c, .int .i64 bl, .int .i64 rl], .int .i64 t] w fun e w' => e = .returned (.tuple #[.int .i64 (tot bl (trm rl t) t l n).1, .int .i64 (tot bl (trm rl t) t l n).2]) ∧ But No w w' := by
  have hb : But No w ((w.alloc (.cells #[.slice A n c, .int .i64 bl, .int .i64 rl] 44)).alloc (.cells #[.int .i64 t] 3)) := ((But.refl No w).alloc _).alloc _
  have HBW := Lib.hid hb
  have CS : Hid (Calls Try.prog 34 #[.agg #[.slice A n c, .int .i64 bl, .int .i64 rl], .int .i64 t, .func (.func 35) #[] #[.pointer (some ⟨w.heap.size + 1, 0, none⟩)]] ((w.alloc (.cells #[.slice A n c, .int .i64 bl, .int .i64 rl] 44)).alloc (.cells #[.int .i64 t] 3)) fun e w' => e = .returned (.tuple #[.int .i64 (tot bl (trm rl t) t l n).1, .int .i64 (tot bl (trm rl t) t l n).2]) ∧ But No ((w.alloc (.cells #[.slice A n c, .int .i64 bl, .int .i64 rl] 44)).alloc (.cells #[.int .i64 t] 3)) w') := Lib.hid (sum_dem A n c l bl rl t (w.heap.size + 1) _ (h.no hb) hr ht ((blk2 w _ _ _).cell rfl))
  clear h hr hb
  generalize tot bl (trm rl t) t l n = R at CS ⊢
  obtain ⟨R1, R2⟩ := R
  dsimp only at CS ⊢
  have hmf : ∀ (fn : Fn) (first cap : Array Value) (w : World), (Instr.makeFunc fn first cap).run Try.prog w = .ok (.func fn first cap) w := fun _ _ _ _ => rfl
  go_enter Try.func21, Try.ntmps21
  go_wp2_with (go_at_call 34; (with_reducible refine CS.out.mono ?_); rintro e w1 ⟨rfl, hb1⟩; have HB1 := Lib.hid (HBW.out.trans hb1); clear hb1)
  go_ret2
  exact ⟨rfl, HB1.out⟩
end Go.Proofs.Ytfpcnilcbaiojaa.dem
