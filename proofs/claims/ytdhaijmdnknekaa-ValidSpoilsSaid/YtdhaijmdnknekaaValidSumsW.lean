/- The walk of ValidSums. -/
import Derived.Test.YtdhaijmdnknekaaE
namespace Go.Proofs.Ytdhaijmdnknekaa
open Go.ChangeShapes Go.WideShapes Go.ChangeAt Go.RowKit Go.Deep
theorem vSecs_none {res w : Int} {l : List (Int × Int × Int)} (h : vSecs res w 0 0 l = none) (j : Nat) : ∀ y, l[j]? = some y → vSec res w (vEnd j l) y = true := by
  induction j using Nat.strongRecOn with
  | _ j ih =>
    intro y hy
    cases hv : vSec res w (vEnd j l) y with
    | true => rfl
    | false =>
      rw [vSecs_bad (fun i z hi hz => ih i hi z hz) hy hv] at h
      cases h
theorem vTsk_parts {res : Int} {t : Tsk} (h : vTsk res t = true) : vHead t = true ∧ ∀ j y, t.secs[j]? = some y → vSec res t.w (vEnd j t.secs) y = true := by
  unfold vTsk at h
  rw [Bool.and_eq_true, Option.isNone_iff_eq_none] at h
  exact ⟨h.1, vSecs_none h.2⟩
theorem whole_pro {s : Sys} (h : vWhole s = true) : s.pr = 1 ∨ (¬ s.pr = 1 ∧ s.po = 1) := by
  rw [vWhole_pro, vPro_eq] at h
  simp only [Bool.and_eq_true] at h
  have h2 := h.2.1
  by_cases e : s.po = 1
  · by_cases e2 : s.pr = 1
    · exact .inl e2
    · exact .inr ⟨e2, e⟩
  · rw [if_neg e] at h2
    by_cases e3 : s.po = 2
    · rw [if_pos e3] at h2
      exact .inl (by simpa using h2)
    · rw [if_neg e3] at h2
      cases h2
namespace validSums
attribute [local go_sem] field_fin
set_option maxRecDepth 100000 in
set_option maxHeartbeats 4000000 in
theorem walk (s : Sys) (A : Option Addr) (c : Nat) (w : World) (h : RSys w A s.ts.length c s) : Calls Try.prog 5 #[sysV s A s.ts.length c] w fun e w' => e = .returned (.bool true) ∧ But No w w' := by
  obtain ⟨n, hn⟩ : ∃ n, s.ts.length = n := ⟨_, rfl⟩
  rw [hn] at h ⊢
  have HN := Lib.hid hn
  clear hn
  have CX : ∀ W, Hid (Calls Try.prog 7 #[] W fun e w' => e = .returned (.bool true) ∧ But No W w') := fun W => examples_any W
  have CE : Hid (∀ W, But No w W → Calls Try.prog 8 #[sysV s A n c] W fun e w' => e = .returned (.agg #[.int .i64 (fE s : Int), .int .i64 (vFind s).2.1, .int .i64 (vFind s).2.2]) ∧ But No W w') := fun W hb => check_any s A n c W (h.no hb)
  have CT : Hid (∀ W, But No w W → Calls Try.prog 10 #[sysV s A n c] W fun e w' => e = .returned (.bool (right s)) ∧ But No W w') := fun W hb => right_any s A n c W (h.no hb)
  have HR := Lib.hid h.ts
  have hmx := h.ts.max
  clear h
  generalize (vFind s).2.1 = f1, (vFind s).2.2 = f2 at CE
  rcases fE_right s with ⟨h1, h2⟩ | ⟨h1, h2⟩
  · rw [h1] at CT
    obtain ⟨hw, hall⟩ := right_parts h1
    obtain ⟨⟨hc1, hc8⟩, ⟨hr0, hr1⟩, hn1, hn2⟩ := whole_parts hw
    rw [HN.out] at hn1 hn2
    have HPR := Lib.hid (whole_pro hw)
    have HALL := Lib.hid hall
    clear h1 h2 hw hall CE
    unfold sysV at CT ⊢
    go_enter Try.func5, Try.ntmps5
    have HX : Hid (Blk (w.alloc (.cells #[.int .i64 s.co, .int .i64 s.po, .int .i64 s.pr, .int .i64 s.re, .int .i64 s.sw, .int .i64 s.fi, .int .i64 s.la, .int .i64 s.rs, .slice A n c] 24)) w.heap.size (boxS s A n c) 24) := Blk.new w _ _
    go_wp2_with (first | (go_at_call 7; refine (CX _).out.mono ?_; rintro e w1 ⟨rfl, hb1⟩; have HB1 := Lib.hid (((But.refl No w).alloc _).trans hb1); have HX1 := Lib.hid (HX.out.but hb1 (fun f => f)); clear hb1; obtain ⟨d0, d1, d2, d3, d4, d5, d6, d7, d8⟩ := sys_cells HX1.out) | (go_at_call 10; refine (CT.out _ HB1.out).mono ?_; rintro e w2 ⟨rfl, hb2⟩; have HB2 := Lib.hid (HB1.out.trans hb2); have HX2 := Lib.hid (HX1.out.but hb2 (fun f => f)); clear hb2 d0 d1 d2 d3 d4 d5 d6 d7 d8))
    generalize hb1 : w.heap.size = b1 at HX2 ⊢
    clear hb1 CX CT HX HX1 HB1
    go_loopw [4] (fun i wr => ∃ k : Nat, i = .int .i64 (k : Int) ∧ k ≤ n ∧ Hid (But No w wr ∧ Blk wr b1 (boxS s A n c) 24)) (fun i _ => n - (intOf i).toNat)
    case atStart => exact ⟨0, rfl, by omega, HB2.out, HX2.out⟩
    case round =>
      obtain ⟨k, rfl, hk, HK1⟩ := hrel
      clear HB2 HX2
      have d8 : wr.cell? ⟨b1, 8, none⟩ = some (.slice A n c) := HK1.out.2.cell (o := 8) rfl
      by_cases hlt : k < n
      · obtain ⟨t, ht⟩ : ∃ t, s.ts[k]? = some t := ⟨_, List.getElem?_eq_getElem (by rw [HN.out]; exact hlt)⟩
        obtain ⟨b, off, A', c', rfl, c0, c1, c2, c3, hcc, hS⟩ := (HR.out.no HK1.out.1).at1 ht
        have HS := Lib.hid hS
        have hm := hS.max
        obtain ⟨hh, hsec⟩ := vTsk_parts (HALL.out t (List.mem_of_getElem? ht))
        have HSEC := Lib.hid hsec
        have hp := head_parts hh
        obtain ⟨m, hm4⟩ : ∃ m, t.secs.length = m := ⟨_, rfl⟩
        have HM := Lib.hid hm4
        rw [hm4] at c3 hcc hm HS hp
        clear hS ht hm4 hh hsec
        obtain ⟨tp, td, tw, tss⟩ := t
        simp only at c0 c1 c2 hp
        obtain ⟨⟨hp1, hp2⟩, ⟨hd1, hd2⟩, ⟨hw1, hw2⟩, hm4⟩ := hp
        go_upto_region 8 with fail
        obtain ⟨bt, hbt⟩ : ∃ bt, wr.heap.size = bt := ⟨_, rfl⟩
        obtain ⟨w2, hw2', HK2, HXT, HS2⟩ : ∃ w2, wr.alloc (.cells #[.int .i64 tp, .int .i64 td, .int .i64 tw, .slice A' m c'] 35) = w2 ∧ Hid (But No w w2 ∧ Blk w2 b1 (boxS s (some ⟨b, off, none⟩) n c) 24) ∧ Hid (Blk w2 bt #[.int .i64 tp, .int .i64 td, .int .i64 tw, .slice A' m c'] 35) ∧ Hid (RSec w2 A' m tss) := by
          subst hbt
          exact ⟨_, rfl, ⟨HK1.out.1.alloc _, HK1.out.2.alloc _⟩, Blk.new wr _ _, HS.out.no ((But.refl No wr).alloc _)⟩
        rw [hw2', hbt]
        clear hbt hw2' c0 c1 c2 c3 d8 HK1 HS
        go_wp2_with fail
        go_loopw [6, 7] (fun u i wr => ∃ (q : Nat) (e0 : Int), u = .int .i64 e0 ∧ i = .int .i64 (q : Int) ∧ q ≤ m ∧ 0 ≤ e0 ∧ e0 ≤ tw ∧ Hid (e0 = vEnd q tss) ∧ Hid (But No w wr ∧ Blk wr b1 (boxS s (some ⟨b, off, none⟩) n c) 24) ∧ Hid (Blk wr bt #[.int .i64 tp, .int .i64 td, .int .i64 tw, .slice A' m c'] 35) ∧ Hid (RSec wr A' m tss)) (fun _ i _ => m - (intOf i).toNat)
        case atStart => exact ⟨0, 0, rfl, rfl, by omega, by omega, by omega, rfl, HK2, HXT, HS2⟩
        case round =>
          obtain ⟨q, e0, rfl, rfl, hq, he0, he1, HV, HKQ, HXQ, HSQ⟩ := hrel
          clear HK2 HXT HS2
          have t3 : wr.cell? ⟨bt, 3, none⟩ = some (.slice A' m c') := HXQ.out.cell (o := 3) rfl
          by_cases hqm : q < m
          · obtain ⟨x, hx⟩ : ∃ x, tss[q]? = some x := ⟨_, List.getElem?_eq_getElem (by rw [show tss.length = m from HM.out]; exact hqm)⟩
            obtain ⟨bb, oo, rfl, e1, e2, e3⟩ := HSQ.out.at1 hx
            have hpp := sec_parts (HSEC.out q x hx)
            have he : vEnd q tss = e0 := HV.out.symm
            rw [he] at hpp
            clear he
            obtain ⟨x0, x1, x2⟩ := x
            simp only at e1 e2 e3 hpp
            obtain ⟨p1, p2, ⟨p3, p3'⟩, p4, p5⟩ := hpp
            have d7 : wr.cell? ⟨b1, 7, none⟩ = some (.int .i64 s.rs) := HKQ.out.2.cell (o := 7) rfl
            have t2 : wr.cell? ⟨bt, 2, none⟩ = some (.int .i64 tw) := HXQ.out.cell (o := 2) rfl
            have d7' : (wr.alloc (.cells #[.int .i64 x0, .int .i64 x1, .int .i64 x2] 37)).cell? ⟨b1, 7, none⟩ = some (.int .i64 s.rs) := cell_keep d7 ((But.refl No wr).alloc _)
            have t2' : (wr.alloc (.cells #[.int .i64 x0, .int .i64 x1, .int .i64 x2] 37)).cell? ⟨bt, 2, none⟩ = some (.int .i64 tw) := cell_keep t2 ((But.refl No wr).alloc _)
            have HXX := Lib.hid hx
            clear hx
            have q1 : decide (x0 < e0) = false := by simp; omega
            have q2 : decide (x2 < 1) = false := by simp; omega
            have q3 : decide (tw < x0 + x2) = false := by simp; omega
            have q4 : decide (x1 < 0) = false := by simp; omega
            have q5 : decide (s.rs ≤ x1) = false := by simp; omega
            go_wp2
            go_roundw
            case rel => exact ⟨q + 1, x0 + x2, by go_num, by go_num, by omega, by omega, by omega, (vEnd_succ HXX.out).symm, ⟨HKQ.out.1.alloc _, HKQ.out.2.alloc _⟩, HXQ.out.alloc _, HSQ.out.no ((But.refl No wr).alloc _)⟩
            case measure => simp [intOf]; omega
          · have t0 : wr.cell? ⟨bt, 0, none⟩ = some (.int .i64 tp) := HXQ.out.cell (o := 0) rfl
            have t1 : wr.cell? ⟨bt, 1, none⟩ = some (.int .i64 td) := HXQ.out.cell (o := 1) rfl
            have t2 : wr.cell? ⟨bt, 2, none⟩ = some (.int .i64 tw) := HXQ.out.cell (o := 2) rfl
            have q1 : decide (tw < 1) = false := by simp; omega
            have q2 : decide (td < tw) = false := by simp; omega
            have q3 : decide (tp < td) = false := by simp; omega
            have q4 : decide (1099511627776 < tp) = false := by simp; omega
            go_wp2
            go_roundw
            case rel => exact ⟨k + 1, by go_num, by omega, HKQ⟩
            case measure => simp [intOf]; omega
      · have d0 : wr.cell? ⟨b1, 0, none⟩ = some (.int .i64 s.co) := HK1.out.2.cell (o := 0) rfl
        have d1 : wr.cell? ⟨b1, 1, none⟩ = some (.int .i64 s.po) := HK1.out.2.cell (o := 1) rfl
        have d2 : wr.cell? ⟨b1, 2, none⟩ = some (.int .i64 s.pr) := HK1.out.2.cell (o := 2) rfl
        have q1 : decide (1 ≤ s.co) = true := by simp; omega
        have q2 : decide (s.co ≤ 8) = true := by simp; omega
        have hpr := HPR.out
        rcases hpr with hp | ⟨hp, hq⟩
        · have q3 : (s.pr == 1) = true := by simp [hp]
          go_wp2
          go_ret
          exact ⟨rfl, HK1.out.1⟩
        · have q3 : (s.pr == 1) = false := by simp [hp]
          have q4 : (s.po == 1) = true := by simp [hq]
          go_wp2
          go_ret
          exact ⟨rfl, HK1.out.1⟩
  · rw [h1] at CT
    rw [h2] at CE
    clear h1 h2
    unfold sysV at CT CE ⊢
    go_enter Try.func5, Try.ntmps5
    have HX : Hid (Blk (w.alloc (.cells #[.int .i64 s.co, .int .i64 s.po, .int .i64 s.pr, .int .i64 s.re, .int .i64 s.sw, .int .i64 s.fi, .int .i64 s.la, .int .i64 s.rs, .slice A n c] 24)) w.heap.size (boxS s A n c) 24) := Blk.new w _ _
    go_wp2_with (first | (go_at_call 7; refine (CX _).out.mono ?_; rintro e w1 ⟨rfl, hb1⟩; have HB1 := Lib.hid (((But.refl No w).alloc _).trans hb1); have HX1 := Lib.hid (HX.out.but hb1 (fun f => f)); clear hb1; obtain ⟨d0, d1, d2, d3, d4, d5, d6, d7, d8⟩ := sys_cells HX1.out) | (go_at_call 10; refine (CT.out _ HB1.out).mono ?_; rintro e w2 ⟨rfl, hb2⟩; have HB2 := Lib.hid (HB1.out.trans hb2); have HX2 := Lib.hid (HX1.out.but hb2 (fun f => f)); clear hb2 d0 d1 d2 d3 d4 d5 d6 d7 d8; obtain ⟨d0, d1, d2, d3, d4, d5, d6, d7, d8⟩ := sys_cells HX2.out) | (go_at_call 8; refine (CE.out _ HB2.out).mono ?_; rintro e w3 ⟨rfl, hb3⟩; have HB3 := Lib.hid (HB2.out.trans hb3); clear hb3))
    go_ret
    exact ⟨rfl, HB3.out⟩
end validSums
end Go.Proofs.Ytdhaijmdnknekaa
