/- The walk of TermsGrow. -/
import Derived.Test.YtfmhejeeeglmdaaTermsGrowM
namespace Go.Proofs.Ytfmhejeeeglmdaa
open Go.ChangeShapes Go.WideShapes Go.ChangeAt Go.RowKit Go.Deep val ter
namespace termsGrow
set_option maxRecDepth 100000 in
set_option maxHeartbeats 8000000 in
theorem walk (s : Sys) (A : Option Addr) (c : Nat) (B : Option Addr) (m d : Nat) (wh : List Int) (_ : m ≤ d) (hk : m * 8 ≤ 140737488351232) (task : Int) (_ : (Lit.int .i64 task).wf = true) (core : Int) (hc : (Lit.int .i64 core).wf = true) (other : Int) (_ : (Lit.int .i64 other).wf = true) (k : Int) (_ : (Lit.int .i64 k).wf = true) (w : World) (h : RSys w A s.ts.length c s) (hz : Rd w B m wh) :
    Calls Try.prog 4 #[sysV s A s.ts.length c, .slice B m d, .int .i64 task, .int .i64 core, .int .i64 other, .int .i64 k] w fun e w' => e = .returned (.bool true) ∧ But No w w' := by
  obtain ⟨n, hn⟩ : ∃ n, s.ts.length = n := ⟨_, rfl⟩
  rw [hn] at h ⊢
  have HN := Lib.hid hn
  have CX : Hid (∀ W, Calls Try.prog 7 #[] W fun e w' => e = .returned (.bool true) ∧ But No W w') := examples_ok
  have CR : Hid (∀ W, But No w W → Calls Try.prog 18 #[sysV s A n c] W fun e w' => e = .returned (.bool (right s)) ∧ But No W w') := fun W hb => right_any s A n c W (h.no hb)
  have HH := Lib.hid h
  have HZ := Lib.hid hz
  have HML := Lib.hid hz.len
  have HCO := Lib.hid (inR_of hc)
  clear hn h hz hc
  cases hrt : right s with
  | false =>
    rw [hrt] at CR
    clear hrt
    unfold sysV at CR ⊢
    go_enter Try.func4, Try.ntmps4
    have HX : Hid (Blk (w.alloc (.cells #[.int .i64 s.co, .int .i64 s.po, .int .i64 s.pr, .int .i64 s.re, .int .i64 s.sw, .int .i64 s.fi, .int .i64 s.la, .int .i64 s.rs, .slice A n c] 24)) w.heap.size (boxS s A n c) 24) := Blk.new w _ _
    go_wp2_with (first | (go_at_call 7; (with_reducible refine (CX.out _).mono ?_); rintro e w1 ⟨rfl, hb1⟩; have HB1 := Lib.hid (((But.refl No w).alloc _).trans hb1); have HX1 := Lib.hid (HX.out.but hb1 (fun f => f)); clear hb1; obtain ⟨d0, d1, d2, d3, d4, d5, d6, d7, d8⟩ := sys_cells HX1.out) | (go_at_call 18; (with_reducible refine (CR.out _ HB1.out).mono ?_); rintro e w2 ⟨rfl, hb2⟩; have HB2 := Lib.hid (HB1.out.trans hb2); have HX2 := Lib.hid (HX1.out.but hb2 (fun f => f)); clear hb2 d0 d1 d2 d3 d4 d5 d6 d7 d8; obtain ⟨d0, d1, d2, d3, d4, d5, d6, d7, d8⟩ := sys_cells HX2.out))
    go_ret
    exact ⟨rfl, HB2.out⟩
  | true =>
    have hln := right_len hrt
    have HRT := Lib.hid hrt
    rw [hrt] at CR
    clear hrt
    unfold sysV at CR ⊢
    by_cases h0 : task < 0
    · have b0 : decide (task < 0) = true := by simp [h0]
      clear hln
      go_enter Try.func4, Try.ntmps4
      have HX : Hid (Blk (w.alloc (.cells #[.int .i64 s.co, .int .i64 s.po, .int .i64 s.pr, .int .i64 s.re, .int .i64 s.sw, .int .i64 s.fi, .int .i64 s.la, .int .i64 s.rs, .slice A n c] 24)) w.heap.size (boxS s A n c) 24) := Blk.new w _ _
      go_wp2_with (first | (go_at_call 7; (with_reducible refine (CX.out _).mono ?_); rintro e w1 ⟨rfl, hb1⟩; have HB1 := Lib.hid (((But.refl No w).alloc _).trans hb1); have HX1 := Lib.hid (HX.out.but hb1 (fun f => f)); clear hb1; obtain ⟨d0, d1, d2, d3, d4, d5, d6, d7, d8⟩ := sys_cells HX1.out) | (go_at_call 18; (with_reducible refine (CR.out _ HB1.out).mono ?_); rintro e w2 ⟨rfl, hb2⟩; have HB2 := Lib.hid (HB1.out.trans hb2); have HX2 := Lib.hid (HX1.out.but hb2 (fun f => f)); clear hb2 d0 d1 d2 d3 d4 d5 d6 d7 d8; obtain ⟨d0, d1, d2, d3, d4, d5, d6, d7, d8⟩ := sys_cells HX2.out))
      go_ret
      exact ⟨rfl, HB2.out⟩
    · have b0 : decide (task < 0) = false := by simp; omega
      by_cases h1 : (n : Int) ≤ task
      · have b1 : decide ((n : Int) ≤ task) = true := by simp [h1]
        clear hln
        go_enter Try.func4, Try.ntmps4
        have HX : Hid (Blk (w.alloc (.cells #[.int .i64 s.co, .int .i64 s.po, .int .i64 s.pr, .int .i64 s.re, .int .i64 s.sw, .int .i64 s.fi, .int .i64 s.la, .int .i64 s.rs, .slice A n c] 24)) w.heap.size (boxS s A n c) 24) := Blk.new w _ _
        go_wp2_with (first | (go_at_call 7; (with_reducible refine (CX.out _).mono ?_); rintro e w1 ⟨rfl, hb1⟩; have HB1 := Lib.hid (((But.refl No w).alloc _).trans hb1); have HX1 := Lib.hid (HX.out.but hb1 (fun f => f)); clear hb1; obtain ⟨d0, d1, d2, d3, d4, d5, d6, d7, d8⟩ := sys_cells HX1.out) | (go_at_call 18; (with_reducible refine (CR.out _ HB1.out).mono ?_); rintro e w2 ⟨rfl, hb2⟩; have HB2 := Lib.hid (HB1.out.trans hb2); have HX2 := Lib.hid (HX1.out.but hb2 (fun f => f)); clear hb2 d0 d1 d2 d3 d4 d5 d6 d7 d8; obtain ⟨d0, d1, d2, d3, d4, d5, d6, d7, d8⟩ := sys_cells HX2.out))
        go_ret
        exact ⟨rfl, HB2.out⟩
      · have b1 : decide ((n : Int) ≤ task) = false := by simp; omega
        by_cases h2 : m < n
        · have b2 : decide ((m : Int) < (n : Int)) = true := by simp; omega
          have b2' : decide (m < n) = true := by simp; omega
          clear hln
          go_enter Try.func4, Try.ntmps4
          have HX : Hid (Blk (w.alloc (.cells #[.int .i64 s.co, .int .i64 s.po, .int .i64 s.pr, .int .i64 s.re, .int .i64 s.sw, .int .i64 s.fi, .int .i64 s.la, .int .i64 s.rs, .slice A n c] 24)) w.heap.size (boxS s A n c) 24) := Blk.new w _ _
          go_wp2_with (first | (go_at_call 7; (with_reducible refine (CX.out _).mono ?_); rintro e w1 ⟨rfl, hb1⟩; have HB1 := Lib.hid (((But.refl No w).alloc _).trans hb1); have HX1 := Lib.hid (HX.out.but hb1 (fun f => f)); clear hb1; obtain ⟨d0, d1, d2, d3, d4, d5, d6, d7, d8⟩ := sys_cells HX1.out) | (go_at_call 18; (with_reducible refine (CR.out _ HB1.out).mono ?_); rintro e w2 ⟨rfl, hb2⟩; have HB2 := Lib.hid (HB1.out.trans hb2); have HX2 := Lib.hid (HX1.out.but hb2 (fun f => f)); clear hb2 d0 d1 d2 d3 d4 d5 d6 d7 d8; obtain ⟨d0, d1, d2, d3, d4, d5, d6, d7, d8⟩ := sys_cells HX2.out))
          go_ret
          exact ⟨rfl, HB2.out⟩
        · have b2 : decide ((m : Int) < (n : Int)) = false := by simp; omega
          have b2' : decide (m < n) = false := by simp; omega
          by_cases h3 : other = task
          · have b3 : (other == task) = true := by simp [h3]
            clear hln h3
            go_enter Try.func4, Try.ntmps4
            have HX : Hid (Blk (w.alloc (.cells #[.int .i64 s.co, .int .i64 s.po, .int .i64 s.pr, .int .i64 s.re, .int .i64 s.sw, .int .i64 s.fi, .int .i64 s.la, .int .i64 s.rs, .slice A n c] 24)) w.heap.size (boxS s A n c) 24) := Blk.new w _ _
            go_wp2_with (first | (go_at_call 7; (with_reducible refine (CX.out _).mono ?_); rintro e w1 ⟨rfl, hb1⟩; have HB1 := Lib.hid (((But.refl No w).alloc _).trans hb1); have HX1 := Lib.hid (HX.out.but hb1 (fun f => f)); clear hb1; obtain ⟨d0, d1, d2, d3, d4, d5, d6, d7, d8⟩ := sys_cells HX1.out) | (go_at_call 18; (with_reducible refine (CR.out _ HB1.out).mono ?_); rintro e w2 ⟨rfl, hb2⟩; have HB2 := Lib.hid (HB1.out.trans hb2); have HX2 := Lib.hid (HX1.out.but hb2 (fun f => f)); clear hb2 d0 d1 d2 d3 d4 d5 d6 d7 d8; obtain ⟨d0, d1, d2, d3, d4, d5, d6, d7, d8⟩ := sys_cells HX2.out))
            go_ret
            exact ⟨rfl, HB2.out⟩
          · have b3 : (other == task) = false := by simp [h3]
            obtain ⟨tk, rfl⟩ : ∃ tk : Nat, task = (tk : Int) := ⟨task.toNat, by omega⟩
            have htn : tk < n := by omega
            have htn2 : (tk : Int) < (n : Int) := by omega
            have htm : tk < m := by omega
            have htm2 : (tk : Int) < (m : Int) := by omega
            have ht0 : (0 : Int) ≤ (tk : Int) := Int.natCast_nonneg tk
            have b1' : decide (n ≤ tk) = false := by simp; omega
            have b0' : decide ((tk : Int) < 0) = false := by simp
            have hco := hln.1
            have hn24 := hln.2.2.2.1
            rw [HN.out] at hn24
            have HNE := Lib.hid h3
            obtain ⟨i3, hi0, hz0, hz1, hz2⟩ := info_parts info3
            have I3 : Hid (Try.prog.info? 3 = some i3 ∧ i3.zero = some (.int .i64 0) ∧ i3.size = 1 ∧ i3.bytes = 8) := ⟨hi0, hz0, hz1, hz2⟩
            clear hi0 hz0 hz1 hz2 hln h0 h1 h2 h3
            go_enter Try.func4, Try.ntmps4
            have HX : Hid (Blk (w.alloc (.cells #[.int .i64 s.co, .int .i64 s.po, .int .i64 s.pr, .int .i64 s.re, .int .i64 s.sw, .int .i64 s.fi, .int .i64 s.la, .int .i64 s.rs, .slice A n c] 24)) w.heap.size (boxS s A n c) 24) := Blk.new w _ _
            go_upto_region 8 with (first | (go_at_call 7; (with_reducible refine (CX.out _).mono ?_); rintro e w1 ⟨rfl, hb1⟩; have HB1 := Lib.hid (((But.refl No w).alloc _).trans hb1); have HX1 := Lib.hid (HX.out.but hb1 (fun f => f)); clear hb1; obtain ⟨d0, d1, d2, d3, d4, d5, d6, d7, d8⟩ := sys_cells HX1.out) | (go_at_call 18; (with_reducible refine (CR.out _ HB1.out).mono ?_); rintro e w2 ⟨rfl, hb2⟩; have HB2 := Lib.hid (HB1.out.trans hb2); have HX2 := Lib.hid (HX1.out.but hb2 (fun f => f)); clear hb2 d0 d1 d2 d3 d4 d5 d6 d7 d8; obtain ⟨d0, d1, d2, d3, d4, d5, d6, d7, d8⟩ := sys_cells HX2.out) | (at_builtin; refine wpList_append_sh _ rfl _ _ 25 rfl 3 i3 _ 1 8 Try.underlying25 I3.out.1 I3.out.2.1 I3.out.2.2.1 I3.out.2.2.2 rfl (by omega) (.slice none 0 0) 0 [] rfl (World.ownsRow_nil _ _ _ _) w2.heap.size B m d (wh.map (Value.int .i64)) rfl (HZ.out.no HB2.out).reads (one_ints wh) (by unfold maxLen; omega) (by omega) ?_; intro A4 c4 w4 hown4 hgrow4 hat4; simp only [Nat.zero_add, List.nil_append] at hown4 hat4 ⊢; obtain ⟨rfl, how4, _⟩ := ow_of hown4 (by omega) hat4; have hb4 := HB2.out.trans ((But.refl No w2).grown hgrow4 (fun k e => by simp [Value.ownBlock] at e)); have hs4 := hb4.setNew (p := ⟨w2.heap.size, tk, none⟩) HB2.out.size (.int .i64 (-1)); have HS4 := Lib.hid hs4; have HO4 := Lib.hid (how4.set (k := tk) (-1)); have j0 := how4.cell (k := tk) (by rw [HML.out]; exact htm); have j1 := how4.frozen tk; have HX4 := Lib.hid (HX2.out.but (((But.refl No w2).grown hgrow4 (fun k e => by simp [Value.ownBlock] at e)).setNew (p := ⟨w2.heap.size, tk, none⟩) (Nat.le_refl _) (.int .i64 (-1))) (fun f => f)); clear hown4 hgrow4 hat4 how4 hb4 hs4) | (at_builtin; refine wpList_append_sh _ rfl _ _ 25 rfl 3 i3 _ 1 8 Try.underlying25 I3.out.1 I3.out.2.1 I3.out.2.2.1 I3.out.2.2.2 rfl (by omega) (.slice none 0 0) 0 [] rfl (World.ownsRow_nil _ _ _ _) (w4.setCell ⟨w2.heap.size, tk, none⟩ (.int .i64 (-1))).heap.size B m d (wh.map (Value.int .i64)) rfl (HZ.out.no HS4.out).reads (one_ints wh) (by unfold maxLen; omega) (by omega) ?_; intro A4 c4 w6 hown4 hgrow4 hat4; simp only [Nat.zero_add, List.nil_append] at hown4 hat4 ⊢; obtain ⟨rfl, how4, _⟩ := ow_of hown4 (by omega) hat4; have esz : (w4.setCell ⟨w2.heap.size, tk, none⟩ (.int .i64 (-1))).heap.size = w4.heap.size := (by simp); rw [esz] at how4; clear esz; have hg6 : But No (w4.setCell ⟨w2.heap.size, tk, none⟩ (.int .i64 (-1))) w6 := (But.refl No _).grown hgrow4 (fun k e => by simp [Value.ownBlock] at e); have HO6 := Lib.hid (how4.set (k := tk) core); have j2 := how4.cell (k := tk) (by rw [HML.out]; exact htm); have j3 := how4.frozen tk; have HG6 := Lib.hid hg6; clear hown4 hgrow4 hat4 how4 hg6))
            have HB8 : Hid (But No w (w6.setCell ⟨w4.heap.size, tk, none⟩ (.int .i64 core))) := Lib.hid ((HS4.out.trans HG6.out).setNew (p := ⟨w4.heap.size, tk, none⟩) (by have := HS4.out.size; simpa using this) _)
            have h58 : But No (w4.setCell ⟨w2.heap.size, tk, none⟩ (.int .i64 (-1))) (w6.setCell ⟨w4.heap.size, tk, none⟩ (.int .i64 core)) := HG6.out.setNew (p := ⟨w4.heap.size, tk, none⟩) (by simp) _
            have HX8 := Lib.hid (HX4.out.but h58 (fun f => f))
            have HL8 := Lib.hid (HO4.out.but h58 (fun f => f))
            have HM8 := HO6
            obtain ⟨d0, d1, d2, d3, d4, d5, d6, d7, d8⟩ := sys_cells HX8.out
            clear h58 j0 j1 j2 j3 HO4 HO6 HG6 HS4 HX4 HB1 HX HX1 HX2 HB2 CX CR
            generalize w6.setCell ⟨w4.heap.size, tk, none⟩ (.int .i64 core) = w8 at *
            generalize w2.heap.size = g1 at *
            generalize w4.heap.size = g2 at *
            generalize w.heap.size = bx at *
            have hcr := HCO.out
            rcases (show core < 0 ∨ s.co ≤ core ∨ (0 ≤ core ∧ core < s.co) by omega) with hc0 | hc0 | ⟨hc0, hc1⟩
            · have b4 : decide (core < 0) = true := by simp [hc0]
              go_wp2
              go_ret
              exact ⟨rfl, HB8.out⟩
            · have b4 : decide (core < 0) = false := by simp; omega
              have b5 : decide (s.co ≤ core) = true := by simp [hc0]
              go_wp2
              go_ret
              exact ⟨rfl, HB8.out⟩
            · have b4 : decide (core < 0) = false := by simp; omega
              have b5 : decide (s.co ≤ core) = false := by simp; omega
              have hlen : ∀ v : Int, (wh.set tk v).length = m := fun v => by rw [List.length_set]; exact HML.out
              have hR1 : ∀ W, But No w8 W → Rd W (some ⟨g1, 0, none⟩) m (wh.set tk (-1)) := fun W hb => by
                have := (HL8.out.but hb (fun f => f)).rd (by rw [hlen]; omega) (getD_in HZ.out.fit (inR_small (by omega)) tk)
                rwa [hlen] at this
              have hR2 : ∀ W, But No w8 W → Rd W (some ⟨g2, 0, none⟩) m (wh.set tk core) := fun W hb => by
                have := (HM8.out.but hb (fun f => f)).rd (by rw [hlen]; omega) (getD_in HZ.out.fit hcr tk)
                rwa [hlen] at this
              have CA : Hid (∀ cap W, But No w8 W → Calls Try.prog 10 #[.agg #[.int .i64 s.co, .int .i64 s.po, .int .i64 s.pr, .int .i64 s.re, .int .i64 s.sw, .int .i64 s.fi, .int .i64 s.la, .int .i64 s.rs, .slice A n c], .slice (some ⟨g1, 0, none⟩) m cap, .int .i64 other, .int .i64 k] W fun e w' => e = .returned (.int .i64 (waitV s (wh.set tk (-1)) other k)) ∧ But No w8 w') := Lib.hid (fun cap W hb => (waits_any s A n c (some ⟨g1, 0, none⟩) m cap (wh.set tk (-1)) other k W (HH.out.no (HB8.out.trans hb)) (hR1 W hb)).mono (fun e w' ⟨h1, h2⟩ => ⟨h1, hb.trans h2⟩))
              have CB : Hid (∀ cap W, But No w8 W → Calls Try.prog 10 #[.agg #[.int .i64 s.co, .int .i64 s.po, .int .i64 s.pr, .int .i64 s.re, .int .i64 s.sw, .int .i64 s.fi, .int .i64 s.la, .int .i64 s.rs, .slice A n c], .slice (some ⟨g2, 0, none⟩) m cap, .int .i64 other, .int .i64 k] W fun e w' => e = .returned (.int .i64 (waitV s (wh.set tk core) other k)) ∧ But No w8 w') := Lib.hid (fun cap W hb => (waits_any s A n c (some ⟨g2, 0, none⟩) m cap (wh.set tk core) other k W (HH.out.no (HB8.out.trans hb)) (hR2 W hb)).mono (fun e w' ⟨h1, h2⟩ => ⟨h1, hb.trans h2⟩))
              have CH : Hid (∀ cap W, But No w8 W → Calls Try.prog 12 #[.agg #[.int .i64 s.co, .int .i64 s.po, .int .i64 s.pr, .int .i64 s.re, .int .i64 s.sw, .int .i64 s.fi, .int .i64 s.la, .int .i64 s.rs, .slice A n c], .slice (some ⟨g2, 0, none⟩) m cap, .int .i64 other, .int .i64 k] W fun e w' => e = .returned (.int .i64 (holdV s (wh.set tk core) other k)) ∧ But No w8 w') := Lib.hid (fun cap W hb => (hold_any s A n c (some ⟨g2, 0, none⟩) m cap (wh.set tk core) other k W (HH.out.no (HB8.out.trans hb)) (hR2 W hb)).mono (fun e w' ⟨h1, h2⟩ => ⟨h1, hb.trans h2⟩))
              have CE : Hid (∀ g cap W, But No w8 W → Ow W g ((List.replicate n (-1)).set tk core) → Calls Try.prog 14 #[.agg #[.int .i64 s.co, .int .i64 s.po, .int .i64 s.pr, .int .i64 s.re, .int .i64 s.sw, .int .i64 s.fi, .int .i64 s.la, .int .i64 s.rs, .slice A n c], .slice (some ⟨g, 0, none⟩) n cap, .int .i64 tk] W fun e w' => e = .returned (.int .i64 0) ∧ But No w8 w') := Lib.hid (fun g cap W hb ho => by
                have hr := ho.rd (by rw [List.length_set, List.length_replicate]; omega) (getD_in (fun q => by simp only [List.getD, List.getElem?_replicate]; split <;> exact inR_small (by simp)) hcr tk)
                rw [List.length_set, List.length_replicate] at hr
                have := extra_any s A n c (some ⟨g, 0, none⟩) n cap ((List.replicate n (-1)).set tk core) tk W (HH.out.no (HB8.out.trans hb)) hr
                rw [alone_zero s tk core n htn hc0 hc1] at this
                exact this.mono (fun e w' ⟨h1, h2⟩ => ⟨h1, hb.trans h2⟩))
              have hab := wait_grow s wh tk core other k (by rw [HML.out]; exact htm) HNE.out
              have ha0 := (wait_le s (wh.set tk (-1)) other k).1
              have hhw := hold_wait s (wh.set tk core) other k
              generalize waitV s (wh.set tk (-1)) other k = a at CA hab ha0
              generalize waitV s (wh.set tk core) other k = b at CB hab hhw
              generalize holdV s (wh.set tk core) other k = hv at CH hhw
              have b6 : decide (a ≤ b) = true := by simp [hab]
              have b7 : decide (0 ≤ a) = true := by simp [ha0]
              have b8 : decide (b ≤ hv) = true := by simp [hhw]
              clear hlen hR1 hR2 hcr
              go_wp2_with (first | (go_at_call 10; (with_reducible refine (CA.out _ _ (But.refl No w8)).mono ?_); rintro e wA ⟨rfl, hA⟩; have HA := Lib.hid hA; clear d0 d1 d2 d3 d4 d5 d6 d7 d8; obtain ⟨d0, d1, d2, d3, d4, d5, d6, d7, d8⟩ := sys_cells (HX8.out.but hA (fun f => f)); clear hA) | (go_at_call 10; (with_reducible refine (CB.out _ _ HA.out).mono ?_); rintro e wB ⟨rfl, hB⟩; have HB := Lib.hid hB; clear d0 d1 d2 d3 d4 d5 d6 d7 d8; obtain ⟨d0, d1, d2, d3, d4, d5, d6, d7, d8⟩ := sys_cells (HX8.out.but hB (fun f => f)); clear hB) | (at_make; refine wpList_make_full _ rfl _ _ 25 rfl 0 3 i3 _ 1 Try.underlying25 I3.out.1 I3.out.2.1 I3.out.2.2.1 .i64 .i64 _ _ n rfl rfl (by omega) (by omega) (by rw [I3.out.2.2.2]; omega) (by unfold maxLen; omega) (Nat.zero_le _) ?_; intro w0 hown0 hgrow0; have hB0 : But No wB w0 := (But.refl No wB).grown hgrow0 (fun k e => by cases e); have HB0 := Lib.hid hB0; have HV0 := Lib.hid (ow_made (by omega) hown0); clear hown0 hgrow0 hB0))
              obtain ⟨g3, hg3⟩ : ∃ g3, wB.heap.size = g3 := ⟨_, rfl⟩
              have HG3 : Hid (wB.heap.size ≤ g3) := Lib.hid (by omega)
              rw [hg3] at HV0 ⊢
              clear hg3 d0 d1 d2 d3 d4 d5 d6 d7 d8 CA
              go_loopw [19] (fun i wr => ∃ q : Nat, i = .int .i64 (q : Int) ∧ q ≤ n ∧ Hid (Ow wr g3 (ng n q)) ∧ Hid (But No wB wr)) (fun i _ => n - (intOf i).toNat)
              case atStart => exact ⟨0, rfl, by omega, HV0, HB0⟩
              case round =>
                obtain ⟨q, rfl, hq, HO, HBR⟩ := hrel
                clear HV0 HB0
                by_cases hqn : q < n
                · have hqn2 : (q : Int) < (n : Int) := by omega
                  have hq0 : (0 : Int) ≤ (q : Int) := Int.natCast_nonneg q
                  have j0 := HO.out.cell (k := q) (by rw [ng_len]; exact hqn)
                  have j1 := HO.out.frozen q
                  have HO2 := Lib.hid (HO.out.set (k := q) (-1))
                  rw [ng_set hqn] at HO2
                  have HB2 : Hid (But No wB (wr.setCell ⟨g3, q, none⟩ (.int .i64 (-1)))) := Lib.hid (HBR.out.setNew (p := ⟨g3, q, none⟩) HG3.out _)
                  go_wp2
                  go_roundw
                  case rel => exact ⟨q + 1, by go_num, by omega, HO2, HB2⟩
                  case measure => simp [intOf]; omega
                · have HQ : Hid (q = n) := Lib.hid (by omega)
                  have b9 : decide ((q : Int) < (n : Int)) = false := by simp; omega
                  have HA0 : Hid (Ow wr g3 (List.replicate n (-1))) := Lib.hid (by have h := HO.out; rw [HQ.out, ng_all] at h; exact h)
                  have j0 := HA0.out.cell (k := tk) (by rw [List.length_replicate]; exact htn)
                  have j1 := HA0.out.frozen tk
                  have HO2 := Lib.hid (HA0.out.set (k := tk) core)
                  have hb2 : But No w8 (wr.setCell ⟨g3, tk, none⟩ (.int .i64 core)) := HB.out.trans (HBR.out.setNew (p := ⟨g3, tk, none⟩) HG3.out _)
                  have HB2 := Lib.hid hb2
                  obtain ⟨d0, d1, d2, d3, d4, d5, d6, d7, d8⟩ := sys_cells (HX8.out.but hb2 (fun f => f))
                  have KEEP : Hid (∀ w', But No w8 w' → (w'.cell? ⟨bx, 0, none⟩ = some (.int .i64 s.co) ∧ w'.cell? ⟨bx, 1, none⟩ = some (.int .i64 s.po) ∧ w'.cell? ⟨bx, 2, none⟩ = some (.int .i64 s.pr) ∧ w'.cell? ⟨bx, 3, none⟩ = some (.int .i64 s.re) ∧ w'.cell? ⟨bx, 4, none⟩ = some (.int .i64 s.sw) ∧ w'.cell? ⟨bx, 5, none⟩ = some (.int .i64 s.fi) ∧ w'.cell? ⟨bx, 6, none⟩ = some (.int .i64 s.la) ∧ w'.cell? ⟨bx, 7, none⟩ = some (.int .i64 s.rs) ∧ w'.cell? ⟨bx, 8, none⟩ = some (.slice A n c)) ∧ But No w8 w') := Lib.hid (fun w' hb => by
                    obtain ⟨d0, d1, d2, d3, d4, d5, d6, d7, d8⟩ := sys_cells (HX8.out.but hb (fun f => f))
                    exact ⟨⟨d0, d1, d2, d3, d4, d5, d6, d7, d8⟩, hb⟩)
                  clear hb2
                  go_wp2_with (go_at_call 14; (with_reducible refine (CE.out _ _ _ HB2.out HO2.out).mono ?_); rintro e wE ⟨rfl, hE⟩; have HE := Lib.hid hE; clear hE d0 d1 d2 d3 d4 d5 d6 d7 d8)
                  go_region_held3 (fun w' => (w'.cell? ⟨bx, 0, none⟩ = some (.int .i64 s.co) ∧ w'.cell? ⟨bx, 1, none⟩ = some (.int .i64 s.po) ∧ w'.cell? ⟨bx, 2, none⟩ = some (.int .i64 s.pr) ∧ w'.cell? ⟨bx, 3, none⟩ = some (.int .i64 s.re) ∧ w'.cell? ⟨bx, 4, none⟩ = some (.int .i64 s.sw) ∧ w'.cell? ⟨bx, 5, none⟩ = some (.int .i64 s.fi) ∧ w'.cell? ⟨bx, 6, none⟩ = some (.int .i64 s.la) ∧ w'.cell? ⟨bx, 7, none⟩ = some (.int .i64 s.rs) ∧ w'.cell? ⟨bx, 8, none⟩ = some (.slice A n c)) ∧ But No w8 w')
                    (first | exact KEEP.out _ HE.out.drew | exact KEEP.out _ hgA | exact KEEP.out _ hgB)
                    (first | (go_at_call 12; ((with_reducible refine (CH.out _ _ HE.out.drew).mono ?_); rintro e wF ⟨rfl, hgA⟩)) | (go_at_call 10; ((with_reducible refine (CB.out _ _ hgA).mono ?_); rintro e wG ⟨rfl, hgB⟩)))
                  rename_i hHeld
                  clear hHeld
                  have HEND := Lib.hid (HB8.out.trans hgB)
                  clear hgA hgB
                  go_wp2
                  go_ret
                  exact ⟨rfl, HEND.out⟩
end termsGrow
end Go.Proofs.Ytfmhejeeeglmdaa
