/- The walk of ValidSpoils. -/
import Derived.Test.YtdhaijmdnknekaaO2
namespace Go.Proofs.Ytdhaijmdnknekaa
open Go.ChangeShapes Go.WideShapes Go.ChangeAt Go.RowKit Go.Deep
namespace validSpoils
/-- A number from 0 on, out of any one. -/
def pos (a : Int) : Nat := (if a < 0 then -(a + 1) else a).toNat
theorem pos_neg {a : Int} (h : a < 0) : -(a + 1) = (pos a : Int) := by unfold pos; rw [if_pos h]; omega
theorem pos_nat {a : Int} (h : ¬ a < 0) : a = (pos a : Int) := by unfold pos; rw [if_neg h]; omega
set_option maxRecDepth 100000 in
set_option maxHeartbeats 4000000 in
theorem walk (s : Sys) (A : Option Addr) (c : Nat) (a1 : Int) (h1 : inR a1) (a2 : Int) (h2 : inR a2) (w : World) (h : RSys w A s.ts.length c s) : Calls Try.prog 4 #[sysV s A s.ts.length c, .int .i64 a1, .int .i64 a2] w fun e w' => e = .returned (.bool true) ∧ But No w w' := by
  obtain ⟨n, hn⟩ : ∃ n, s.ts.length = n := ⟨_, rfl⟩
  rw [hn] at h ⊢
  have HN := Lib.hid hn
  obtain ⟨L, hL1, hL2, hL3, hL4⟩ := h.ts.vals
  have HL1 := Lib.hid hL1
  have HL2 := Lib.hid hL2
  have HTV := Lib.hid hL3
  have HRD := Lib.hid hL4
  clear hn hL1 hL2 hL3 hL4
  have CX : ∀ W, Hid (Calls Try.prog 7 #[] W fun e w' => e = .returned (.bool true) ∧ But No W w') := fun W => examples_any W
  have CT : Hid (∀ W, But No w W → Calls Try.prog 10 #[sysV s A n c] W fun e w' => e = .returned (.bool (right s)) ∧ But No W w') := fun W hb => right_any s A n c W (h.no hb)
  have HFT := Lib.hid h.fit
  have hcap := h.cap
  clear h
  unfold inR at h1 h2
  unfold sysV at CT ⊢
  cases hr : right s with
  | false =>
    rw [hr] at CT
    clear hr
    go_enter Try.func4, Try.ntmps4
    have HX : Hid (Blk (w.alloc (.cells #[.int .i64 s.co, .int .i64 s.po, .int .i64 s.pr, .int .i64 s.re, .int .i64 s.sw, .int .i64 s.fi, .int .i64 s.la, .int .i64 s.rs, .slice A n c] 24)) w.heap.size (boxS s A n c) 24) := Blk.new w _ _
    go_wp2_with (first | (go_at_call 7; refine (CX _).out.mono ?_; rintro e w1 ⟨rfl, hb1⟩; have HB1 := Lib.hid (((But.refl No w).alloc _).trans hb1); have HX1 := Lib.hid (HX.out.but hb1 (fun f => f)); clear hb1; obtain ⟨d0, d1, d2, d3, d4, d5, d6, d7, d8⟩ := sys_cells HX1.out) | (go_at_call 10; refine (CT.out _ HB1.out).mono ?_; rintro e w2 ⟨rfl, hb2⟩; have HB2 := Lib.hid (HB1.out.trans hb2); clear hb2))
    go_ret
    exact ⟨rfl, HB2.out⟩
  | true =>
    rw [hr] at CT
    obtain ⟨hwh, hall⟩ := right_parts hr
    obtain ⟨_, ⟨hr0, hr1⟩, hn1, hn2⟩ := whole_parts hwh
    rw [HN.out] at hn1 hn2
    have HRT := Lib.hid hr
    have HALL := Lib.hid hall
    clear hr hwh hall
    go_enter Try.func4, Try.ntmps4
    have HX : Hid (Blk (w.alloc (.cells #[.int .i64 s.co, .int .i64 s.po, .int .i64 s.pr, .int .i64 s.re, .int .i64 s.sw, .int .i64 s.fi, .int .i64 s.la, .int .i64 s.rs, .slice A n c] 24)) w.heap.size (boxS s A n c) 24) := Blk.new w _ _
    go_upto_if 18 with (first | (go_at_call 7; refine (CX _).out.mono ?_; rintro e w1 ⟨rfl, hb1⟩; have HB1 := Lib.hid (((But.refl No w).alloc _).trans hb1); have HX1 := Lib.hid (HX.out.but hb1 (fun f => f)); clear hb1; obtain ⟨d0, d1, d2, d3, d4, d5, d6, d7, d8⟩ := sys_cells HX1.out) | (go_at_call 10; refine (CT.out _ HB1.out).mono ?_; rintro e w2 ⟨rfl, hb2⟩; have HB2 := Lib.hid (HB1.out.trans hb2); have HX2 := Lib.hid (HX1.out.but hb2 (fun f => f)); clear hb2; clear d0 d1 d2 d3 d4 d5 d6 d7 d8))
    clear CX CT HX HX1 HB1
    go_cut [1] (fun u wx => u = .int .i64 (pos a1 : Int) ∧ Hid (wx = w2))
    case first =>
      by_cases hs : a1 < 0
      · have HS := Lib.hid (pos_neg hs)
        go_wp2
        all_goals (go_meet; exact ⟨by rw [HS.out], rfl⟩)
      · have HS := Lib.hid (pos_nat hs)
        go_wp2
        all_goals (go_meet; exact ⟨by rw [← HS.out], rfl⟩)
    case rest =>
    obtain ⟨rfl, HWX⟩ := hcut
    rw [HWX.out]
    clear HWX
    go_upto_if 23 with fail
    go_cut [2] (fun u wx => u = .int .i64 (pos a2 : Int) ∧ Hid (wx = w2))
    case first =>
      by_cases hs : a2 < 0
      · have HS := Lib.hid (pos_neg hs)
        go_wp2
        all_goals (go_meet; exact ⟨by rw [HS.out], rfl⟩)
      · have HS := Lib.hid (pos_nat hs)
        go_wp2
        all_goals (go_meet; exact ⟨by rw [← HS.out], rfl⟩)
    case rest =>
    obtain ⟨rfl, HWX⟩ := hcut
    rw [HWX.out]
    clear HWX
    have hp1 : pos a1 ≤ 9223372036854775807 := by unfold pos; split <;> omega
    have hp2 : pos a2 ≤ 9223372036854775807 := by unfold pos; split <;> omega
    obtain ⟨T, hT⟩ : ∃ T, pos a1 = T := ⟨_, rfl⟩
    obtain ⟨V, hV⟩ : ∃ V, pos a2 = V := ⟨_, rfl⟩
    rw [hT, hV]
    rw [hT] at hp1
    rw [hV] at hp2
    clear hT hV h1 h2
    obtain ⟨i, hi⟩ : ∃ i, T % n = i := ⟨_, rfl⟩
    have hin : i < n := by rw [← hi]; exact Nat.mod_lt _ (by omega)
    have HQ : Hid (((T : Int) % if (1 : Int) < (n : Int) then (n : Int) else 1) = (i : Int)) := by
      show _ = _
      rw [show (if (1 : Int) < (n : Int) then (n : Int) else 1) = (n : Int) by split <;> omega, ← hi]
      rfl
    have HQ2 : Hid ((if (1 : Int) < (n : Int) then (n : Int) else 1) = (n : Int)) := by show _ = _; split <;> omega
    clear hi
    have hn0 : ((n : Int) == 0) = false := by simp; omega
    have d8 : w2.cell? ⟨w.heap.size, 8, none⟩ = some (.slice A n c) := HX2.out.cell (o := 8) rfl
    go_upto_region 11 with fail
    rw [HQ.out, HQ2.out]
    clear HQ HQ2 d8 hn0
    obtain ⟨d0, d1, d2, d3, d4, d5, d6, d7, d8⟩ := sys_cells HX2.out
    go_upto_region 12 with fail
    clear d0 d1 d2 d3 d4 d5 d6 d7 d8
    obtain ⟨b3, hb3⟩ : ∃ b3, w.heap.size = b3 := ⟨_, rfl⟩
    obtain ⟨b4, hb4⟩ : ∃ b4, w2.heap.size = b4 := ⟨_, rfl⟩
    obtain ⟨wa, hwa, HBa, HXa, HLa, HNa⟩ : ∃ wa, w2.alloc (.cells #[.int .i64 s.co, .int .i64 s.po, .int .i64 s.pr, .int .i64 s.re, .int .i64 s.sw, .int .i64 s.fi, .int .i64 s.la, .int .i64 s.rs, .slice A n c] 24) = wa ∧ Hid (But No w wa) ∧ Hid (Blk wa b3 (boxS s A n c) 24) ∧ Hid (Blk wa b4 (boxS s A n c) 24) ∧ Hid (b3 ≠ b4 ∧ w.heap.size = b3 ∧ w.heap.size ≤ b4) := by
      subst hb3 hb4
      have h1 := HX2.out.lt
      exact ⟨_, rfl, HB2.out.alloc _, HX2.out.alloc _, Blk.new _ _ _, by omega, rfl, HB2.out.size⟩
    rw [hwa, hb3, hb4]
    clear hwa hb3 hb4 HB2 HX2
    clear w1 w2
    obtain ⟨x, hx⟩ : ∃ x, L[i]? = some x := ⟨_, List.getElem?_eq_getElem (by rw [HL2.out]; exact hin)⟩
    have HXI := Lib.hid hx
    obtain ⟨b, off, rfl, _, _⟩ := HRD.out.at4 HL2.out hx
    clear hx
    obtain ⟨i1, hi1⟩ : ∃ i1, i + 1 = i1 := ⟨_, rfl⟩
    obtain ⟨A2, hA2⟩ : ∃ A2, (if c = i1 then some (⟨b, off, none⟩ : Addr) else some ⟨b, off + i1 * 4, none⟩) = A2 := ⟨_, rfl⟩
    have hi1n : i1 ≤ n := by omega
    have R1 : Hid (∀ W, But No w W → Reads W w.heap.size 4 (some ⟨b, off, none⟩) i ((L.take i).flatMap tvC)) := fun W hb => (HRD.out.no hb (Nat.le_refl _)).front HL2.out (by omega)
    have R2 : Hid (∀ W, But No w W → Reads W w.heap.size 4 A2 (n - i1) ((L.drop i1).flatMap tvC)) := fun W hb => by
      have h1 := (HRD.out.no hb (Nat.le_refl _)).back hi1n hcap
      rw [← hA2]
      simpa [add_plain] using h1
    have ON : Hid (∀ L' : List (Tsk × Value), (∀ x ∈ L', x ∈ L) → ∀ u ∈ L'.flatMap tvC, u.oneCell' = true) := fun L' hL' => flat_one L' (fun x hx => by obtain ⟨⟨A, c, e, _⟩, _⟩ := HTV.out x (hL' x hx); exact ⟨A, _, c, e⟩)
    have O1 : Hid (∀ u ∈ (L.take i).flatMap tvC, u.oneCell' = true) := ON.out _ (fun x hx => List.mem_of_mem_take hx)
    have O2 : Hid (∀ u ∈ (L.drop i1).flatMap tvC, u.oneCell' = true) := ON.out _ (fun x hx => List.mem_of_mem_drop hx)
    obtain ⟨i0, hi0, hz1, hz2, hz3⟩ := info_parts info35
    have I0 : Hid (Try.prog.info? 35 = some i0 ∧ i0.zero = some (.agg #[.int .i64 0, .int .i64 0, .int .i64 0, .slice none 0 0]) ∧ i0.size = 4 ∧ i0.bytes = 48) := ⟨hi0, hz1, hz2, hz3⟩
    have w1 : IntKind.i64.wrap ((i : Int) + 1) = (i1 : Int) := by rw [IntKind.wrap_i64]; omega
    have w2 : IntKind.i64.wrap (i1 : Int) = (i1 : Int) := by rw [IntKind.wrap_i64]; omega
    have HI1 := Lib.hid hi1
    have q1 : (i : Int) ≤ (c : Int) := by omega
    have q2 : (i1 : Int) ≤ (n : Int) := by omega
    have q3 : (n : Int) ≤ (c : Int) := by omega
    have d8 : wa.cell? ⟨b3, 8, none⟩ = some (.slice (some ⟨b, off, none⟩) n c) := HXa.out.cell (o := 8) rfl
    have f8 : wa.frozen? ⟨b4, 8, none⟩ = false := HLa.out.frozen 8
    clear hi0 hz1 hz2 hz3 hi1
    go_region_held3 (fun w' => w'.cell? ⟨b3, 8, none⟩ = some (.slice (some ⟨b, off, none⟩) n c) ∧ But No w w')
      (first | exact ⟨d8, HBa.out.drew⟩ | exact ⟨cell_keep d8 HB5.out, HBa.out.trans HB5.out⟩ | exact ⟨cell_keep d8 HB6.out, HBa.out.trans HB6.out⟩ | exact ⟨(HX6.out.other HNa.out.1 _).cell (o := 8) rfl, (HBa.out.trans HB6.out).setNew HNa.out.2.2 _⟩)
      (first | (refine step_append_sh rfl _ _ 22 rfl 35 i0 _ 4 48 Try.underlying22 I0.out.1 I0.out.2.1 I0.out.2.2.1 I0.out.2.2.2 rfl (by omega) (.slice none 0 0) 0 [] (by simp [Act.eval]) (World.ownsRow_nil _ _ _ _) w.heap.size (some ⟨b, off, none⟩) i c ((L.take i).flatMap tvC) (by simp [Act.eval]) (R1.out _ HBa.out.drew) O1.out (by unfold maxLen; omega) (by omega) ?_; intro A5 c5 w5 hown5 hgrow5 hat5; have HB5 : Hid (But No wa w5) := ((But.refl No wa).drew).grown hgrow5.out (fun k e => by simp [Value.ownBlock] at e)) | (refine step_append_sh rfl _ _ 22 rfl 35 i0 _ 4 48 Try.underlying22 I0.out.1 I0.out.2.1 I0.out.2.2.1 I0.out.2.2.2 rfl (by omega) (.slice A5 (0 + i) c5) (0 + i) _ (by simp [Act.eval]) hown5.out w.heap.size A2 (n - i1) (c - i1) ((L.drop i1).flatMap tvC) (by simp [Act.eval]) (R2.out _ (HBa.out.trans HB5.out)) O2.out (by unfold maxLen; omega) (by omega) ?_; intro A6 c6 w6 hown6 hgrow6 hat6; have HB6 : Hid (But No wa w6) := HB5.out.grown hgrow6.out (fun j e => .inr (own_new own_none hat5.out (Nat.le_refl _) j e)); have HX6 := Lib.hid (HXa.out.but HB6.out (fun f => f)); have u8 : w6.cell? ⟨b4, 8, none⟩ = some (.slice (some ⟨b, off, none⟩) n c) := (HLa.out.but HB6.out (fun f => f)).cell (o := 8) rfl; have f6 : w6.frozen? ⟨b4, 8, none⟩ = false := (HLa.out.but HB6.out (fun f => f)).frozen 8))
    rename_i hHeld
    clear hHeld
    obtain ⟨m, hm⟩ : ∃ m, i + (n - i1) = m := ⟨_, rfl⟩
    have hmn : m + 1 = n := by have := HI1.out; omega
    rw [hm]
    simp only [Nat.zero_add, List.nil_append] at hown6 hat6 hat5
    rw [hm] at hown6 hat6
    obtain ⟨bq, hbq⟩ : ∃ bq, decide (1 < n) = bq := ⟨_, rfl⟩
    obtain ⟨wc, hwc, HBc, HXc, HLc, CL⟩ : ∃ wc, w6.setCell ⟨b4, 8, none⟩ (.slice A6 m c6) = wc ∧ Hid (But No w wc) ∧ Hid (Blk wc b3 (boxS s (some ⟨b, off, none⟩) n c) 24) ∧ Hid (Blk wc b4 (boxS s A6 m c6) 24) ∧ Hid (∀ W, But No wc W → Calls Try.prog 10 #[.agg #[.int .i64 s.co, .int .i64 s.po, .int .i64 s.pr, .int .i64 s.re, .int .i64 s.sw, .int .i64 s.fi, .int .i64 s.la, .int .i64 s.rs, .slice A6 m c6]] W fun e w' => e = .returned (.bool bq) ∧ But No W w') := by
      have hBc : But No w (w6.setCell ⟨b4, 8, none⟩ (.slice A6 m c6)) := (HBa.out.trans HB6.out).setNew HNa.out.2.2 _
      have hl := HLa.out.lt
      have hj : But (Just b4) w6 (w6.setCell ⟨b4, 8, none⟩ (.slice A6 m c6)) := (But.refl (Just b4) w6).setCell (p := ⟨b4, 8, none⟩) (just b4) _
      have h5 := own_new (M := wa.heap.size) own_none hat5.out (Nat.le_refl _)
      have h6 := own_new (M := wa.heap.size) h5 hat6.out HB5.out.size
      have hrd := Reads.of_own (owns_but hown6.out hj (fun j e f => by have := h6 j e; cases f; omega))
      rw [← List.flatMap_append] at hrd
      have hcap6 : m ≤ c6 := by
        rcases hown6.out.2 with ⟨g1, g2⟩ | ⟨g, cap, cur, hv, _, _, hc, _⟩
        · cases g1; omega
        · cases hv; exact hc
      have hsub : ∀ x ∈ L.take i ++ L.drop i1, x ∈ L := fun x hx => by
        rcases List.mem_append.1 hx with hx | hx
        · exact List.mem_of_mem_take hx
        · exact List.mem_of_mem_drop hx
      have hrt := reads_rtsk hrd (by rw [List.length_append, List.length_take, List.length_drop, HL2.out]; omega) (by omega) (fun x hx => (HTV.out x (hsub x hx)).no hBc)
      rw [List.map_append, List.map_take, List.map_drop, HL1.out, ← HI1.out] at hrt
      refine ⟨_, rfl, hBc, HX6.out.other HNa.out.1 _, (HLa.out.but HB6.out (fun f => f)).set 8 _, fun W hb => ?_⟩
      have hR := right_any { s with ts := s.ts.take i ++ s.ts.drop (i + 1) } A6 m c6 W ⟨hcap6, hrt.no hb, HFT.out⟩
      rw [right_less HRT.out (by rw [HN.out]; exact hin), HN.out, hbq] at hR
      exact hR
    rw [hwc]
    clear hwc hm hmn HBa HXa HLa hown5 hgrow5 hat5 HB5 hown6 hgrow6 hat6 HB6 HX6 u8 f6 d8 f8 R1 R2 O1 O2 q1 q2 w1 w2 hA2
    have e8 : wc.cell? ⟨b3, 8, none⟩ = some (.slice (some ⟨b, off, none⟩) n c) := HXc.out.cell (o := 8) rfl
    have hbi : decide ((1 : Int) < (n : Int)) = bq := by rw [← hbq]; simp; omega
    have HL9 : Hid (S9 wc b4 s A6 m c6) := sys_cells HLc.out
    go_upto_region 13 with fail
    go_region_held3 (fun w' => S9 w' b4 s A6 m c6 ∧ w'.cell? ⟨b3, 8, none⟩ = some (.slice (some ⟨b, off, none⟩) n c) ∧ But No wc w')
      (first | exact ⟨keepS9 HL9.out ((But.refl No wc).drew), e8, (But.refl No wc).drew⟩ | exact ⟨keepS9 HL9.out HB7.out, cell_keep e8 HB7.out, HB7.out⟩)
      (first | (go_at_call 10; refine (CL.out _ ((But.refl No wc).drew)).mono ?_; rintro e w7 ⟨rfl, hb7⟩; have HB7 : Hid (But No wc w7) := ((But.refl No wc).drew).trans hb7; clear hb7))
    rename_i hHeld
    clear hHeld e8 HL9 CL
    have HX7 := Lib.hid (HXc.out.but HB7.out (fun f => f))
    have HBw7 := Lib.hid (HBc.out.trans HB7.out)
    clear HXc HLc HBc HB7 hbi hbq
    obtain ⟨d0, d1, d2, d3, d4, d5, d6, d7, d8⟩ := sys_cells HX7.out
    go_upto_region 16 with fail
    clear d0 d1 d2 d3 d4 d5 d6 d7 d8
    obtain ⟨b5, hb5⟩ : ∃ b5, w7.heap.size = b5 := ⟨_, rfl⟩
    obtain ⟨wd, hwd, HBd, HXd, HVd, HNd⟩ : ∃ wd, w7.alloc (.cells #[.int .i64 s.co, .int .i64 s.po, .int .i64 s.pr, .int .i64 s.re, .int .i64 s.sw, .int .i64 s.fi, .int .i64 s.la, .int .i64 s.rs, .slice (some ⟨b, off, none⟩) n c] 24) = wd ∧ Hid (But No w wd) ∧ Hid (Blk wd b3 (boxS s (some ⟨b, off, none⟩) n c) 24) ∧ Hid (Blk wd b5 (boxS s (some ⟨b, off, none⟩) n c) 24) ∧ Hid (b3 ≠ b5 ∧ w.heap.size ≤ b3 ∧ w.heap.size ≤ b5) := by
      subst hb5
      have g1 := HX7.out.lt
      have g2 := HBw7.out.size
      have g3 := HNa.out.2.1
      exact ⟨_, rfl, HBw7.out.alloc _, HX7.out.alloc _, Blk.new _ _ _, by omega, by omega, by omega⟩
    rw [hwd, hb5]
    clear hwd hb5 HX7 HBw7
    have d8 : wd.cell? ⟨b3, 8, none⟩ = some (.slice (some ⟨b, off, none⟩) n c) := HXd.out.cell (o := 8) rfl
    have RA := Lib.hid (HRD.out.no HBd.out (Nat.le_refl _))
    have OA : Hid (∀ u ∈ L.flatMap tvC, u.oneCell' = true) := ON.out _ (fun x hx => hx)
    go_upto_region 17 with (at_builtin; refine wpList_append_sh _ rfl _ _ 22 rfl 35 i0 _ 4 48 Try.underlying22 I0.out.1 I0.out.2.1 I0.out.2.2.1 I0.out.2.2.2 rfl (by omega) (.slice none 0 0) 0 [] rfl (World.ownsRow_nil _ _ _ _) w.heap.size (some ⟨b, off, none⟩) n c (L.flatMap tvC) rfl RA.out OA.out (by unfold maxLen; omega) (by omega) ?_; intro A8 c8 w8 hown hgrow hat; have HG : Hid (But No wd w8) := (But.refl No wd).grown hgrow (fun k e => by simp [Value.ownBlock] at e); have HAT := Lib.hid hat; have HOW := Lib.hid hown; have u8 : w8.cell? ⟨b5, 8, none⟩ = some (.slice (some ⟨b, off, none⟩) n c) := (HVd.out.but HG.out (fun f => f)).cell (o := 8) rfl; have f8 : w8.frozen? ⟨b5, 8, none⟩ = false := (HVd.out.but HG.out (fun f => f)).frozen 8; clear hown hgrow hat)
    clear u8 f8 d8 RA OA
    simp only [Nat.zero_add, List.nil_append] at HOW HAT ⊢
    obtain ⟨g, rfl⟩ : ∃ g, A8 = some ⟨g, 0, none⟩ := by
      obtain ⟨g, cap, hv, _⟩ := HOW.out.form (by omega)
      injection hv with hv
      exact ⟨g, hv⟩
    obtain ⟨we, hwe, HRe⟩ : ∃ we, w8.setCell ⟨b5, 8, none⟩ (.slice (some ⟨g, 0, none⟩) n c8) = we ∧ Hid (Bare w we b3 b5 g n c8 (boxS s (some ⟨b, off, none⟩) n c) s L) := by
      obtain ⟨n1, n2, n3⟩ := HNd.out
      have l5 := HVd.out.lt
      have l3 := HXd.out.lt
      have l6 := HBd.out.size
      have hn5 : ∀ j, (Value.slice (some ⟨g, 0, none⟩) n c8).ownBlock = some j → g = j := fun j e => by simpa [Value.ownBlock] using e
      have hg : wd.heap.size ≤ g := own_new (M := wd.heap.size) own_none HAT.out (Nat.le_refl _) g rfl
      have hj : But (Just b5) w8 (w8.setCell ⟨b5, 8, none⟩ (.slice (some ⟨g, 0, none⟩) n c8)) := (But.refl (Just b5) w8).setCell (p := ⟨b5, 8, none⟩) (just b5) _
      refine ⟨_, rfl, (HBd.out.trans HG.out).setNew n3 _, (HXd.out.but HG.out (fun f => f)).other n1 _, (HVd.out.but HG.out (fun f => f)).set 8 _, ⟨owns_but HOW.out hj (fun j e f => by have e1 := hn5 j e; have e2 : j = b5 := f; omega), fun j e => by have e1 := hn5 j e; omega⟩, fun x hx => .inl (HTV.out x hx), HL2.out, hn2, ⟨n1, by omega, by omega, n2, n3, by omega⟩, HFT.out⟩
    rw [hwe]
    clear hwe HBd HXd HVd HNd HG HAT HOW HNa I0 ON HRD
    clear w8 w7 wd w6 w5 wa
    obtain ⟨⟨tp, td, tw, tss⟩, xv⟩ := x
    have HTX : Hid (Tv w (⟨tp, td, tw, tss⟩, xv)) := HTV.out _ (List.mem_of_getElem? HXI.out)
    obtain ⟨k0, k1, k2, k3⟩ := HRe.out.cells HXI.out
    have f3 : we.frozen? ⟨g, i * 4 + 3, none⟩ = false := HRe.out.og.blk.2.2.2 _
    have d8 : we.cell? ⟨b5, 8, none⟩ = some (.slice (some ⟨g, 0, none⟩) n c8) := HRe.out.bb.cell (o := 8) rfl
    obtain ⟨xa, xn, xc, rfl⟩ : ∃ xa xn xc, xv = .slice xa xn xc := by obtain ⟨⟨A, c, e, _⟩, _⟩ := HTX.out; exact ⟨A, _, c, e⟩
    go_upto_region 18 with fail
    clear k0 k1 k2 k3 f3 d8
    obtain ⟨wf, hwf, HRf⟩ : ∃ wf, we.setCell ⟨g, i * 4 + 3, none⟩ (.slice none 0 0) = wf ∧ Hid (Bare w wf b3 b5 g n c8 (boxS s (some ⟨b, off, none⟩) n c) s (L.set i (⟨tp, td, tw, []⟩, .slice none 0 0))) :=
      ⟨_, rfl, HRe.out.setT HXI.out (by omega) rfl (.inl (Tv.bare HTX.out.2 rfl))⟩
    rw [hwf]
    clear hwf
    have HT0 : Hid (s.ts[i]? = some ⟨tp, td, tw, tss⟩) := by
      show _ = _
      rw [← HL1.out, List.getElem?_map, HXI.out]; rfl
    have HLI : Hid ((L.set i ((⟨tp, td, tw, []⟩ : Tsk), Value.slice none 0 0))[i]? = some (⟨tp, td, tw, []⟩, .slice none 0 0)) := by
      show _ = _
      rw [List.getElem?_set_self (by rw [HL2.out]; exact hin)]
    have hhead := head_parts (vTsk_parts (HALL.out _ (List.mem_of_getElem? HT0.out))).1
    simp only at hhead
    obtain ⟨⟨p1, p2⟩, ⟨p3, p4⟩, ⟨p5, p6⟩, _⟩ := hhead
    have CB : Hid (∀ W, But No wf W → Calls Try.prog 10 #[.agg #[.int .i64 s.co, .int .i64 s.po, .int .i64 s.pr, .int .i64 s.re, .int .i64 s.sw, .int .i64 s.fi, .int .i64 s.la, .int .i64 s.rs, .slice (some ⟨g, 0, none⟩) n c8]] W fun e w' => e = .returned (.bool true) ∧ But No W w') := fun W hb => by
      have hR := right_any _ _ n c8 W (HRf.out.step hb).rsys
      rw [List.map_set, HL1.out, right_bare HRT.out HT0.out] at hR
      exact hR
    generalize hLL : L.set i ((⟨tp, td, tw, []⟩ : Tsk), Value.slice none 0 0) = L' at HRf HLI
    clear HRe hLL
    clear we
    obtain ⟨d0, d1, d2, d3, d4, d5, d6, d7, d8⟩ := sys_cells HRf.out.bb
    have hqs : V % 8 = 0 ∨ V % 8 = 1 ∨ V % 8 = 2 ∨ V % 8 = 3 ∨ V % 8 = 4 ∨ V % 8 = 5 ∨ V % 8 = 6 ∨ V % 8 = 7 := by omega
    go_upto_region 22 with (go_at_call 10; refine (CB.out _ (But.refl No wf)).mono ?_; rintro e w9 ⟨rfl, hb9⟩; have HR9 := Lib.hid (HRf.out.step hb9); clear hb9)
    clear d0 d1 d2 d3 d4 d5 d6 d7 d8 HRf CB
    clear wf
    rcases hqs with hc | hc | hc | hc | hc | hc | hc | hc
    · rw [show ((V : Int) % 8) = 0 by omega]
      clear hc
      have d8 : w9.cell? ⟨b5, 8, none⟩ = some (.slice (some ⟨g, 0, none⟩) n c8) := HR9.out.bb.cell (o := 8) rfl
      obtain ⟨k0, k1, k2, k3⟩ := HR9.out.cells HLI.out
      simp only at k0 k1 k2 k3
      have f1 : w9.frozen? ⟨g, i * 4 + 1, none⟩ = false := HR9.out.og.blk.2.2.2 _
      have f2 : w9.frozen? ⟨g, i * 4 + 2, none⟩ = false := HR9.out.og.blk.2.2.2 _
      have f3 : w9.frozen? ⟨g, i * 4 + 3, none⟩ = false := HR9.out.og.blk.2.2.2 _
      obtain ⟨z1, hz1⟩ : ∃ z1, td + 1 = z1 := ⟨_, rfl⟩
      have wz1 : IntKind.i64.wrap (td + 1) = z1 := by rw [IntKind.wrap_i64]; omega
      have wz2 : IntKind.i64.wrap z1 = z1 := by rw [IntKind.wrap_i64]; omega
      have hz2 : td < z1 ∧ z1 ≤ 1099511627777 := by omega
      have Z0 : Hid (Bare w (w9.setCell ⟨g, i * 4 + 2, none⟩ (.int .i64 z1)).drew b3 b5 g n c8 (boxS s (some ⟨b, off, none⟩) n c) s (L'.set i (⟨tp, td, z1, []⟩, .slice none 0 0))) := (HR9.out.setT HLI.out (by omega) rfl (.inl (Tv.bare ⟨by first | exact HTX.out.2.1 | (show inR z1; unfold inR; omega), by first | exact HTX.out.2.2.1 | (show inR z1; unfold inR; omega), by first | exact HTX.out.2.2.2 | (show inR z1; unfold inR; omega)⟩ rfl))).step ((But.refl No _).drew)
      have ZI : Hid ((L'.set i ((⟨tp, td, z1, []⟩ : Tsk), Value.slice none 0 0))[i]? = some (⟨tp, td, z1, []⟩, .slice none 0 0)) := List.getElem?_set_self (by rw [HR9.out.len]; exact hin)
      clear hz1
      have HD8 := Lib.hid d8
      have HK := Lib.hid k1
      go_upto_region 23 with fail
      go_region_held3 (fun w' => w'.cell? ⟨b5, 8, none⟩ = some (.slice (some ⟨g, 0, none⟩) n c8) ∧ w'.cell? ⟨g, i * 4 + 1, none⟩ = some (.int .i64 td))
        (first | exact ⟨HD8.out, HK.out⟩ | exact ⟨Z0.out.bb.cell (o := 8) rfl, (Z0.out.cells ZI.out).2.1⟩)
        (fail)
      rename_i hHeld
      clear hHeld
      clear d8 k0 k1 k2 k3 f1 f2 f3 HD8 HK wz1 wz2
      go_upto_region 42 with fail
      obtain ⟨wz, hwz, HRz⟩ : ∃ wz, (w9.setCell ⟨g, i * 4 + 2, none⟩ (.int .i64 z1)).drew = wz ∧ Hid (Bare w wz b3 b5 g n c8 (boxS s (some ⟨b, off, none⟩) n c) ⟨s.co, s.po, s.pr, s.re, s.sw, s.fi, s.la, s.rs, s.ts⟩ (L'.set i (⟨tp, td, z1, []⟩, .slice none 0 0))) := ⟨_, rfl, Z0.out⟩
      rw [hwz]
      clear hwz
      have HBAD : right { (⟨s.co, s.po, s.pr, s.re, s.sw, s.fi, s.la, s.rs, s.ts⟩ : Sys) with ts := (L'.set i (⟨tp, td, z1, []⟩, .slice none 0 0)).map (·.1) } = false := right_bad (t := ⟨tp, td, z1, []⟩) (List.mem_map.2 ⟨_, List.mem_of_getElem? (List.getElem?_set_self (by rw [HR9.out.len]; exact hin)), rfl⟩) (head_bad (.inr (.inl hz2.1)))
      have CZ : Hid (∀ W, But No wz W → Calls Try.prog 10 #[.agg #[.int .i64 s.co, .int .i64 s.po, .int .i64 s.pr, .int .i64 s.re, .int .i64 s.sw, .int .i64 s.fi, .int .i64 s.la, .int .i64 s.rs, .slice (some ⟨g, 0, none⟩) n c8]] W fun e w' => e = .returned (.bool false) ∧ But No W w') := fun W hb => (right_any _ _ n c8 W (HRz.out.step hb).rsys).mono fun e w' ⟨h1, h2⟩ => ⟨by rw [h1]; exact congrArg (fun b => Ending.returned (.bool b)) HBAD, h2⟩
      clear HBAD
      have d0 : wz.cell? ⟨b5, 0, none⟩ = some (.int .i64 s.co) := HRz.out.bb.cell (o := 0) rfl
      have d1 : wz.cell? ⟨b5, 1, none⟩ = some (.int .i64 s.po) := HRz.out.bb.cell (o := 1) rfl
      have d2 : wz.cell? ⟨b5, 2, none⟩ = some (.int .i64 s.pr) := HRz.out.bb.cell (o := 2) rfl
      have d3 : wz.cell? ⟨b5, 3, none⟩ = some (.int .i64 s.re) := HRz.out.bb.cell (o := 3) rfl
      have d4 : wz.cell? ⟨b5, 4, none⟩ = some (.int .i64 s.sw) := HRz.out.bb.cell (o := 4) rfl
      have d5 : wz.cell? ⟨b5, 5, none⟩ = some (.int .i64 s.fi) := HRz.out.bb.cell (o := 5) rfl
      have d6 : wz.cell? ⟨b5, 6, none⟩ = some (.int .i64 s.la) := HRz.out.bb.cell (o := 6) rfl
      have d7 : wz.cell? ⟨b5, 7, none⟩ = some (.int .i64 s.rs) := HRz.out.bb.cell (o := 7) rfl
      have d8 : wz.cell? ⟨b5, 8, none⟩ = some (.slice (some ⟨g, 0, none⟩) n c8) := HRz.out.bb.cell (o := 8) rfl
      go_wp2_with (go_at_call 10; refine (CZ.out _ (But.refl No wz)).mono ?_; rintro e wx ⟨rfl, hbx⟩; have HBX := Lib.hid (HRz.out.but.trans hbx); clear hbx)
      go_ret
      exact ⟨rfl, HBX.out⟩
    · rw [show ((V : Int) % 8) = 1 by omega]
      clear hc
      have d8 : w9.cell? ⟨b5, 8, none⟩ = some (.slice (some ⟨g, 0, none⟩) n c8) := HR9.out.bb.cell (o := 8) rfl
      obtain ⟨k0, k1, k2, k3⟩ := HR9.out.cells HLI.out
      simp only at k0 k1 k2 k3
      have f1 : w9.frozen? ⟨g, i * 4 + 1, none⟩ = false := HR9.out.og.blk.2.2.2 _
      have f2 : w9.frozen? ⟨g, i * 4 + 2, none⟩ = false := HR9.out.og.blk.2.2.2 _
      have f3 : w9.frozen? ⟨g, i * 4 + 3, none⟩ = false := HR9.out.og.blk.2.2.2 _
      obtain ⟨z1, hz1⟩ : ∃ z1, tp + 1 = z1 := ⟨_, rfl⟩
      have wz1 : IntKind.i64.wrap (tp + 1) = z1 := by rw [IntKind.wrap_i64]; omega
      have wz2 : IntKind.i64.wrap z1 = z1 := by rw [IntKind.wrap_i64]; omega
      have hz2 : tp < z1 ∧ z1 ≤ 1099511627777 := by omega
      have Z0 : Hid (Bare w (w9.setCell ⟨g, i * 4 + 1, none⟩ (.int .i64 z1)).drew b3 b5 g n c8 (boxS s (some ⟨b, off, none⟩) n c) s (L'.set i (⟨tp, z1, tw, []⟩, .slice none 0 0))) := (HR9.out.setT HLI.out (by omega) rfl (.inl (Tv.bare ⟨by first | exact HTX.out.2.1 | (show inR z1; unfold inR; omega), by first | exact HTX.out.2.2.1 | (show inR z1; unfold inR; omega), by first | exact HTX.out.2.2.2 | (show inR z1; unfold inR; omega)⟩ rfl))).step ((But.refl No _).drew)
      have ZI : Hid ((L'.set i ((⟨tp, z1, tw, []⟩ : Tsk), Value.slice none 0 0))[i]? = some (⟨tp, z1, tw, []⟩, .slice none 0 0)) := List.getElem?_set_self (by rw [HR9.out.len]; exact hin)
      clear hz1
      have HD8 := Lib.hid d8
      have HK := Lib.hid k0
      go_upto_region 25 with fail
      go_region_held3 (fun w' => w'.cell? ⟨b5, 8, none⟩ = some (.slice (some ⟨g, 0, none⟩) n c8) ∧ w'.cell? ⟨g, i * 4, none⟩ = some (.int .i64 tp))
        (first | exact ⟨HD8.out, HK.out⟩ | exact ⟨Z0.out.bb.cell (o := 8) rfl, (Z0.out.cells ZI.out).1⟩)
        (fail)
      rename_i hHeld
      clear hHeld
      clear d8 k0 k1 k2 k3 f1 f2 f3 HD8 HK wz1 wz2
      go_upto_region 42 with fail
      obtain ⟨wz, hwz, HRz⟩ : ∃ wz, (w9.setCell ⟨g, i * 4 + 1, none⟩ (.int .i64 z1)).drew = wz ∧ Hid (Bare w wz b3 b5 g n c8 (boxS s (some ⟨b, off, none⟩) n c) ⟨s.co, s.po, s.pr, s.re, s.sw, s.fi, s.la, s.rs, s.ts⟩ (L'.set i (⟨tp, z1, tw, []⟩, .slice none 0 0))) := ⟨_, rfl, Z0.out⟩
      rw [hwz]
      clear hwz
      have HBAD : right { (⟨s.co, s.po, s.pr, s.re, s.sw, s.fi, s.la, s.rs, s.ts⟩ : Sys) with ts := (L'.set i (⟨tp, z1, tw, []⟩, .slice none 0 0)).map (·.1) } = false := right_bad (t := ⟨tp, z1, tw, []⟩) (List.mem_map.2 ⟨_, List.mem_of_getElem? (List.getElem?_set_self (by rw [HR9.out.len]; exact hin)), rfl⟩) (head_bad (.inr (.inr hz2.1)))
      have CZ : Hid (∀ W, But No wz W → Calls Try.prog 10 #[.agg #[.int .i64 s.co, .int .i64 s.po, .int .i64 s.pr, .int .i64 s.re, .int .i64 s.sw, .int .i64 s.fi, .int .i64 s.la, .int .i64 s.rs, .slice (some ⟨g, 0, none⟩) n c8]] W fun e w' => e = .returned (.bool false) ∧ But No W w') := fun W hb => (right_any _ _ n c8 W (HRz.out.step hb).rsys).mono fun e w' ⟨h1, h2⟩ => ⟨by rw [h1]; exact congrArg (fun b => Ending.returned (.bool b)) HBAD, h2⟩
      clear HBAD
      have d0 : wz.cell? ⟨b5, 0, none⟩ = some (.int .i64 s.co) := HRz.out.bb.cell (o := 0) rfl
      have d1 : wz.cell? ⟨b5, 1, none⟩ = some (.int .i64 s.po) := HRz.out.bb.cell (o := 1) rfl
      have d2 : wz.cell? ⟨b5, 2, none⟩ = some (.int .i64 s.pr) := HRz.out.bb.cell (o := 2) rfl
      have d3 : wz.cell? ⟨b5, 3, none⟩ = some (.int .i64 s.re) := HRz.out.bb.cell (o := 3) rfl
      have d4 : wz.cell? ⟨b5, 4, none⟩ = some (.int .i64 s.sw) := HRz.out.bb.cell (o := 4) rfl
      have d5 : wz.cell? ⟨b5, 5, none⟩ = some (.int .i64 s.fi) := HRz.out.bb.cell (o := 5) rfl
      have d6 : wz.cell? ⟨b5, 6, none⟩ = some (.int .i64 s.la) := HRz.out.bb.cell (o := 6) rfl
      have d7 : wz.cell? ⟨b5, 7, none⟩ = some (.int .i64 s.rs) := HRz.out.bb.cell (o := 7) rfl
      have d8 : wz.cell? ⟨b5, 8, none⟩ = some (.slice (some ⟨g, 0, none⟩) n c8) := HRz.out.bb.cell (o := 8) rfl
      go_wp2_with (go_at_call 10; refine (CZ.out _ (But.refl No wz)).mono ?_; rintro e wx ⟨rfl, hbx⟩; have HBX := Lib.hid (HRz.out.but.trans hbx); clear hbx)
      go_ret
      exact ⟨rfl, HBX.out⟩
    · rw [show ((V : Int) % 8) = 2 by omega]
      clear hc
      have d8 : w9.cell? ⟨b5, 8, none⟩ = some (.slice (some ⟨g, 0, none⟩) n c8) := HR9.out.bb.cell (o := 8) rfl
      obtain ⟨k0, k1, k2, k3⟩ := HR9.out.cells HLI.out
      simp only at k0 k1 k2 k3
      have f1 : w9.frozen? ⟨g, i * 4 + 1, none⟩ = false := HR9.out.og.blk.2.2.2 _
      have f2 : w9.frozen? ⟨g, i * 4 + 2, none⟩ = false := HR9.out.og.blk.2.2.2 _
      have f3 : w9.frozen? ⟨g, i * 4 + 3, none⟩ = false := HR9.out.og.blk.2.2.2 _
      go_upto_region 42 with fail
      clear d8 k0 k1 k2 k3 f1 f2 f3
      obtain ⟨wz, hwz, HRz⟩ : ∃ wz, w9.setCell ⟨g, i * 4 + 2, none⟩ (.int .i64 0) = wz ∧ Hid (Bare w wz b3 b5 g n c8 (boxS s (some ⟨b, off, none⟩) n c) ⟨s.co, s.po, s.pr, s.re, s.sw, s.fi, s.la, s.rs, s.ts⟩ (L'.set i (⟨tp, td, 0, []⟩, .slice none 0 0))) := ⟨_, rfl, HR9.out.setT HLI.out (by omega) rfl (.inl (Tv.bare ⟨HTX.out.2.1, HTX.out.2.2.1, by show inR 0; unfold inR; omega⟩ rfl))⟩
      rw [hwz]
      clear hwz
      have HBAD : right { (⟨s.co, s.po, s.pr, s.re, s.sw, s.fi, s.la, s.rs, s.ts⟩ : Sys) with ts := (L'.set i (⟨tp, td, 0, []⟩, .slice none 0 0)).map (·.1) } = false := right_bad (t := ⟨tp, td, 0, []⟩) (List.mem_map.2 ⟨_, List.mem_of_getElem? (List.getElem?_set_self (by rw [HR9.out.len]; exact hin)), rfl⟩) (head_bad (.inl (by show (0 : Int) < 1; omega)))
      have CZ : Hid (∀ W, But No wz W → Calls Try.prog 10 #[.agg #[.int .i64 s.co, .int .i64 s.po, .int .i64 s.pr, .int .i64 s.re, .int .i64 s.sw, .int .i64 s.fi, .int .i64 s.la, .int .i64 s.rs, .slice (some ⟨g, 0, none⟩) n c8]] W fun e w' => e = .returned (.bool false) ∧ But No W w') := fun W hb => (right_any _ _ n c8 W (HRz.out.step hb).rsys).mono fun e w' ⟨h1, h2⟩ => ⟨by rw [h1]; exact congrArg (fun b => Ending.returned (.bool b)) HBAD, h2⟩
      clear HBAD
      have d0 : wz.cell? ⟨b5, 0, none⟩ = some (.int .i64 s.co) := HRz.out.bb.cell (o := 0) rfl
      have d1 : wz.cell? ⟨b5, 1, none⟩ = some (.int .i64 s.po) := HRz.out.bb.cell (o := 1) rfl
      have d2 : wz.cell? ⟨b5, 2, none⟩ = some (.int .i64 s.pr) := HRz.out.bb.cell (o := 2) rfl
      have d3 : wz.cell? ⟨b5, 3, none⟩ = some (.int .i64 s.re) := HRz.out.bb.cell (o := 3) rfl
      have d4 : wz.cell? ⟨b5, 4, none⟩ = some (.int .i64 s.sw) := HRz.out.bb.cell (o := 4) rfl
      have d5 : wz.cell? ⟨b5, 5, none⟩ = some (.int .i64 s.fi) := HRz.out.bb.cell (o := 5) rfl
      have d6 : wz.cell? ⟨b5, 6, none⟩ = some (.int .i64 s.la) := HRz.out.bb.cell (o := 6) rfl
      have d7 : wz.cell? ⟨b5, 7, none⟩ = some (.int .i64 s.rs) := HRz.out.bb.cell (o := 7) rfl
      have d8 : wz.cell? ⟨b5, 8, none⟩ = some (.slice (some ⟨g, 0, none⟩) n c8) := HRz.out.bb.cell (o := 8) rfl
      go_wp2_with (go_at_call 10; refine (CZ.out _ (But.refl No wz)).mono ?_; rintro e wx ⟨rfl, hbx⟩; have HBX := Lib.hid (HRz.out.but.trans hbx); clear hbx)
      go_ret
      exact ⟨rfl, HBX.out⟩
    · rw [show ((V : Int) % 8) = 3 by omega]
      clear hc
      have d8 : w9.cell? ⟨b5, 8, none⟩ = some (.slice (some ⟨g, 0, none⟩) n c8) := HR9.out.bb.cell (o := 8) rfl
      obtain ⟨k0, k1, k2, k3⟩ := HR9.out.cells HLI.out
      simp only at k0 k1 k2 k3
      have f1 : w9.frozen? ⟨g, i * 4 + 1, none⟩ = false := HR9.out.og.blk.2.2.2 _
      have f2 : w9.frozen? ⟨g, i * 4 + 2, none⟩ = false := HR9.out.og.blk.2.2.2 _
      have f3 : w9.frozen? ⟨g, i * 4 + 3, none⟩ = false := HR9.out.og.blk.2.2.2 _
      have d7 : w9.cell? ⟨b3, 7, none⟩ = some (.int .i64 s.rs) := HR9.out.bx.cell (o := 7) rfl
      have HA := Lib.hid (HR9.out.step ((But.refl No w9).alloc (.cells #[.int .i64 0, .int .i64 s.rs, .int .i64 1] 37)))
      have f3' : (w9.alloc (.cells #[.int .i64 0, .int .i64 s.rs, .int .i64 1] 37)).frozen? ⟨g, i * 4 + 3, none⟩ = false := HA.out.og.blk.2.2.2 _
      have k3' : (w9.alloc (.cells #[.int .i64 0, .int .i64 s.rs, .int .i64 1] 37)).cell? ⟨g, i * 4 + 3, none⟩ = some (.slice none 0 0) := (HA.out.cells HLI.out).2.2.2
      go_upto_region 42 with fail
      clear d7 f3' k3'
      clear d8 k0 k1 k2 k3 f1 f2 f3
      obtain ⟨gs, hgs⟩ : ∃ gs, w9.heap.size = gs := ⟨_, rfl⟩
      have HNW : Hid (Nw (w9.alloc (.cells #[.int .i64 0, .int .i64 s.rs, .int .i64 1] 37)) g b5 (⟨tp, td, tw, [(0, s.rs, 1)]⟩, .slice (some ⟨gs, 0, none⟩) 1 1)) := by
        subst hgs
        have h1 := HR9.out.og.blk.1
        have h2 := HR9.out.bb.lt
        exact ⟨⟨_, 0, s.rs, 1, rfl, rfl, Blk.new _ _ _, by omega, by omega, by unfold inR; omega, by unfold inR; omega, by unfold inR; omega⟩, HTX.out.2⟩
      rw [hgs]
      obtain ⟨wz, hwz, HRz⟩ : ∃ wz, (w9.alloc (.cells #[.int .i64 0, .int .i64 s.rs, .int .i64 1] 37)).setCell ⟨g, i * 4 + 3, none⟩ (.slice (some ⟨gs, 0, none⟩) 1 1) = wz ∧ Hid (Bare w wz b3 b5 g n c8 (boxS s (some ⟨b, off, none⟩) n c) ⟨s.co, s.po, s.pr, s.re, s.sw, s.fi, s.la, s.rs, s.ts⟩ (L'.set i (⟨tp, td, tw, [(0, s.rs, 1)]⟩, .slice (some ⟨gs, 0, none⟩) 1 1))) := ⟨_, rfl, HA.out.setT HLI.out (by omega) rfl (.inr HNW.out)⟩
      rw [hwz]
      clear hwz
      have HBAD : right { (⟨s.co, s.po, s.pr, s.re, s.sw, s.fi, s.la, s.rs, s.ts⟩ : Sys) with ts := (L'.set i (⟨tp, td, tw, [(0, s.rs, 1)]⟩, .slice (some ⟨gs, 0, none⟩) 1 1)).map (·.1) } = false := right_bad (t := ⟨tp, td, tw, [(0, s.rs, 1)]⟩) (List.mem_map.2 ⟨_, List.mem_of_getElem? (List.getElem?_set_self (by rw [HR9.out.len]; exact hin)), rfl⟩) (sec_bad rfl (.inl (Int.le_refl _)))
      have CZ : Hid (∀ W, But No wz W → Calls Try.prog 10 #[.agg #[.int .i64 s.co, .int .i64 s.po, .int .i64 s.pr, .int .i64 s.re, .int .i64 s.sw, .int .i64 s.fi, .int .i64 s.la, .int .i64 s.rs, .slice (some ⟨g, 0, none⟩) n c8]] W fun e w' => e = .returned (.bool false) ∧ But No W w') := fun W hb => (right_any _ _ n c8 W (HRz.out.step hb).rsys).mono fun e w' ⟨h1, h2⟩ => ⟨by rw [h1]; exact congrArg (fun b => Ending.returned (.bool b)) HBAD, h2⟩
      clear HBAD
      have d0 : wz.cell? ⟨b5, 0, none⟩ = some (.int .i64 s.co) := HRz.out.bb.cell (o := 0) rfl
      have d1 : wz.cell? ⟨b5, 1, none⟩ = some (.int .i64 s.po) := HRz.out.bb.cell (o := 1) rfl
      have d2 : wz.cell? ⟨b5, 2, none⟩ = some (.int .i64 s.pr) := HRz.out.bb.cell (o := 2) rfl
      have d3 : wz.cell? ⟨b5, 3, none⟩ = some (.int .i64 s.re) := HRz.out.bb.cell (o := 3) rfl
      have d4 : wz.cell? ⟨b5, 4, none⟩ = some (.int .i64 s.sw) := HRz.out.bb.cell (o := 4) rfl
      have d5 : wz.cell? ⟨b5, 5, none⟩ = some (.int .i64 s.fi) := HRz.out.bb.cell (o := 5) rfl
      have d6 : wz.cell? ⟨b5, 6, none⟩ = some (.int .i64 s.la) := HRz.out.bb.cell (o := 6) rfl
      have d7 : wz.cell? ⟨b5, 7, none⟩ = some (.int .i64 s.rs) := HRz.out.bb.cell (o := 7) rfl
      have d8 : wz.cell? ⟨b5, 8, none⟩ = some (.slice (some ⟨g, 0, none⟩) n c8) := HRz.out.bb.cell (o := 8) rfl
      go_wp2_with (go_at_call 10; refine (CZ.out _ (But.refl No wz)).mono ?_; rintro e wx ⟨rfl, hbx⟩; have HBX := Lib.hid (HRz.out.but.trans hbx); clear hbx)
      go_ret
      exact ⟨rfl, HBX.out⟩
    · rw [show ((V : Int) % 8) = 4 by omega]
      clear hc
      have d0 : w9.cell? ⟨b5, 0, none⟩ = some (.int .i64 s.co) := HR9.out.bb.cell (o := 0) rfl
      have f0 : w9.frozen? ⟨b5, 0, none⟩ = false := HR9.out.bb.frozen 0
      go_upto_region 42 with fail
      clear d0 f0
      obtain ⟨wz, hwz, HRz⟩ : ∃ wz, w9.setCell ⟨b5, 0, none⟩ (.int .i64 0) = wz ∧ Hid (Bare w wz b3 b5 g n c8 (boxS s (some ⟨b, off, none⟩) n c) ⟨0, s.po, s.pr, s.re, s.sw, s.fi, s.la, s.rs, s.ts⟩ (L')) := ⟨_, rfl, HR9.out.setS (by simp [boxS]) ⟨by show inR 0; unfold inR; omega, HFT.out.2.1, HFT.out.2.2.1, HFT.out.2.2.2.1, HFT.out.2.2.2.2.1, HFT.out.2.2.2.2.2.1, HFT.out.2.2.2.2.2.2.1, HFT.out.2.2.2.2.2.2.2⟩⟩
      rw [hwz]
      clear hwz
      have HBAD : right { (⟨0, s.po, s.pr, s.re, s.sw, s.fi, s.la, s.rs, s.ts⟩ : Sys) with ts := (L').map (·.1) } = false := whole_bad (.inl (by show (0 : Int) < 1; omega))
      have CZ : Hid (∀ W, But No wz W → Calls Try.prog 10 #[.agg #[.int .i64 0, .int .i64 s.po, .int .i64 s.pr, .int .i64 s.re, .int .i64 s.sw, .int .i64 s.fi, .int .i64 s.la, .int .i64 s.rs, .slice (some ⟨g, 0, none⟩) n c8]] W fun e w' => e = .returned (.bool false) ∧ But No W w') := fun W hb => (right_any _ _ n c8 W (HRz.out.step hb).rsys).mono fun e w' ⟨h1, h2⟩ => ⟨by rw [h1]; exact congrArg (fun b => Ending.returned (.bool b)) HBAD, h2⟩
      clear HBAD
      have d0 : wz.cell? ⟨b5, 0, none⟩ = some (.int .i64 0) := HRz.out.bb.cell (o := 0) rfl
      have d1 : wz.cell? ⟨b5, 1, none⟩ = some (.int .i64 s.po) := HRz.out.bb.cell (o := 1) rfl
      have d2 : wz.cell? ⟨b5, 2, none⟩ = some (.int .i64 s.pr) := HRz.out.bb.cell (o := 2) rfl
      have d3 : wz.cell? ⟨b5, 3, none⟩ = some (.int .i64 s.re) := HRz.out.bb.cell (o := 3) rfl
      have d4 : wz.cell? ⟨b5, 4, none⟩ = some (.int .i64 s.sw) := HRz.out.bb.cell (o := 4) rfl
      have d5 : wz.cell? ⟨b5, 5, none⟩ = some (.int .i64 s.fi) := HRz.out.bb.cell (o := 5) rfl
      have d6 : wz.cell? ⟨b5, 6, none⟩ = some (.int .i64 s.la) := HRz.out.bb.cell (o := 6) rfl
      have d7 : wz.cell? ⟨b5, 7, none⟩ = some (.int .i64 s.rs) := HRz.out.bb.cell (o := 7) rfl
      have d8 : wz.cell? ⟨b5, 8, none⟩ = some (.slice (some ⟨g, 0, none⟩) n c8) := HRz.out.bb.cell (o := 8) rfl
      go_wp2_with (go_at_call 10; refine (CZ.out _ (But.refl No wz)).mono ?_; rintro e wx ⟨rfl, hbx⟩; have HBX := Lib.hid (HRz.out.but.trans hbx); clear hbx)
      go_ret
      exact ⟨rfl, HBX.out⟩
    · rw [show ((V : Int) % 8) = 5 by omega]
      clear hc
      have d6 : w9.cell? ⟨b5, 6, none⟩ = some (.int .i64 s.la) := HR9.out.bb.cell (o := 6) rfl
      have f6 : w9.frozen? ⟨b5, 6, none⟩ = false := HR9.out.bb.frozen 6
      go_upto_region 42 with fail
      clear d6 f6
      obtain ⟨wz, hwz, HRz⟩ : ∃ wz, w9.setCell ⟨b5, 6, none⟩ (.int .i64 0) = wz ∧ Hid (Bare w wz b3 b5 g n c8 (boxS s (some ⟨b, off, none⟩) n c) ⟨s.co, s.po, s.pr, s.re, s.sw, s.fi, 0, s.rs, s.ts⟩ (L')) := ⟨_, rfl, HR9.out.setS (by simp [boxS]) ⟨HFT.out.1, HFT.out.2.1, HFT.out.2.2.1, HFT.out.2.2.2.1, HFT.out.2.2.2.2.1, HFT.out.2.2.2.2.2.1, by show inR 0; unfold inR; omega, HFT.out.2.2.2.2.2.2.2⟩⟩
      rw [hwz]
      clear hwz
      have HBAD : right { (⟨s.co, s.po, s.pr, s.re, s.sw, s.fi, 0, s.rs, s.ts⟩ : Sys) with ts := (L').map (·.1) } = false := whole_bad (.inr (.inl (by show (0 : Int) < 1; omega)))
      have CZ : Hid (∀ W, But No wz W → Calls Try.prog 10 #[.agg #[.int .i64 s.co, .int .i64 s.po, .int .i64 s.pr, .int .i64 s.re, .int .i64 s.sw, .int .i64 s.fi, .int .i64 0, .int .i64 s.rs, .slice (some ⟨g, 0, none⟩) n c8]] W fun e w' => e = .returned (.bool false) ∧ But No W w') := fun W hb => (right_any _ _ n c8 W (HRz.out.step hb).rsys).mono fun e w' ⟨h1, h2⟩ => ⟨by rw [h1]; exact congrArg (fun b => Ending.returned (.bool b)) HBAD, h2⟩
      clear HBAD
      have d0 : wz.cell? ⟨b5, 0, none⟩ = some (.int .i64 s.co) := HRz.out.bb.cell (o := 0) rfl
      have d1 : wz.cell? ⟨b5, 1, none⟩ = some (.int .i64 s.po) := HRz.out.bb.cell (o := 1) rfl
      have d2 : wz.cell? ⟨b5, 2, none⟩ = some (.int .i64 s.pr) := HRz.out.bb.cell (o := 2) rfl
      have d3 : wz.cell? ⟨b5, 3, none⟩ = some (.int .i64 s.re) := HRz.out.bb.cell (o := 3) rfl
      have d4 : wz.cell? ⟨b5, 4, none⟩ = some (.int .i64 s.sw) := HRz.out.bb.cell (o := 4) rfl
      have d5 : wz.cell? ⟨b5, 5, none⟩ = some (.int .i64 s.fi) := HRz.out.bb.cell (o := 5) rfl
      have d6 : wz.cell? ⟨b5, 6, none⟩ = some (.int .i64 0) := HRz.out.bb.cell (o := 6) rfl
      have d7 : wz.cell? ⟨b5, 7, none⟩ = some (.int .i64 s.rs) := HRz.out.bb.cell (o := 7) rfl
      have d8 : wz.cell? ⟨b5, 8, none⟩ = some (.slice (some ⟨g, 0, none⟩) n c8) := HRz.out.bb.cell (o := 8) rfl
      go_wp2_with (go_at_call 10; refine (CZ.out _ (But.refl No wz)).mono ?_; rintro e wx ⟨rfl, hbx⟩; have HBX := Lib.hid (HRz.out.but.trans hbx); clear hbx)
      go_ret
      exact ⟨rfl, HBX.out⟩
    · rw [show ((V : Int) % 8) = 6 by omega]
      clear hc
      have d7 : w9.cell? ⟨b5, 7, none⟩ = some (.int .i64 s.rs) := HR9.out.bb.cell (o := 7) rfl
      have f7 : w9.frozen? ⟨b5, 7, none⟩ = false := HR9.out.bb.frozen 7
      go_upto_region 36 with fail
      clear d7 f7
      obtain ⟨wg, hwg, HRg⟩ : ∃ wg, w9.setCell ⟨b5, 7, none⟩ (.int .i64 1) = wg ∧ Hid (Bare w wg b3 b5 g n c8 (boxS s (some ⟨b, off, none⟩) n c) ⟨s.co, s.po, s.pr, s.re, s.sw, s.fi, s.la, 1, s.ts⟩ L') := ⟨_, rfl, HR9.out.setS (by simp [boxS]) ⟨HFT.out.1, HFT.out.2.1, HFT.out.2.2.1, HFT.out.2.2.2.1, HFT.out.2.2.2.2.1, HFT.out.2.2.2.2.2.1, HFT.out.2.2.2.2.2.2.1, by show inR 1; unfold inR; omega⟩⟩
      rw [hwg]
      clear hwg HR9
      clear w9
      have d8 : wg.cell? ⟨b5, 8, none⟩ = some (.slice (some ⟨g, 0, none⟩) n c8) := HRg.out.bb.cell (o := 8) rfl
      obtain ⟨k0, k1, k2, k3⟩ := HRg.out.cells HLI.out
      clear k0 k1
      simp only at k2 k3
      obtain ⟨gs, hgs⟩ : ∃ gs, wg.heap.size = gs := ⟨_, rfl⟩
      have HA := Lib.hid (HRg.out.step ((But.refl No wg).alloc (.cells #[.int .i64 1, .int .i64 0, .int .i64 tw] 37)))
      have HNW : Hid (Nw (wg.alloc (.cells #[.int .i64 1, .int .i64 0, .int .i64 tw] 37)) g b5 (⟨tp, td, tw, [(1, 0, tw)]⟩, .slice (some ⟨gs, 0, none⟩) 1 1)) := by
        subst hgs
        have h1 := HRg.out.og.blk.1
        have h2 := HRg.out.bb.lt
        exact ⟨⟨_, 1, 0, tw, rfl, rfl, Blk.new _ _ _, by omega, by omega, by unfold inR; omega, by unfold inR; omega, HTX.out.2.2.2⟩, HTX.out.2⟩
      have Z2 := Lib.hid (HA.out.setT (x' := (⟨tp, td, tw, [(1, 0, tw)]⟩, .slice (some ⟨gs, 0, none⟩) 1 1)) HLI.out (r := 3) (v := .slice (some ⟨gs, 0, none⟩) 1 1) (by omega) rfl (.inr HNW.out))
      have ZI : Hid ((L'.set i ((⟨tp, td, tw, [(1, 0, tw)]⟩ : Tsk), Value.slice (some ⟨gs, 0, none⟩) 1 1))[i]? = some (⟨tp, td, tw, [(1, 0, tw)]⟩, .slice (some ⟨gs, 0, none⟩) 1 1)) := List.getElem?_set_self (by rw [HRg.out.len]; exact hin)
      have f3 : (wg.drew.alloc (.cells #[.int .i64 1, .int .i64 0, .int .i64 tw] 37)).frozen? ⟨g, i * 4 + 3, none⟩ = false := HA.out.og.blk.2.2.2 _
      have f3' : (wg.alloc (.cells #[.int .i64 1, .int .i64 0, .int .i64 tw] 37)).frozen? ⟨g, i * 4 + 3, none⟩ = false := HA.out.og.blk.2.2.2 _
      have k3' : (wg.drew.alloc (.cells #[.int .i64 1, .int .i64 0, .int .i64 tw] 37)).cell? ⟨g, i * 4 + 3, none⟩ = some (.slice none 0 0) := (HA.out.cells HLI.out).2.2.2
      have k3'' : (wg.alloc (.cells #[.int .i64 1, .int .i64 0, .int .i64 tw] 37)).cell? ⟨g, i * 4 + 3, none⟩ = some (.slice none 0 0) := (HA.out.cells HLI.out).2.2.2
      have f0 : wg.frozen? ⟨g, i * 4 + 3, none⟩ = false := HRg.out.og.blk.2.2.2 _
      have HD8 := Lib.hid d8
      have HK := Lib.hid k2
      go_region_held3 (fun w' => w'.cell? ⟨b5, 8, none⟩ = some (.slice (some ⟨g, 0, none⟩) n c8) ∧ w'.cell? ⟨g, i * 4 + 2, none⟩ = some (.int .i64 tw))
        (first | exact ⟨HD8.out, HK.out⟩ | exact ⟨HA.out.bb.cell (o := 8) rfl, (HA.out.cells HLI.out).2.2.1⟩ | exact ⟨Z2.out.bb.cell (o := 8) rfl, (Z2.out.cells ZI.out).2.2.1⟩)
        (fail)
      rename_i hHeld
      clear hHeld
      clear d8 k2 k3 f3 f3' k3' k3'' f0 HD8 HK HA HNW hgs
      obtain ⟨wh, hwh, HRh⟩ : ∃ wh, ((wg.alloc (.cells #[.int .i64 1, .int .i64 0, .int .i64 tw] 37)).setCell ⟨g, i * 4 + 3, none⟩ (.slice (some ⟨gs, 0, none⟩) 1 1)).drew = wh ∧ Hid (Bare w wh b3 b5 g n c8 (boxS s (some ⟨b, off, none⟩) n c) ⟨s.co, s.po, s.pr, s.re, s.sw, s.fi, s.la, 1, s.ts⟩ (L'.set i (⟨tp, td, tw, [(1, 0, tw)]⟩, .slice (some ⟨gs, 0, none⟩) 1 1))) := ⟨_, rfl, Z2.out.step ((But.refl No _).drew)⟩
      rw [hwh]
      clear hwh Z2 HRg
      go_wp2_with fail
      go_loopw [11] (fun u wr => ∃ (k : Nat) (Lr : List (Tsk × Value)), u = .int .i64 (k : Int) ∧ k ≤ n ∧ Hid (Bare w wr b3 b5 g n c8 (boxS s (some ⟨b, off, none⟩) n c) ⟨s.co, s.po, s.pr, s.re, s.sw, s.fi, s.la, 1, s.ts⟩ Lr) ∧ Hid (Lr[i]? = some (⟨tp, td, tw, [(1, 0, tw)]⟩, .slice (some ⟨gs, 0, none⟩) 1 1))) (fun u _ => n - (intOf u).toNat)
      case atStart => exact ⟨0, _, rfl, by omega, HRh, ZI⟩
      case round =>
        obtain ⟨k, Lr, rfl, hk, HRr, HLr⟩ := hrel
        clear HRh ZI
        have e8 : wr.cell? ⟨b5, 8, none⟩ = some (.slice (some ⟨g, 0, none⟩) n c8) := HRr.out.bb.cell (o := 8) rfl
        by_cases hlt : k < n
        · by_cases hki : k = i
          · have hb : ((k : Int) != (i : Int)) = false := by simp [hki]
            go_wp2
            go_roundw
            case rel => exact ⟨k + 1, Lr, by go_num, by omega, HRr, HLr⟩
            case measure => simp [intOf]; omega
          · have hb : ((k : Int) != (i : Int)) = true := by rw [bne_iff_ne]; omega
            obtain ⟨y, hy⟩ : ∃ y, Lr[k]? = some y := ⟨_, List.getElem?_eq_getElem (by rw [HRr.out.len]; exact hlt)⟩
            obtain ⟨_, _, _, k3⟩ := HRr.out.cells hy
            have hyt := HRr.out.tv y (List.mem_of_getElem? hy)
            have hyf : inR y.1.p ∧ inR y.1.d ∧ inR y.1.w := hyt.elim (fun f => f.2) (fun f => f.2)
            obtain ⟨ya, yn, yc, hye⟩ : ∃ ya yn yc, y.2 = .slice ya yn yc := by
              rcases hyt with ⟨⟨A, c, e, _⟩, _⟩ | ⟨⟨gs, a, b, c, e, _⟩, _⟩
              · exact ⟨_, _, _, e⟩
              · exact ⟨_, _, _, e⟩
            rw [hye] at k3
            have f3 : wr.frozen? ⟨g, k * 4 + 3, none⟩ = false := HRr.out.og.blk.2.2.2 _
            have HNX : Hid (Bare w (wr.setCell ⟨g, k * 4 + 3, none⟩ (.slice none 0 0)) b3 b5 g n c8 (boxS s (some ⟨b, off, none⟩) n c) ⟨s.co, s.po, s.pr, s.re, s.sw, s.fi, s.la, 1, s.ts⟩ (Lr.set k (⟨y.1.p, y.1.d, y.1.w, []⟩, .slice none 0 0))) := HRr.out.setT hy (by omega) rfl (.inl (Tv.bare hyf rfl))
            clear hy hyt hyf hye
            go_wp2
            go_roundw
            case rel => exact ⟨k + 1, _, by go_num, by omega, HNX, by show _ = _; rw [List.getElem?_set_ne hki]; exact HLr.out⟩
            case measure => simp [intOf]; omega
        · have HB6 : Hid (right { (⟨s.co, s.po, s.pr, s.re, s.sw, s.fi, s.la, 1, s.ts⟩ : Sys) with ts := Lr.map (·.1) } = false) := right_bad (t := ⟨tp, td, tw, [(1, 0, tw)]⟩) (List.mem_map.2 ⟨_, List.mem_of_getElem? HLr.out, rfl⟩) (sec_bad rfl (.inr (by show tw < 1 + tw; omega)))
          clear e8
          have HBAD : right { (⟨s.co, s.po, s.pr, s.re, s.sw, s.fi, s.la, 1, s.ts⟩ : Sys) with ts := (Lr).map (·.1) } = false := HB6.out
          have CZ : Hid (∀ W, But No wr W → Calls Try.prog 10 #[.agg #[.int .i64 s.co, .int .i64 s.po, .int .i64 s.pr, .int .i64 s.re, .int .i64 s.sw, .int .i64 s.fi, .int .i64 s.la, .int .i64 1, .slice (some ⟨g, 0, none⟩) n c8]] W fun e w' => e = .returned (.bool false) ∧ But No W w') := fun W hb => (right_any _ _ n c8 W (HRr.out.step hb).rsys).mono fun e w' ⟨h1, h2⟩ => ⟨by rw [h1]; exact congrArg (fun b => Ending.returned (.bool b)) HBAD, h2⟩
          clear HBAD
          have d0 : wr.cell? ⟨b5, 0, none⟩ = some (.int .i64 s.co) := HRr.out.bb.cell (o := 0) rfl
          have d1 : wr.cell? ⟨b5, 1, none⟩ = some (.int .i64 s.po) := HRr.out.bb.cell (o := 1) rfl
          have d2 : wr.cell? ⟨b5, 2, none⟩ = some (.int .i64 s.pr) := HRr.out.bb.cell (o := 2) rfl
          have d3 : wr.cell? ⟨b5, 3, none⟩ = some (.int .i64 s.re) := HRr.out.bb.cell (o := 3) rfl
          have d4 : wr.cell? ⟨b5, 4, none⟩ = some (.int .i64 s.sw) := HRr.out.bb.cell (o := 4) rfl
          have d5 : wr.cell? ⟨b5, 5, none⟩ = some (.int .i64 s.fi) := HRr.out.bb.cell (o := 5) rfl
          have d6 : wr.cell? ⟨b5, 6, none⟩ = some (.int .i64 s.la) := HRr.out.bb.cell (o := 6) rfl
          have d7 : wr.cell? ⟨b5, 7, none⟩ = some (.int .i64 1) := HRr.out.bb.cell (o := 7) rfl
          have d8 : wr.cell? ⟨b5, 8, none⟩ = some (.slice (some ⟨g, 0, none⟩) n c8) := HRr.out.bb.cell (o := 8) rfl
          go_wp2_with (go_at_call 10; refine (CZ.out _ (But.refl No wr)).mono ?_; rintro e wx ⟨rfl, hbx⟩; have HBX := Lib.hid (HRr.out.but.trans hbx); clear hbx)
          go_ret
          exact ⟨rfl, HBX.out⟩
    · rw [show ((V : Int) % 8) = 7 by omega]
      clear hc
      have d1 : w9.cell? ⟨b5, 1, none⟩ = some (.int .i64 s.po) := HR9.out.bb.cell (o := 1) rfl
      have f1 : w9.frozen? ⟨b5, 1, none⟩ = false := HR9.out.bb.frozen 1
      go_upto_region 42 with fail
      clear d1 f1
      obtain ⟨wz, hwz, HRz⟩ : ∃ wz, w9.setCell ⟨b5, 1, none⟩ (.int .i64 0) = wz ∧ Hid (Bare w wz b3 b5 g n c8 (boxS s (some ⟨b, off, none⟩) n c) ⟨s.co, 0, s.pr, s.re, s.sw, s.fi, s.la, s.rs, s.ts⟩ (L')) := ⟨_, rfl, HR9.out.setS (by simp [boxS]) ⟨HFT.out.1, by show inR 0; unfold inR; omega, HFT.out.2.2.1, HFT.out.2.2.2.1, HFT.out.2.2.2.2.1, HFT.out.2.2.2.2.2.1, HFT.out.2.2.2.2.2.2.1, HFT.out.2.2.2.2.2.2.2⟩⟩
      rw [hwz]
      clear hwz
      have HBAD : right { (⟨s.co, 0, s.pr, s.re, s.sw, s.fi, s.la, s.rs, s.ts⟩ : Sys) with ts := (L').map (·.1) } = false := whole_bad (.inr (.inr (by show (0 : Int) < 1; omega)))
      have CZ : Hid (∀ W, But No wz W → Calls Try.prog 10 #[.agg #[.int .i64 s.co, .int .i64 0, .int .i64 s.pr, .int .i64 s.re, .int .i64 s.sw, .int .i64 s.fi, .int .i64 s.la, .int .i64 s.rs, .slice (some ⟨g, 0, none⟩) n c8]] W fun e w' => e = .returned (.bool false) ∧ But No W w') := fun W hb => (right_any _ _ n c8 W (HRz.out.step hb).rsys).mono fun e w' ⟨h1, h2⟩ => ⟨by rw [h1]; exact congrArg (fun b => Ending.returned (.bool b)) HBAD, h2⟩
      clear HBAD
      have d0 : wz.cell? ⟨b5, 0, none⟩ = some (.int .i64 s.co) := HRz.out.bb.cell (o := 0) rfl
      have d1 : wz.cell? ⟨b5, 1, none⟩ = some (.int .i64 0) := HRz.out.bb.cell (o := 1) rfl
      have d2 : wz.cell? ⟨b5, 2, none⟩ = some (.int .i64 s.pr) := HRz.out.bb.cell (o := 2) rfl
      have d3 : wz.cell? ⟨b5, 3, none⟩ = some (.int .i64 s.re) := HRz.out.bb.cell (o := 3) rfl
      have d4 : wz.cell? ⟨b5, 4, none⟩ = some (.int .i64 s.sw) := HRz.out.bb.cell (o := 4) rfl
      have d5 : wz.cell? ⟨b5, 5, none⟩ = some (.int .i64 s.fi) := HRz.out.bb.cell (o := 5) rfl
      have d6 : wz.cell? ⟨b5, 6, none⟩ = some (.int .i64 s.la) := HRz.out.bb.cell (o := 6) rfl
      have d7 : wz.cell? ⟨b5, 7, none⟩ = some (.int .i64 s.rs) := HRz.out.bb.cell (o := 7) rfl
      have d8 : wz.cell? ⟨b5, 8, none⟩ = some (.slice (some ⟨g, 0, none⟩) n c8) := HRz.out.bb.cell (o := 8) rfl
      go_wp2_with (go_at_call 10; refine (CZ.out _ (But.refl No wz)).mono ?_; rintro e wx ⟨rfl, hbx⟩; have HBX := Lib.hid (HRz.out.but.trans hbx); clear hbx)
      go_ret
      exact ⟨rfl, HBX.out⟩
end validSpoils
end Go.Proofs.Ytdhaijmdnknekaa
