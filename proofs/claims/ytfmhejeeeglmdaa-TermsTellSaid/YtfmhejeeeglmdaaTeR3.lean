/- The contracts of the document's Wait, Hold and Extra. -/
import Derived.Test.YtfmhejeeeglmdaaTeR2
namespace Go.Proofs.Ytfmhejeeeglmdaa.ter
open Go.ChangeShapes Go.WideShapes Go.ChangeAt Go.RowKit Go.Deep ky2 val
set_option maxRecDepth 100000 in
set_option maxHeartbeats 4000000 in
theorem dwait_any (s : Sys) (A : Option Addr) (n c : Nat) (B : Option Addr) (m d : Nat) (wh : List Int) (task sect : Int) (w : World) (h : RSys w A n c s) (hz : Rd w B m wh) :
    Calls Try.prog 11 #[sysV s A n c, .slice B m d, .int .i64 task, .int .i64 sect] w fun e w' => e = .returned (.int .i64 (waitV s wh task sect)) ∧ But No w w' := by
  have CF : Hid (∀ W, But No w W → Calls Try.prog 26 #[sysV s A n c, .int .i64 task, .int .i64 sect] W fun e w' => e = .returned (findV (sec? s task sect)) ∧ But No W w') := fun W hb => section_any s A n c task sect W (h.no hb)
  cases hx : sec? s task sect with
  | none =>
    have HV := Lib.hid (wait_none (wh := wh) hx)
    rw [hx, show findV none = .tuple #[.agg #[.int .i64 0, .int .i64 0, .int .i64 0], .bool false] from rfl] at CF
    clear h hz hx
    unfold sysV at CF ⊢
    go_enter Try.func11, Try.ntmps11
    go_wp2_with (go_at_call 26; refine (CF.out _ ((But.refl No w).alloc _)).mono ?_; rintro e w1 ⟨rfl, hb1⟩; have HB1 := Lib.hid (((But.refl No w).alloc _).trans hb1); clear hb1)
    go_ret
    exact ⟨ret1 HV.out.symm, HB1.out.alloc _⟩
  | some x =>
    have HV := Lib.hid (wait_some (wh := wh) hx)
    obtain ⟨k, hk, hrt⟩ : ∃ k : Nat, task = (k : Int) ∧ right s = true := by
      rcases sec_cases s task sect with ⟨k, _, _, _, h1, _, h3, _⟩ | ⟨h6, _⟩ | ⟨h6, _⟩
      · exact ⟨k, h1, h3⟩
      · rw [hx] at h6; cases h6
      · rw [hx] at h6; cases h6
    subst hk
    rw [Int.toNat_natCast] at HV
    have hco := (right_len hrt).1
    have HRT := Lib.hid hrt
    obtain ⟨x0, x1, x2⟩ := x
    obtain ⟨nc, hnc⟩ : ∃ nc : Nat, s.co = (nc : Int) := ⟨s.co.toNat, by omega⟩
    have HNC := Lib.hid hnc
    have hnc8 : nc ≤ 8 := by omega
    have CL : Hid (∀ (q : Nat) W, But No w W → Calls Try.prog 9 #[sysV s A n c, .slice B m d, .int .i64 q, .int .i64 x1] W fun e w' => e = .returned (.int .i64 (mx (F s wh) q x1)) ∧ But No W w') := fun q W hb => by
      have := dlongest_any s A n c B m d wh q x1 W (h.no hb) (hz.no hb)
      unfold longV at this
      rwa [if_pos hrt] at this
    have CD : Hid (∀ W, But No w W → Calls Try.prog 22 #[.slice B m d, .int .i64 k] W fun e w' => e = .returned (.int .i64 (dcr wh k)) ∧ w' = W) := fun W hb => dcore_any B m d wh k W (hz.no hb)
    rw [hx, show findV (some (x0, x1, x2)) = .tuple #[.agg #[.int .i64 x0, .int .i64 x1, .int .i64 x2], .bool true] from rfl] at CF
    have HDC : Hid (∀ q : Nat, q < nc → (((q : Int) = cr s.co wh k) ↔ ((q : Int) = dcr wh k))) := Lib.hid (fun q hq => by
      have := dcr_is (co := s.co) (wh := wh) (i := k) (k := (q : Int)) (by omega) (by omega)
      exact ⟨fun h => (this.2 h.symm).symm, fun h => (this.1 h.symm).symm⟩)
    have HV2 : Hid (waitV s wh k sect = sm (F s wh) (cr s.co wh k) x1 nc) := Lib.hid (by rw [HV.out]; unfold smV; rw [hnc, Int.toNat_natCast])
    clear h hz hx hrt HV hco hnc
    generalize cr s.co wh k = own at HDC HV2
    generalize dcr wh k = dc at CD HDC
    unfold sysV at CF CL ⊢
    go_enter Try.func11, Try.ntmps11
    go_upto_region 5 with (go_at_call 26; refine (CF.out _ ((But.refl No w).alloc _)).mono ?_; rintro e w1 ⟨rfl, hb1⟩; have HB1 := Lib.hid (((But.refl No w).alloc _).trans hb1); have HSY := Lib.hid ((Blk.new w (boxS s A n c) 24).but hb1 (fun f => f)); clear hb1)
    have hb3 : But No w (w1.alloc (.cells #[.int .i64 x0, .int .i64 x1, .int .i64 x2] 36)) := HB1.out.alloc _
    have hsy := HSY.out.alloc (.cells #[.int .i64 x0, .int .i64 x1, .int .i64 x2] 36)
    have hxs := Blk.new w1 #[.int .i64 x0, .int .i64 x1, .int .i64 x2] 36
    generalize w1.alloc (.cells #[.int .i64 x0, .int .i64 x1, .int .i64 x2] 36) = w3 at hb3 hsy hxs ⊢
    generalize w.heap.size = b1 at HSY hsy ⊢
    generalize w1.heap.size = bc at hxs ⊢
    have HB3 := Lib.hid hb3
    have HS3 := Lib.hid hsy
    have HX3 := Lib.hid hxs
    clear hb3 hsy hxs HSY HB1 CF
    have CL3 : Hid (∀ (q : Nat) w', But No w3 w' → Calls Try.prog 9 #[.agg #[.int .i64 s.co, .int .i64 s.po, .int .i64 s.pr, .int .i64 s.re, .int .i64 s.sw, .int .i64 s.fi, .int .i64 s.la, .int .i64 s.rs, .slice A n c], .slice B m d, .int .i64 q, .int .i64 x1] w' fun e w'' => e = .returned (.int .i64 (mx (F s wh) q x1)) ∧ But No w3 w'') := Lib.hid (fun q w' hb => (CL.out q w' (HB3.out.trans hb)).mono (fun e w'' ⟨h1, h2⟩ => ⟨h1, hb.trans h2⟩))
    have CD : Hid (∀ w', But No w3 w' → Calls Try.prog 22 #[.slice B m d, .int .i64 k] w' fun e w'' => e = .returned (.int .i64 dc) ∧ w'' = w') := Lib.hid (fun w' hb => CD.out w' (HB3.out.trans hb))
    clear CL
    go_wp2_with fail
    go_loopw [11, 12] (fun u i wr => ∃ q : Nat, u = .int .i64 (sm (F s wh) own x1 q) ∧ i = .int .i64 (q : Int) ∧ q ≤ nc ∧ Hid (But No w3 wr)) (fun _ i _ => nc - (intOf i).toNat)
    case atStart => exact ⟨0, rfl, rfl, by omega, But.refl No w3⟩
    case round =>
      obtain ⟨q, rfl, rfl, hq, HBR⟩ := hrel
      obtain ⟨d0, d1, d2, d3, d4, d5, d6, d7, d8⟩ := sys_cells (HS3.out.but HBR.out (fun f => f))
      rw [HNC.out] at d0
      have f1 : wr.cell? ⟨bc, 1, none⟩ = some (.int .i64 x1) := (HX3.out.but HBR.out (fun f => f)).cell (o := 1) rfl
      have hs := sm_in (L := F s wh) (fun c r => mxF_le HRT.out wh c r) own x1 q (by omega)
      have hmb := mxF_le HRT.out wh q x1
      have hm0 := mx_pos (F s wh) q x1
      have HSM := Lib.hid (show sm (F s wh) own x1 (q + 1) = sm (F s wh) own x1 q + (if 0 < mx (F s wh) q x1 ∧ (q : Int) ≠ own then mx (F s wh) q x1 + 1 else 0) from rfl)
      have CL1 := Lib.hid (CL3.out q)
      obtain ⟨S0, hS0⟩ : ∃ S0, sm (F s wh) own x1 q = S0 := ⟨_, rfl⟩
      obtain ⟨M, hM⟩ : ∃ M, mx (F s wh) q x1 = M := ⟨_, rfl⟩
      have HS0 := Lib.hid hS0
      rw [hS0] at hs HSM ⊢
      rw [hM] at hmb hm0 HSM CL1
      clear hS0 hM
      by_cases hqn : q < nc
      · have hqn2 : (q : Int) < (nc : Int) := by omega
        have hdd := HDC.out q hqn
        have CL1 : Hid (∀ w', But No w3 w' → Calls Try.prog 9 #[.agg #[.int .i64 (nc : Int), .int .i64 s.po, .int .i64 s.pr, .int .i64 s.re, .int .i64 s.sw, .int .i64 s.fi, .int .i64 s.la, .int .i64 s.rs, .slice A n c], .slice B m d, .int .i64 q, .int .i64 x1] w' fun e w'' => e = .returned (.int .i64 M) ∧ But No w3 w'') := Lib.hid (by have h9 := CL1.out; rw [HNC.out] at h9; exact h9)
        by_cases hdc : (q : Int) = dc
        · have q1 : ((q : Int) != dc) = false := by simp [hdc]
          rw [if_neg (fun h => h.2 (hdd.2 hdc)), Int.add_zero] at HSM
          clear hdd hdc
          go_wp2_with (first | (go_at_call 9; (with_reducible refine (CL1.out _ HBR.out).mono ?_); rintro e wA ⟨rfl, hA⟩; have HA := Lib.hid hA; clear hA d0 d1 d2 d3 d4 d5 d6 d7 d8) | (go_at_call 22; (with_reducible refine (CD.out _ HA.out).mono ?_); rintro e wC ⟨rfl, rfl⟩))
          go_roundw
          case rel => exact ⟨q + 1, by rw [HSM.out], by go_num, by omega, HA⟩
          case measure => simp [intOf]; omega
        · have q1 : ((q : Int) != dc) = true := by simp [hdc]
          by_cases hM0 : 0 < M
          · have q2 : decide (0 < M) = true := by simp [hM0]
            rw [if_pos ⟨hM0, fun h => hdc (hdd.1 h)⟩] at HSM
            clear hdd hdc
            go_wp2_with (first | (go_at_call 9; (with_reducible refine (CL1.out _ HBR.out).mono ?_); rintro e wA ⟨rfl, hA⟩; have HA := Lib.hid hA; clear hA d0 d1 d2 d3 d4 d5 d6 d7 d8) | (go_at_call 22; (with_reducible refine (CD.out _ HA.out).mono ?_); rintro e wC ⟨rfl, rfl⟩))
            go_roundw
            case rel => exact ⟨q + 1, by rw [HSM.out]; go_num, by go_num, by omega, HA⟩
            case measure => simp [intOf]; omega
          · have q2 : decide (0 < M) = false := by simp; omega
            rw [if_neg (fun h => hM0 h.1), Int.add_zero] at HSM
            clear hdd hdc
            go_wp2_with (first | (go_at_call 9; (with_reducible refine (CL1.out _ HBR.out).mono ?_); rintro e wA ⟨rfl, hA⟩; have HA := Lib.hid hA; clear hA d0 d1 d2 d3 d4 d5 d6 d7 d8) | (go_at_call 22; (with_reducible refine (CD.out _ HA.out).mono ?_); rintro e wC ⟨rfl, rfl⟩))
            go_roundw
            case rel => exact ⟨q + 1, by rw [HSM.out], by go_num, by omega, HA⟩
            case measure => simp [intOf]; omega
      · have HQ : Hid (q = nc) := Lib.hid (by omega)
        have b3 : decide ((q : Int) < (nc : Int)) = false := by simp; omega
        go_wp2
        go_ret
        exact ⟨ret1 (by rw [HV2.out, ← HS0.out, HQ.out]), HB3.out.trans HBR.out⟩
set_option maxRecDepth 100000 in
set_option maxHeartbeats 2000000 in
theorem dhold_any (s : Sys) (A : Option Addr) (n c : Nat) (B : Option Addr) (m d : Nat) (wh : List Int) (task sect : Int) (w : World) (h : RSys w A n c s) (hz : Rd w B m wh) :
    Calls Try.prog 13 #[sysV s A n c, .slice B m d, .int .i64 task, .int .i64 sect] w fun e w' => e = .returned (.int .i64 (holdV s wh task sect)) ∧ But No w w' := by
  have CF : Hid (∀ W, But No w W → Calls Try.prog 26 #[sysV s A n c, .int .i64 task, .int .i64 sect] W fun e w' => e = .returned (findV (sec? s task sect)) ∧ But No W w') := fun W hb => section_any s A n c task sect W (h.no hb)
  cases hx : sec? s task sect with
  | none =>
    have HV := Lib.hid (hold_none (wh := wh) hx)
    rw [hx, show findV none = .tuple #[.agg #[.int .i64 0, .int .i64 0, .int .i64 0], .bool false] from rfl] at CF
    clear h hz hx
    unfold sysV at CF ⊢
    go_enter Try.func13, Try.ntmps13
    go_wp2_with (go_at_call 26; refine (CF.out _ ((But.refl No w).alloc _)).mono ?_; rintro e w1 ⟨rfl, hb1⟩; have HB1 := Lib.hid (((But.refl No w).alloc _).trans hb1); clear hb1)
    go_ret
    exact ⟨ret1 HV.out.symm, HB1.out.alloc _⟩
  | some x =>
    have HV := Lib.hid (hold_some (wh := wh) hx)
    have hl := (sec_some hx).2
    have hv := wait_le s wh task sect
    obtain ⟨x0, x1, x2⟩ := x
    have CW : Hid (∀ W, But No w W → Calls Try.prog 11 #[sysV s A n c, .slice B m d, .int .i64 task, .int .i64 sect] W fun e w' => e = .returned (.int .i64 (waitV s wh task sect)) ∧ But No W w') := fun W hb => dwait_any s A n c B m d wh task sect W (h.no hb) (hz.no hb)
    rw [hx, show findV (some (x0, x1, x2)) = .tuple #[.agg #[.int .i64 x0, .int .i64 x1, .int .i64 x2], .bool true] from rfl] at CF
    clear h hz hx
    generalize waitV s wh task sect = V at CW HV hv
    simp only at HV hl
    have hw1 : IntKind.i64.wrap (V + x2) = V + x2 := IntWalk.i64_in (V + x2) (by omega)
    unfold sysV at CF CW ⊢
    go_enter Try.func13, Try.ntmps13
    go_wp2_with (go_at_call 26; refine (CF.out _ ((But.refl No w).alloc _)).mono ?_; rintro e w1 ⟨rfl, hb1⟩; have HB1 := Lib.hid (((But.refl No w).alloc _).trans hb1); have HSY := Lib.hid ((Blk.new w (boxS s A n c) 24).but hb1 (fun f => f)); clear hb1)
    have hb3 : But No w (w1.alloc (.cells #[.int .i64 x0, .int .i64 x1, .int .i64 x2] 36)) := HB1.out.alloc _
    have hsy := HSY.out.alloc (.cells #[.int .i64 x0, .int .i64 x1, .int .i64 x2] 36)
    have hxs := Blk.new w1 #[.int .i64 x0, .int .i64 x1, .int .i64 x2] 36
    generalize w1.alloc (.cells #[.int .i64 x0, .int .i64 x1, .int .i64 x2] 36) = w3 at hb3 hsy hxs ⊢
    generalize w.heap.size = b1 at HSY hsy ⊢
    generalize w1.heap.size = bc at hxs ⊢
    have HB3 := Lib.hid hb3
    have KEEP : Hid (∀ w', But No w3 w' → (w'.cell? ⟨b1, 0, none⟩ = some (.int .i64 s.co) ∧ w'.cell? ⟨b1, 1, none⟩ = some (.int .i64 s.po) ∧ w'.cell? ⟨b1, 2, none⟩ = some (.int .i64 s.pr) ∧ w'.cell? ⟨b1, 3, none⟩ = some (.int .i64 s.re) ∧ w'.cell? ⟨b1, 4, none⟩ = some (.int .i64 s.sw) ∧ w'.cell? ⟨b1, 5, none⟩ = some (.int .i64 s.fi) ∧ w'.cell? ⟨b1, 6, none⟩ = some (.int .i64 s.la) ∧ w'.cell? ⟨b1, 7, none⟩ = some (.int .i64 s.rs) ∧ w'.cell? ⟨b1, 8, none⟩ = some (.slice A n c) ∧ w'.cell? ⟨bc, 2, none⟩ = some (.int .i64 x2)) ∧ But No w3 w') := Lib.hid (fun w' hb => by
      obtain ⟨d0, d1, d2, d3, d4, d5, d6, d7, d8⟩ := sys_cells (hsy.but hb (fun f => f))
      exact ⟨⟨d0, d1, d2, d3, d4, d5, d6, d7, d8, (hxs.but hb (fun f => f)).cell (o := 2) rfl⟩, hb⟩)
    clear hb3 hsy hxs HSY HB1 CF
    have CW3 : Hid (∀ w', But No w3 w' → Calls Try.prog 11 #[.agg #[.int .i64 s.co, .int .i64 s.po, .int .i64 s.pr, .int .i64 s.re, .int .i64 s.sw, .int .i64 s.fi, .int .i64 s.la, .int .i64 s.rs, .slice A n c], .slice B m d, .int .i64 task, .int .i64 sect] w' fun e w'' => e = .returned (.int .i64 V) ∧ But No w3 w'') := Lib.hid (fun w' hb => (CW.out w' (HB3.out.trans hb)).mono (fun e w'' ⟨h1, h2⟩ => ⟨h1, hb.trans h2⟩))
    clear CW
    go_region_held3 (fun w' => (w'.cell? ⟨b1, 0, none⟩ = some (.int .i64 s.co) ∧ w'.cell? ⟨b1, 1, none⟩ = some (.int .i64 s.po) ∧ w'.cell? ⟨b1, 2, none⟩ = some (.int .i64 s.pr) ∧ w'.cell? ⟨b1, 3, none⟩ = some (.int .i64 s.re) ∧ w'.cell? ⟨b1, 4, none⟩ = some (.int .i64 s.sw) ∧ w'.cell? ⟨b1, 5, none⟩ = some (.int .i64 s.fi) ∧ w'.cell? ⟨b1, 6, none⟩ = some (.int .i64 s.la) ∧ w'.cell? ⟨b1, 7, none⟩ = some (.int .i64 s.rs) ∧ w'.cell? ⟨b1, 8, none⟩ = some (.slice A n c) ∧ w'.cell? ⟨bc, 2, none⟩ = some (.int .i64 x2)) ∧ But No w3 w')
      (first | exact KEEP.out _ (But.refl No w3).drew | exact KEEP.out _ hgA)
      (first | (go_at_call 11; ((with_reducible refine (CW3.out _ (But.refl No w3).drew).mono ?_); rintro e wA ⟨rfl, hgA⟩)))
    rename_i hHeld
    clear hHeld
    have HE := Lib.hid (HB3.out.trans hgA)
    clear hgA
    go_wp2
    go_ret
    exact ⟨ret1 HV.out.symm, HE.out⟩
set_option maxRecDepth 100000 in
set_option maxHeartbeats 4000000 in
theorem dextra_any (s : Sys) (A : Option Addr) (n c : Nat) (B : Option Addr) (m d : Nat) (wh : List Int) (task : Int) (w : World) (h : RSys w A n c s) (hz : Rd w B m wh) :
    Calls Try.prog 15 #[sysV s A n c, .slice B m d, .int .i64 task] w fun e w' => e = .returned (.int .i64 (extraV s wh task)) ∧ But No w w' := by
  have HN := h.ts.len
  have HR := Lib.hid h.ts
  have CR : Hid (∀ W, But No w W → Calls Try.prog 21 #[sysV s A n c] W fun e w' => e = .returned (.bool (right s)) ∧ But No W w') := fun W hb => dright_any s A n c W (h.no hb)
  have CW : Hid (∀ (q : Nat) W, But No w W → Calls Try.prog 11 #[sysV s A n c, .slice B m d, .int .i64 task, .int .i64 q] W fun e w' => e = .returned (.int .i64 (waitV s wh task q)) ∧ But No W w') := fun q W hb => dwait_any s A n c B m d wh task q W (h.no hb) (hz.no hb)
  clear h hz
  rcases tsk_cases s task with ⟨k, t, rfl, h2, h3, h4⟩ | ⟨h4, h9⟩
  · have hk := (List.getElem?_eq_some_iff.1 h2).1
    rw [HN] at hk
    have hk2 : (k : Int) < (n : Int) := by omega
    have hk0 : (0 : Int) ≤ (k : Int) := Int.natCast_nonneg k
    have HV : Hid (extraV s wh k = exN s wh k t.secs t.secs.length) := Lib.hid (by rw [extra_some h4, Int.toNat_natCast])
    have hm4 := (right_len h3).2.2.2.2 t (List.mem_of_getElem? h2)
    have HRT := Lib.hid h3
    have HT4 := Lib.hid h4
    rw [h3] at CR
    obtain ⟨b, off, A', c', rfl, _, _, _, c3, hcc, hS⟩ := HR.out.at1 h2
    have C3 := Lib.hid c3
    obtain ⟨m', hm'⟩ : ∃ m', t.secs.length = m' := ⟨_, rfl⟩
    rw [hm'] at c3 hcc hm4 HV C3
    have HM := Lib.hid hm'
    clear h2 h3 h4 hS HN hm' c3 HR
    unfold sysV at CR CW ⊢
    go_enter Try.func15, Try.ntmps15
    go_upto_region 4 with (go_at_call 21; refine (CR.out _ ((But.refl No w).alloc _)).mono ?_; rintro e w3 ⟨rfl, hb1⟩; have HB3 := Lib.hid (((But.refl No w).alloc _).trans hb1); have hsy := (Blk.new w (boxS s (some ⟨b, off, none⟩) n c) 24).but hb1 (fun f => f); have HSY := Lib.hid hsy; obtain ⟨d0, d1, d2, d3, d4, d5, d6, d7, d8⟩ := sys_cells hsy; clear hb1 hsy)
    generalize w.heap.size = b1 at HSY d0 d1 d2 d3 d4 d5 d6 d7 d8 ⊢
    clear d0 d1 d2 d3 d4 d5 d6 d7 d8 CR
    go_wp2_with fail
    go_loopw [8, 9] (fun a i wr => ∃ j : Nat, a = .int .i64 (exN s wh k t.secs j) ∧ i = .int .i64 (j : Int) ∧ j ≤ m' ∧ Hid (But No w3 wr)) (fun _ i _ => m' - (intOf i).toNat)
    case atStart => exact ⟨0, rfl, rfl, by omega, But.refl No w3⟩
    case round =>
      obtain ⟨j, rfl, rfl, hj, HBR⟩ := hrel
      obtain ⟨d0, d1, d2, d3, d4, d5, d6, d7, d8⟩ := sys_cells (HSY.out.but HBR.out (fun f => f))
      have c3 := cell_keep C3.out (HB3.out.trans HBR.out)
      by_cases hjm : j < m'
      · obtain ⟨x, hx⟩ : ∃ x, t.secs[j]? = some x := ⟨_, List.getElem?_eq_getElem (by rw [HM.out]; exact hjm)⟩
        have hsec : sec? s (k : Int) (j : Int) = some x := by
          unfold sec?
          rw [HT4.out]
          simp only [Option.bind_some]
          rw [if_pos (Int.natCast_nonneg j), Int.toNat_natCast, hx]
        have hwv : waitV s wh (k : Int) (j : Int) = smV s wh k x.2.1 := by rw [wait_some hsec, Int.toNat_natCast]
        have HEX := Lib.hid (exN_succ (s := s) (wh := wh) (k := k) hx)
        have hE := exN_le HRT.out wh k t.secs j
        have hS := smV_le HRT.out wh k x.2.1
        have CW1 : Hid (∀ W, But No w3 W → Calls Try.prog 11 #[.agg #[.int .i64 s.co, .int .i64 s.po, .int .i64 s.pr, .int .i64 s.re, .int .i64 s.sw, .int .i64 s.fi, .int .i64 s.la, .int .i64 s.rs, .slice (some ⟨b, off, none⟩) n c], .slice B m d, .int .i64 k, .int .i64 j] W fun e w' => e = .returned (.int .i64 (smV s wh k x.2.1)) ∧ But No w3 w') := Lib.hid (fun W hb => (by rw [← hwv]; exact (CW.out j W (HB3.out.trans hb)).mono (fun e w' ⟨h1, h2⟩ => ⟨h1, hb.trans h2⟩)))
        obtain ⟨E0, hE0⟩ : ∃ E0, exN s wh k t.secs j = E0 := ⟨_, rfl⟩
        obtain ⟨S0, hS0⟩ : ∃ S0, smV s wh k x.2.1 = S0 := ⟨_, rfl⟩
        rw [hE0] at hE HEX ⊢
        rw [hS0] at hS HEX CW1
        have hj4 : (j : Int) * 8796093022216 ≤ 35184372088864 := by omega
        clear hE0 hS0 hx hsec hwv
        go_wp2_with (go_at_call 11; ((with_reducible refine (CW1.out _ HBR.out).mono ?_); rintro e wC ⟨rfl, hC⟩; have HC := Lib.hid hC; clear hC))
        go_roundw
        case rel => exact ⟨j + 1, by rw [HEX.out], by go_num, by omega, HC⟩
        case measure => simp [intOf]; omega
      · have hE : Hid (j = m') := Lib.hid (by omega)
        have b3 : decide ((j : Int) < (m' : Int)) = false := by simp; omega
        go_wp2
        go_ret
        exact ⟨ret1 (by rw [HV.out, hE.out]), HB3.out.trans HBR.out⟩
  · have HV := Lib.hid (extra_none (wh := wh) h4)
    cases hrt : right s with
    | false =>
      rw [hrt] at CR
      clear h4 h9 hrt HN
      unfold sysV at CR ⊢
      go_enter Try.func15, Try.ntmps15
      go_wp2_with (go_at_call 21; refine (CR.out _ ((But.refl No w).alloc _)).mono ?_; rintro e w1 ⟨rfl, hb1⟩; have HB1 := Lib.hid (((But.refl No w).alloc _).trans hb1); have s8 : w1.cell? ⟨w.heap.size, 8, none⟩ = some (.slice A n c) := ((Blk.new w (boxS s A n c) 24).but hb1 (fun f => f)).cell (o := 8) rfl; clear hb1)
      go_ret
      exact ⟨ret1 HV.out.symm, HB1.out⟩
    | true =>
      rw [hrt] at CR
      by_cases h0 : task < 0
      · have b0 : decide ((0 : Int) ≤ task) = false := by simp; omega
        clear h4 h9 hrt HN
        unfold sysV at CR ⊢
        go_enter Try.func15, Try.ntmps15
        go_wp2_with (go_at_call 21; refine (CR.out _ ((But.refl No w).alloc _)).mono ?_; rintro e w1 ⟨rfl, hb1⟩; have HB1 := Lib.hid (((But.refl No w).alloc _).trans hb1); have s8 : w1.cell? ⟨w.heap.size, 8, none⟩ = some (.slice A n c) := ((Blk.new w (boxS s A n c) 24).but hb1 (fun f => f)).cell (o := 8) rfl; clear hb1)
        go_ret
        exact ⟨ret1 HV.out.symm, HB1.out⟩
      · have b0 : decide ((0 : Int) ≤ task) = true := by simp; omega
        have b1 : decide (task < (n : Int)) = false := by
          rcases h9 with h | h | h
          · omega
          · simp; omega
          · rw [hrt] at h; cases h
        clear h4 h9 hrt HN
        unfold sysV at CR ⊢
        go_enter Try.func15, Try.ntmps15
        go_wp2_with (go_at_call 21; refine (CR.out _ ((But.refl No w).alloc _)).mono ?_; rintro e w1 ⟨rfl, hb1⟩; have HB1 := Lib.hid (((But.refl No w).alloc _).trans hb1); have s8 : w1.cell? ⟨w.heap.size, 8, none⟩ = some (.slice A n c) := ((Blk.new w (boxS s A n c) 24).but hb1 (fun f => f)).cell (o := 8) rfl; clear hb1)
        go_ret
        exact ⟨ret1 HV.out.symm, HB1.out⟩
end Go.Proofs.Ytfmhejeeeglmdaa.ter
