/- The walk of TermsSum. -/
import Derived.Test.YtfmhejeeeglmdaaE
namespace Go.Proofs.Ytfmhejeeeglmdaa
open Go.ChangeShapes Go.WideShapes Go.ChangeAt Go.RowKit Go.Deep val ter
namespace termsSum
theorem uses_none {s : Sys} {task : Int} (h : tsk? s task = none) : usesV s task = false := by unfold usesV; rw [h]
theorem uses_some {s : Sys} {task : Int} {t : Tsk} (h : tsk? s task = some t) : usesV s task = decide (0 < t.secs.length) := by unfold usesV; rw [h]
/-- The longest section of all. -/
def mxl : List Sec → Int
  | [] => 0
  | x :: l => max x.2.2 (mxl l)
theorem mxl_pos (l : List Sec) : 0 ≤ mxl l := by
  induction l with
  | nil => exact Int.le_refl 0
  | cons x l ih => rw [mxl]; omega
theorem mxl_snoc (l : List Sec) (x : Sec) : mxl (l ++ [x]) = max (mxl l) x.2.2 := by
  induction l with
  | nil => simp [mxl]; omega
  | cons y l ih => rw [List.cons_append, mxl, ih, mxl]; omega
theorem mxl_ge {l : List Sec} {x : Sec} (h : x ∈ l) : x.2.2 ≤ mxl l := by
  induction l with
  | nil => cases h
  | cons y l ih =>
    rw [mxl]
    rcases List.mem_cons.1 h with rfl | h
    · omega
    · have := ih h
      omega
theorem mxl_le {l : List Sec} {m : Int} (hm : 0 ≤ m) (h : ∀ x ∈ l, x.2.2 ≤ m) : mxl l ≤ m := by
  induction l with
  | nil => exact hm
  | cons y l ih =>
    rw [mxl]
    have := h y (by simp)
    have := ih (fun x hx => h x (by simp [hx]))
    omega
/-- All sections of the first i tasks. -/
def al (ts : List Tsk) : Nat → List Sec
  | 0 => []
  | i + 1 => al ts i ++ secsOf ts i
theorem al_mem {ts : List Tsk} {n : Nat} {x : Sec} : x ∈ al ts n ↔ ∃ i, i < n ∧ x ∈ secsOf ts i := by
  induction n with
  | zero => simp [al]
  | succ n ih =>
    rw [al, List.mem_append, ih]
    constructor
    · rintro (⟨i, hi, h⟩ | h)
      · exact ⟨i, by omega, h⟩
      · exact ⟨n, by omega, h⟩
    · rintro ⟨i, hi, h⟩
      by_cases e : i = n
      · exact .inr (e ▸ h)
      · exact .inl ⟨i, by omega, h⟩
theorem al_le {s : Sys} (hr : right s = true) {i j : Nat} {t : Tsk} (ht : s.ts[i]? = some t) : 0 ≤ mxl (al s.ts i ++ t.secs.take j) ∧ mxl (al s.ts i ++ t.secs.take j) ≤ 1099511627776 := by
  refine ⟨mxl_pos _, mxl_le (by omega) (fun x hx => ?_)⟩
  rcases List.mem_append.1 hx with hx | hx
  · obtain ⟨q, _, hx⟩ := al_mem.1 hx
    cases hq : s.ts[q]? with
    | none => unfold secsOf at hx; rw [hq] at hx; cases hx
    | some u => rw [secsOf_some hq] at hx; exact (right_sec hr (List.mem_of_getElem? hq) hx).2.2
  · exact (right_sec hr (List.mem_of_getElem? ht) (List.mem_of_mem_take hx)).2.2
theorem al_all {s : Sys} (hr : right s = true) : 0 ≤ mxl (al s.ts s.ts.length) ∧ mxl (al s.ts s.ts.length) ≤ 1099511627776 := by
  refine ⟨mxl_pos _, mxl_le (by omega) (fun x hx => ?_)⟩
  obtain ⟨q, _, hx⟩ := al_mem.1 hx
  cases hq : s.ts[q]? with
  | none => unfold secsOf at hx; rw [hq] at hx; cases hx
  | some u => rw [secsOf_some hq] at hx; exact (right_sec hr (List.mem_of_getElem? hq) hx).2.2
theorem smV_most (s : Sys) (wh : List Int) (k : Nat) (r : Int) (hc : 0 ≤ s.co) : smV s wh k r ≤ s.co * (mxl (al s.ts s.ts.length) + 1) := by
  have := sm_le (mxl_pos (al s.ts s.ts.length)) (L := F s wh) (fun x hx => by
    unfold F at hx
    obtain ⟨i, hi, h⟩ := fl_mem.1 hx
    obtain ⟨_, _, y, hy, _, e⟩ := enS_mem.1 h
    rw [← e]
    exact mxl_ge (al_mem.2 ⟨i, hi, hy⟩)) (cr s.co wh k) r s.co.toNat
  unfold smV
  rwa [Int.toNat_of_nonneg hc] at this
set_option maxRecDepth 100000 in
set_option maxHeartbeats 8000000 in
theorem walk (s : Sys) (A : Option Addr) (c : Nat) (B : Option Addr) (m d : Nat) (wh : List Int) (_ : m ≤ d) (task : Int) (_ : (Lit.int .i64 task).wf = true) (w : World) (h : RSys w A s.ts.length c s) (hz : Rd w B m wh) :
    Calls Try.prog 5 #[sysV s A s.ts.length c, .slice B m d, .int .i64 task] w fun e w' => e = .returned (.bool true) ∧ But No w w' := by
  obtain ⟨n, hn⟩ : ∃ n, s.ts.length = n := ⟨_, rfl⟩
  rw [hn] at h ⊢
  have HN := Lib.hid hn
  have CX : Hid (∀ W, Calls Try.prog 7 #[] W fun e w' => e = .returned (.bool true) ∧ But No W w') := examples_ok
  have CR : Hid (∀ W, But No w W → Calls Try.prog 18 #[sysV s A n c] W fun e w' => e = .returned (.bool (right s)) ∧ But No W w') := fun W hb => right_any s A n c W (h.no hb)
  have CE : Hid (∀ W, But No w W → Calls Try.prog 14 #[sysV s A n c, .slice B m d, .int .i64 task] W fun e w' => e = .returned (.int .i64 (extraV s wh task)) ∧ But No W w') := fun W hb => extra_any s A n c B m d wh task W (h.no hb) (hz.no hb)
  have CU : Hid (∀ W, But No w W → Calls Try.prog 16 #[sysV s A n c, .int .i64 task] W fun e w' => e = .returned (.bool (usesV s task)) ∧ But No W w') := fun W hb => uses_any s A n c task W (h.no hb)
  have CW : Hid (∀ (q : Int) W, But No w W → Calls Try.prog 10 #[sysV s A n c, .slice B m d, .int .i64 task, .int .i64 q] W fun e w' => e = .returned (.int .i64 (waitV s wh task q)) ∧ But No W w') := fun q W hb => waits_any s A n c B m d wh task q W (h.no hb) (hz.no hb)
  have CH : Hid (∀ (q : Int) W, But No w W → Calls Try.prog 12 #[sysV s A n c, .slice B m d, .int .i64 task, .int .i64 q] W fun e w' => e = .returned (.int .i64 (holdV s wh task q)) ∧ But No W w') := fun q W hb => hold_any s A n c B m d wh task q W (h.no hb) (hz.no hb)
  have HR := Lib.hid h.ts
  clear hn h hz
  unfold sysV at CR CE CU CW CH ⊢
  cases hrt : right s with
  | false =>
    have htn : tsk? s task = none := by unfold tsk?; rw [if_neg (by rw [hrt]; simp)]
    rw [hrt] at CR
    clear hrt CW CH HR
    rw [extra_none htn] at CE
    rw [uses_none htn] at CU
    clear htn
    go_enter Try.func5, Try.ntmps5
    have HX : Hid (Blk (w.alloc (.cells #[.int .i64 s.co, .int .i64 s.po, .int .i64 s.pr, .int .i64 s.re, .int .i64 s.sw, .int .i64 s.fi, .int .i64 s.la, .int .i64 s.rs, .slice A n c] 24)) w.heap.size (boxS s A n c) 24) := Blk.new w _ _
    go_wp2_with (first | (go_at_call 7; (with_reducible refine (CX.out _).mono ?_); rintro e w1 ⟨rfl, hb1⟩; have HB1 := Lib.hid (((But.refl No w).alloc _).trans hb1); have HX1 := Lib.hid (HX.out.but hb1 (fun f => f)); clear hb1; obtain ⟨d0, d1, d2, d3, d4, d5, d6, d7, d8⟩ := sys_cells HX1.out) | (go_at_call 18; (with_reducible refine (CR.out _ HB1.out).mono ?_); rintro e w2 ⟨rfl, hb2⟩; have HB2 := Lib.hid (HB1.out.trans hb2); have HX2 := Lib.hid (HX1.out.but hb2 (fun f => f)); clear hb2 d0 d1 d2 d3 d4 d5 d6 d7 d8; obtain ⟨d0, d1, d2, d3, d4, d5, d6, d7, d8⟩ := sys_cells HX2.out) | (go_at_call 14; (with_reducible refine (CE.out _ HB2.out).mono ?_); rintro e w3 ⟨rfl, hb3⟩; have HB3 := Lib.hid (HB2.out.trans hb3); have HX3 := Lib.hid (HX2.out.but hb3 (fun f => f)); clear hb3 d0 d1 d2 d3 d4 d5 d6 d7 d8; obtain ⟨d0, d1, d2, d3, d4, d5, d6, d7, d8⟩ := sys_cells HX3.out) | (go_at_call 16; (with_reducible refine (CU.out _ HB3.out).mono ?_); rintro e w4 ⟨rfl, hb4⟩; have HB4 := Lib.hid (HB3.out.trans hb4); clear hb4))
    go_ret
    exact ⟨rfl, HB4.out⟩
  | true =>
    rcases tsk_cases s task with ⟨k, t, rfl, h2, h3, h4⟩ | ⟨htn, h5⟩
    · have hk := (List.getElem?_eq_some_iff.1 h2).1
      rw [HN.out] at hk
      have hk2 : (k : Int) < (n : Int) := by omega
      have hk0 : (0 : Int) ≤ (k : Int) := Int.natCast_nonneg k
      have bk0 : decide ((k : Int) < 0) = false := by simp
      have bk1 : decide ((n : Int) ≤ (k : Int)) = false := by simp; omega
      have bk2 : decide (n ≤ k) = false := by simp; omega
      have hln := right_len hrt
      have hn24 := hln.2.2.2.1
      rw [HN.out] at hn24
      have hco := hln.1
      have HRT := Lib.hid hrt
      have HTK := Lib.hid h2
      have HT4 := Lib.hid h4
      have HE : Hid (extraV s wh k = exN s wh k t.secs t.secs.length) := Lib.hid (by rw [extra_some h4, Int.toNat_natCast])
      have HU := Lib.hid (uses_some h4)
      rw [hrt] at CR
      clear hln h2 h3 h4 hrt
      go_enter Try.func5, Try.ntmps5
      have HX : Hid (Blk (w.alloc (.cells #[.int .i64 s.co, .int .i64 s.po, .int .i64 s.pr, .int .i64 s.re, .int .i64 s.sw, .int .i64 s.fi, .int .i64 s.la, .int .i64 s.rs, .slice A n c] 24)) w.heap.size (boxS s A n c) 24) := Blk.new w _ _
      go_upto_region 5 with (first | (go_at_call 7; (with_reducible refine (CX.out _).mono ?_); rintro e w1 ⟨rfl, hb1⟩; have HB1 := Lib.hid (((But.refl No w).alloc _).trans hb1); have HX1 := Lib.hid (HX.out.but hb1 (fun f => f)); clear hb1; obtain ⟨d0, d1, d2, d3, d4, d5, d6, d7, d8⟩ := sys_cells HX1.out) | (go_at_call 18; (with_reducible refine (CR.out _ HB1.out).mono ?_); rintro e w2 ⟨rfl, hb2⟩; have HB2 := Lib.hid (HB1.out.trans hb2); have HX2 := Lib.hid (HX1.out.but hb2 (fun f => f)); clear hb2 d0 d1 d2 d3 d4 d5 d6 d7 d8; obtain ⟨d0, d1, d2, d3, d4, d5, d6, d7, d8⟩ := sys_cells HX2.out))
      have HRW := Lib.hid (HR.out.no HB2.out)
      clear d0 d1 d2 d3 d4 d5 d6 d7 d8
      clear HB1 HX HX1 CX CR HR
      generalize w.heap.size = bx at HX2 ⊢
      go_wp2_with fail
      go_loopw [8, 9] (fun u i wr => ∃ q : Nat, u = .int .i64 (mxl (al s.ts q)) ∧ i = .int .i64 (q : Int) ∧ q ≤ n ∧ Hid (wr = w2)) (fun _ i _ => n - (intOf i).toNat)
      case atStart => exact ⟨0, rfl, rfl, by omega, rfl⟩
      case round =>
        obtain ⟨i, rfl, rfl, hi, hw⟩ := hrel
        obtain rfl := hw.out
        clear hw
        have d8 : wr.cell? ⟨bx, 8, none⟩ = some (.slice A n c) := HX2.out.cell (o := 8) rfl
        by_cases hin : i < n
        · have hin2 : (i : Int) < (n : Int) := by omega
          have hi0 : (0 : Int) ≤ (i : Int) := Int.natCast_nonneg i
          obtain ⟨u, hu⟩ : ∃ u, s.ts[i]? = some u := ⟨_, List.getElem?_eq_getElem (by rw [HN.out]; exact hin)⟩
          obtain ⟨ba, oa, A', c', rfl, _, _, _, c3, hcc, hS⟩ := HRW.out.at1 hu
          have HS0 := Lib.hid hS
          have HUK := Lib.hid hu
          have HAL := Lib.hid (show al s.ts (i + 1) = al s.ts i ++ u.secs by rw [al, secsOf_some hu])
          have hm4 := (right_len HRT.out).2.2.2.2 u (List.mem_of_getElem? hu)
          obtain ⟨m', hm'⟩ : ∃ m', u.secs.length = m' := ⟨_, rfl⟩
          have HM := Lib.hid hm'
          rw [hm'] at c3 hcc HS0 hm4
          clear hS hu hm'
          go_wp2_with fail
          go_loopw [8, 10] (fun v j wx => ∃ q : Nat, v = .int .i64 (mxl (al s.ts i ++ u.secs.take q)) ∧ j = .int .i64 (q : Int) ∧ q ≤ m' ∧ Hid (wx = wr)) (fun _ j _ => m' - (intOf j).toNat)
          case atStart => exact ⟨0, by rw [List.take_zero, List.append_nil], rfl, by omega, rfl⟩
          case round =>
            obtain ⟨j, rfl, rfl, hj, hw⟩ := hrel
            obtain rfl := hw.out
            clear hw
            by_cases hjm : j < m'
            · have hjm2 : (j : Int) < (m' : Int) := by omega
              have hj0 : (0 : Int) ≤ (j : Int) := Int.natCast_nonneg j
              obtain ⟨x, hx⟩ : ∃ x, u.secs[j]? = some x := ⟨_, List.getElem?_eq_getElem (by rw [HM.out]; exact hjm)⟩
              obtain ⟨bb, oo, rfl, e0, e1, e2⟩ := HS0.out.at1 hx
              have hMb := al_le HRT.out (j := j) HUK.out
              have HMX := Lib.hid (show mxl (al s.ts i ++ u.secs.take (j + 1)) = max (mxl (al s.ts i ++ u.secs.take j)) x.2.2 by rw [List.take_add_one, hx, ← List.append_assoc]; exact mxl_snoc _ x)
              obtain ⟨M, hM⟩ : ∃ M, mxl (al s.ts i ++ u.secs.take j) = M := ⟨_, rfl⟩
              rw [hM] at hMb HMX ⊢
              clear hx hM
              obtain ⟨x0, x1, x2⟩ := x
              simp only at e0 e1 e2 HMX
              go_wp2
              go_roundw
              case rel => exact ⟨j + 1, by rw [HMX.out]; congr 1; split <;> omega, by go_num, by omega, by first | exact rfl | exact trivial⟩
              case measure => simp [intOf]; omega
            · have b3 : decide ((j : Int) < (m' : Int)) = false := by simp; omega
              have HJ : Hid (mxl (al s.ts i ++ u.secs.take j) = mxl (al s.ts (i + 1))) := Lib.hid (by rw [HAL.out]; congr 2; rw [show j = u.secs.length by rw [HM.out]; omega]; exact List.take_length)
              rw [HJ.out]
              go_wp2
              go_roundw
              case rel => exact ⟨i + 1, rfl, by go_num, by omega, by first | exact rfl | exact trivial⟩
              case measure => simp [intOf]; omega
        · have HI : Hid (i = n) := Lib.hid (by omega)
          have b3 : decide ((i : Int) < (n : Int)) = false := by simp; omega
          have hL := al_all HRT.out
          have HMO := Lib.hid (fun r => smV_most s wh k r (by omega))
          rw [HN.out] at hL HMO
          rw [HI.out]
          obtain ⟨LM, hLM⟩ : ∃ LM, mxl (al s.ts n) = LM := ⟨_, rfl⟩
          rw [hLM] at hL HMO ⊢
          clear hLM
          obtain ⟨ba, oa, A', c', rfl, _, _, _, c3, hcc, hS⟩ := HRW.out.at1 HTK.out
          have HS0 := Lib.hid hS
          have hm4 := (right_len HRT.out).2.2.2.2 t (List.mem_of_getElem? HTK.out)
          obtain ⟨m', hm'⟩ : ∃ m', t.secs.length = m' := ⟨_, rfl⟩
          have HM := Lib.hid hm'
          rw [hm'] at c3 hcc HS0 hm4 HE HU
          clear hS hm' b3
          obtain ⟨w9, rfl⟩ : ∃ w9, w9 = wr := ⟨_, rfl⟩
          go_wp2_with fail
          clear d8
          go_loopw [11, 13] (fun v j wx => ∃ q : Nat, v = .int .i64 (exN s wh k t.secs q) ∧ j = .int .i64 (q : Int) ∧ q ≤ m' ∧ Hid (But No w9 wx)) (fun _ j _ => m' - (intOf j).toNat)
          case atStart => exact ⟨0, rfl, rfl, by omega, But.refl No w9⟩
          case round =>
            obtain ⟨j, rfl, rfl, hj, HBR⟩ := hrel
            by_cases hjm : j < m'
            · have hjm2 : (j : Int) < (m' : Int) := by omega
              have hj0 : (0 : Int) ≤ (j : Int) := Int.natCast_nonneg j
              obtain ⟨x, hx⟩ : ∃ x, t.secs[j]? = some x := ⟨_, List.getElem?_eq_getElem (by rw [HM.out]; exact hjm)⟩
              obtain ⟨bb, oo, rfl, _, _, e2⟩ := HS0.out.at1 hx
              have E2 := Lib.hid e2
              have hl := (right_sec HRT.out (List.mem_of_getElem? HTK.out) (List.mem_of_getElem? hx)).2
              have hsec : sec? s (k : Int) (j : Int) = some x := by
                unfold sec?
                rw [HT4.out]
                simp only [Option.bind_some]
                rw [if_pos hj0, Int.toNat_natCast, hx]
              have hwv : waitV s wh (k : Int) (j : Int) = smV s wh k x.2.1 := by rw [wait_some hsec, Int.toNat_natCast]
              have hhv : holdV s wh (k : Int) (j : Int) = smV s wh k x.2.1 + x.2.2 := by rw [hold_some hsec, hwv]
              have HEX := Lib.hid (exN_succ (s := s) (wh := wh) (k := k) hx)
              have hS := smV_le HRT.out wh k x.2.1
              have hmost := HMO.out x.2.1
              have hE := exN_le HRT.out wh k t.secs j
              obtain ⟨x0, x1, x2⟩ := x
              simp only at e2 hwv hhv HEX hS hmost hl E2
              have CW1 : Hid (∀ W, But No w9 W → Calls Try.prog 10 #[.agg #[.int .i64 s.co, .int .i64 s.po, .int .i64 s.pr, .int .i64 s.re, .int .i64 s.sw, .int .i64 s.fi, .int .i64 s.la, .int .i64 s.rs, .slice (some ⟨ba, oa, none⟩) n c], .slice B m d, .int .i64 k, .int .i64 j] W fun e w' => e = .returned (.int .i64 (smV s wh k x1)) ∧ But No w9 w') := Lib.hid (fun W hb => (by rw [← hwv]; exact (CW.out j W (HB2.out.trans hb)).mono (fun e w' ⟨h1, h2⟩ => ⟨h1, hb.trans h2⟩)))
              obtain ⟨HV, hHV⟩ : ∃ HV, smV s wh k x1 + x2 = HV := ⟨_, rfl⟩
              have CH1 : Hid (∀ W, But No w9 W → Calls Try.prog 12 #[.agg #[.int .i64 s.co, .int .i64 s.po, .int .i64 s.pr, .int .i64 s.re, .int .i64 s.sw, .int .i64 s.fi, .int .i64 s.la, .int .i64 s.rs, .slice (some ⟨ba, oa, none⟩) n c], .slice B m d, .int .i64 k, .int .i64 j] W fun e w' => e = .returned (.int .i64 HV) ∧ But No w9 w') := Lib.hid (fun W hb => (by rw [← hHV, ← hhv]; exact (CH.out j W (HB2.out.trans hb)).mono (fun e w' ⟨h1, h2⟩ => ⟨h1, hb.trans h2⟩)))
              obtain ⟨E0, hE0⟩ : ∃ E0, exN s wh k t.secs j = E0 := ⟨_, rfl⟩
              obtain ⟨W, hW⟩ : ∃ W, smV s wh k x1 = W := ⟨_, rfl⟩
              rw [hE0] at hE HEX ⊢
              rw [hW] at hS HEX CW1 hmost hHV
              obtain ⟨d0, d1, d2, d3, d4, d5, d6, d7, d8⟩ := sys_cells (HX2.out.but HBR.out (fun f => f))
              clear hE0 hW hwv hhv hsec hx e2
              go_wp2_with (go_at_call 10; (with_reducible refine (CW1.out _ HBR.out).mono ?_); rintro e wA ⟨rfl, hA⟩; have HA := Lib.hid hA; clear hA d0 d1 d2 d3 d4 d5 d6 d7 d8)
              have hj4 : (j : Int) * 8796093022216 ≤ 35184372088864 := by omega
              have hcm : s.co * (LM + 1) ≤ 8 * (LM + 1) := Int.mul_le_mul_of_nonneg_right (by omega) (by omega)
              have q0 : 0 ≤ s.co * (LM + 1) := Int.mul_nonneg (by omega) (by omega)
              have q1 : decide (W < 0) = false := by simp; omega
              have q2 : IntKind.i64.wrap (LM + 1) = LM + 1 := IntWalk.i64_in (LM + 1) (by omega)
              have q3 : IntKind.i64.wrap (s.co * (LM + 1)) = s.co * (LM + 1) := IntWalk.i64_in (s.co * (LM + 1)) (by omega)
              have q4 : decide (s.co * (LM + 1) < W) = false := by simp; omega
              have q5 : IntKind.i64.wrap (W + x2) = HV := by rw [IntWalk.i64_in (W + x2) (by omega)]; exact hHV
              have q6 : (HV != HV) = false := by simp
              have KEEP : Hid (∀ w', But No w9 w' → (w'.cell? ⟨bx, 0, none⟩ = some (.int .i64 s.co) ∧ w'.cell? ⟨bx, 1, none⟩ = some (.int .i64 s.po) ∧ w'.cell? ⟨bx, 2, none⟩ = some (.int .i64 s.pr) ∧ w'.cell? ⟨bx, 3, none⟩ = some (.int .i64 s.re) ∧ w'.cell? ⟨bx, 4, none⟩ = some (.int .i64 s.sw) ∧ w'.cell? ⟨bx, 5, none⟩ = some (.int .i64 s.fi) ∧ w'.cell? ⟨bx, 6, none⟩ = some (.int .i64 s.la) ∧ w'.cell? ⟨bx, 7, none⟩ = some (.int .i64 s.rs) ∧ w'.cell? ⟨bx, 8, none⟩ = some (.slice (some ⟨ba, oa, none⟩) n c) ∧ w'.cell? ⟨bb, oo + j * 3 + 2, none⟩ = some (.int .i64 x2)) ∧ But No w9 w') := Lib.hid (fun w' hb => by
                obtain ⟨d0, d1, d2, d3, d4, d5, d6, d7, d8⟩ := sys_cells (HX2.out.but hb (fun f => f))
                exact ⟨⟨d0, d1, d2, d3, d4, d5, d6, d7, d8, cell_keep E2.out hb⟩, hb⟩)
              clear hcm q0 hmost hHV
              go_region_held3 (fun w' => (w'.cell? ⟨bx, 0, none⟩ = some (.int .i64 s.co) ∧ w'.cell? ⟨bx, 1, none⟩ = some (.int .i64 s.po) ∧ w'.cell? ⟨bx, 2, none⟩ = some (.int .i64 s.pr) ∧ w'.cell? ⟨bx, 3, none⟩ = some (.int .i64 s.re) ∧ w'.cell? ⟨bx, 4, none⟩ = some (.int .i64 s.sw) ∧ w'.cell? ⟨bx, 5, none⟩ = some (.int .i64 s.fi) ∧ w'.cell? ⟨bx, 6, none⟩ = some (.int .i64 s.la) ∧ w'.cell? ⟨bx, 7, none⟩ = some (.int .i64 s.rs) ∧ w'.cell? ⟨bx, 8, none⟩ = some (.slice (some ⟨ba, oa, none⟩) n c) ∧ w'.cell? ⟨bb, oo + j * 3 + 2, none⟩ = some (.int .i64 x2)) ∧ But No w9 w')
                (first | exact KEEP.out _ HA.out.drew | exact KEEP.out _ hgB)
                (first | (go_at_call 12; ((with_reducible refine (CH1.out _ HA.out.drew).mono ?_); rintro e wB ⟨rfl, hgB⟩)))
              rename_i hHeld
              clear hHeld
              have HGB := Lib.hid hgB
              clear hgB
              go_wp2
              go_roundw
              case rel => exact ⟨j + 1, by rw [HEX.out], by go_num, by omega, HGB.out⟩
              case measure => simp [intOf]; omega
            · have HJ : Hid (j = m') := Lib.hid (by omega)
              have b3 : decide ((j : Int) < (m' : Int)) = false := by simp; omega
              rw [HJ.out]
              obtain ⟨EE, hEE⟩ : ∃ EE, exN s wh k t.secs m' = EE := ⟨_, rfl⟩
              rw [hEE] at HE ⊢
              rw [HE.out] at CE
              rw [HU.out] at CU
              clear hEE
              obtain ⟨d0, d1, d2, d3, d4, d5, d6, d7, d8⟩ := sys_cells (HX2.out.but HBR.out (fun f => f))
              have q6 : (EE == EE) = true := by simp
              by_cases hm0 : 0 < m'
              · have hu : decide (0 < m') = true := by simp [hm0]
                rw [hu] at CU
                go_wp2_with (first | (go_at_call 14; (with_reducible refine (CE.out _ (HB2.out.trans HBR.out)).mono ?_); rintro e w3 ⟨rfl, hb3⟩; have HB3 := Lib.hid ((HB2.out.trans HBR.out).trans hb3); have HX3 := Lib.hid ((HX2.out.but HBR.out (fun f => f)).but hb3 (fun f => f)); clear hb3 d0 d1 d2 d3 d4 d5 d6 d7 d8; obtain ⟨d0, d1, d2, d3, d4, d5, d6, d7, d8⟩ := sys_cells HX3.out) | (go_at_call 16; (with_reducible refine (CU.out _ HB3.out).mono ?_); rintro e w4 ⟨rfl, hb4⟩; have HB4 := Lib.hid (HB3.out.trans hb4); clear hb4))
                go_ret
                exact ⟨rfl, HB4.out⟩
              · have hu : decide (0 < m') = false := by simp [hm0]
                rw [hu] at CU
                go_wp2_with (first | (go_at_call 14; (with_reducible refine (CE.out _ (HB2.out.trans HBR.out)).mono ?_); rintro e w3 ⟨rfl, hb3⟩; have HB3 := Lib.hid ((HB2.out.trans HBR.out).trans hb3); have HX3 := Lib.hid ((HX2.out.but HBR.out (fun f => f)).but hb3 (fun f => f)); clear hb3 d0 d1 d2 d3 d4 d5 d6 d7 d8; obtain ⟨d0, d1, d2, d3, d4, d5, d6, d7, d8⟩ := sys_cells HX3.out) | (go_at_call 16; (with_reducible refine (CU.out _ HB3.out).mono ?_); rintro e w4 ⟨rfl, hb4⟩; have HB4 := Lib.hid (HB3.out.trans hb4); clear hb4))
                go_ret
                exact ⟨rfl, HB4.out⟩
    · by_cases h0 : task < 0
      · have b0 : decide (task < 0) = true := by simp [h0]
        rw [hrt] at CR
        clear h5 hrt CW CH HR
        rw [extra_none htn] at CE
        rw [uses_none htn] at CU
        clear htn
        go_enter Try.func5, Try.ntmps5
        have HX : Hid (Blk (w.alloc (.cells #[.int .i64 s.co, .int .i64 s.po, .int .i64 s.pr, .int .i64 s.re, .int .i64 s.sw, .int .i64 s.fi, .int .i64 s.la, .int .i64 s.rs, .slice A n c] 24)) w.heap.size (boxS s A n c) 24) := Blk.new w _ _
        go_wp2_with (first | (go_at_call 7; (with_reducible refine (CX.out _).mono ?_); rintro e w1 ⟨rfl, hb1⟩; have HB1 := Lib.hid (((But.refl No w).alloc _).trans hb1); have HX1 := Lib.hid (HX.out.but hb1 (fun f => f)); clear hb1; obtain ⟨d0, d1, d2, d3, d4, d5, d6, d7, d8⟩ := sys_cells HX1.out) | (go_at_call 18; (with_reducible refine (CR.out _ HB1.out).mono ?_); rintro e w2 ⟨rfl, hb2⟩; have HB2 := Lib.hid (HB1.out.trans hb2); have HX2 := Lib.hid (HX1.out.but hb2 (fun f => f)); clear hb2 d0 d1 d2 d3 d4 d5 d6 d7 d8; obtain ⟨d0, d1, d2, d3, d4, d5, d6, d7, d8⟩ := sys_cells HX2.out) | (go_at_call 14; (with_reducible refine (CE.out _ HB2.out).mono ?_); rintro e w3 ⟨rfl, hb3⟩; have HB3 := Lib.hid (HB2.out.trans hb3); have HX3 := Lib.hid (HX2.out.but hb3 (fun f => f)); clear hb3 d0 d1 d2 d3 d4 d5 d6 d7 d8; obtain ⟨d0, d1, d2, d3, d4, d5, d6, d7, d8⟩ := sys_cells HX3.out) | (go_at_call 16; (with_reducible refine (CU.out _ HB3.out).mono ?_); rintro e w4 ⟨rfl, hb4⟩; have HB4 := Lib.hid (HB3.out.trans hb4); clear hb4))
        go_ret
        exact ⟨rfl, HB4.out⟩
      · have b0 : decide (task < 0) = false := by simp; omega
        have b1 : decide ((n : Int) ≤ task) = true := by
          have := HN.out
          rcases h5 with h | h | h
          · omega
          · simp; omega
          · rw [hrt] at h; cases h
        rw [hrt] at CR
        clear h5 hrt CW CH HR
        rw [extra_none htn] at CE
        rw [uses_none htn] at CU
        clear htn
        go_enter Try.func5, Try.ntmps5
        have HX : Hid (Blk (w.alloc (.cells #[.int .i64 s.co, .int .i64 s.po, .int .i64 s.pr, .int .i64 s.re, .int .i64 s.sw, .int .i64 s.fi, .int .i64 s.la, .int .i64 s.rs, .slice A n c] 24)) w.heap.size (boxS s A n c) 24) := Blk.new w _ _
        go_wp2_with (first | (go_at_call 7; (with_reducible refine (CX.out _).mono ?_); rintro e w1 ⟨rfl, hb1⟩; have HB1 := Lib.hid (((But.refl No w).alloc _).trans hb1); have HX1 := Lib.hid (HX.out.but hb1 (fun f => f)); clear hb1; obtain ⟨d0, d1, d2, d3, d4, d5, d6, d7, d8⟩ := sys_cells HX1.out) | (go_at_call 18; (with_reducible refine (CR.out _ HB1.out).mono ?_); rintro e w2 ⟨rfl, hb2⟩; have HB2 := Lib.hid (HB1.out.trans hb2); have HX2 := Lib.hid (HX1.out.but hb2 (fun f => f)); clear hb2 d0 d1 d2 d3 d4 d5 d6 d7 d8; obtain ⟨d0, d1, d2, d3, d4, d5, d6, d7, d8⟩ := sys_cells HX2.out) | (go_at_call 14; (with_reducible refine (CE.out _ HB2.out).mono ?_); rintro e w3 ⟨rfl, hb3⟩; have HB3 := Lib.hid (HB2.out.trans hb3); have HX3 := Lib.hid (HX2.out.but hb3 (fun f => f)); clear hb3 d0 d1 d2 d3 d4 d5 d6 d7 d8; obtain ⟨d0, d1, d2, d3, d4, d5, d6, d7, d8⟩ := sys_cells HX3.out) | (go_at_call 16; (with_reducible refine (CU.out _ HB3.out).mono ?_); rintro e w4 ⟨rfl, hb4⟩; have HB4 := Lib.hid (HB3.out.trans hb4); clear hb4))
        go_ret
        exact ⟨rfl, HB4.out⟩
end termsSum
end Go.Proofs.Ytfmhejeeeglmdaa
