/- The walk of TermsLongest. -/
import Derived.Test.YtfmhejeeeglmdaaE
namespace Go.Proofs.Ytfmhejeeeglmdaa
open Go.ChangeShapes Go.WideShapes Go.ChangeAt Go.RowKit Go.Deep val ter
namespace termsLongest
/-- Has the greatest been met? -/
def metB (L : List Sec) (k r V : Int) : Bool := decide (V = 0) || L.any (fun x => decide (x.1 = k) && (decide (x.2.1 = r) && decide (x.2.2 = V)))
theorem metB_nil (k r V : Int) : metB [] k r V = decide (V = 0) := by simp [metB]
theorem metB_snoc (L : List Sec) (x : Sec) (k r V : Int) : metB (L ++ [x]) k r V = (metB L k r V || (decide (x.1 = k) && (decide (x.2.1 = r) && decide (x.2.2 = V)))) := by
  unfold metB; rw [List.any_append]; simp [Bool.or_assoc]
theorem metB_more (L M : List Sec) (k r V : Int) (h : ∀ x ∈ M, x.1 ≠ k) : metB (L ++ M) k r V = metB L k r V := by
  unfold metB; rw [List.any_append]
  have : M.any (fun x => decide (x.1 = k) && (decide (x.2.1 = r) && decide (x.2.2 = V))) = false := by
    rw [List.any_eq_false]
    intro x hx
    simp [h x hx]
  rw [this, Bool.or_false]
theorem metB_mx (L : List Sec) (k r : Int) : metB L k r (mx L k r) = true := by
  unfold metB
  rcases mx_is L k r with e | ⟨x, hx, h1, h2, h3⟩
  · simp [e]
  · rw [Bool.or_eq_true, List.any_eq_true]
    exact .inr ⟨x, hx, by simp [h1, h2, h3]⟩
theorem fl_beyond {co : Int} {wh : List Int} {ts : List Tsk} {i n : Nat} (h : wh.length ≤ i) (hn : i ≤ n) : fl co wh ts n = fl co wh ts i := by
  induction n with
  | zero => obtain rfl : i = 0 := by omega
            rfl
  | succ n ih =>
    by_cases e : i = n + 1
    · rw [e]
    · rw [fl_none, ih (by omega)]
      rcases cr_cases co wh n with ⟨e, _⟩ | ⟨e, _⟩
      · exact e
      · omega
theorem cr_is {co : Int} {wh : List Int} {i : Nat} {k : Int} (hi : i < wh.length) (h0 : 0 ≤ k) (h1 : k < co) : cr co wh i = k ↔ wh.getD i 0 = k := by
  rcases cr_cases co wh i with ⟨e, h⟩ | ⟨_, e, _, _⟩
  · rw [e]
    constructor
    · intro h'; omega
    · intro h'; rw [h'] at h; exact absurd ⟨hi, h0, h1⟩ h
  · rw [e]
theorem F_ge {s : Sys} {wh : List Int} {i j : Nat} {t : Tsk} {x : Sec} (ht : s.ts[i]? = some t) (hc : cr s.co wh i ≠ -1) (hx : t.secs[j]? = some x) : x.2.2 ≤ mx (F s wh) (cr s.co wh i) x.2.1 := by
  have hm : (cr s.co wh i, x.2.1, x.2.2) ∈ F s wh := by
    unfold F
    refine fl_mem.2 ⟨i, (List.getElem?_eq_some_iff.1 ht).1, ?_⟩
    rw [secsOf_some ht]
    exact enS_mem.2 ⟨hc, rfl, x, List.mem_of_getElem? hx, rfl, rfl⟩
  exact mx_ge hm
set_option maxRecDepth 100000 in
set_option maxHeartbeats 8000000 in
theorem walk (s : Sys) (A : Option Addr) (c : Nat) (B : Option Addr) (m d : Nat) (wh : List Int) (_ : m ≤ d) (k : Int) (hk : (Lit.int .i64 k).wf = true) (r : Int) (hr : (Lit.int .i64 r).wf = true) (w : World) (h : RSys w A s.ts.length c s) (hz : Rd w B m wh) :
    Calls Try.prog 6 #[sysV s A s.ts.length c, .slice B m d, .int .i64 k, .int .i64 r] w fun e w' => e = .returned (.bool true) ∧ But No w w' := by
  obtain ⟨n, hn⟩ : ∃ n, s.ts.length = n := ⟨_, rfl⟩
  rw [hn] at h ⊢
  have HN := Lib.hid hn
  have CX : Hid (∀ W, Calls Try.prog 7 #[] W fun e w' => e = .returned (.bool true) ∧ But No W w') := examples_ok
  have CR : Hid (∀ W, But No w W → Calls Try.prog 18 #[sysV s A n c] W fun e w' => e = .returned (.bool (right s)) ∧ But No W w') := fun W hb => right_any s A n c W (h.no hb)
  have CL : Hid (∀ W, But No w W → Calls Try.prog 8 #[sysV s A n c, .slice B m d, .int .i64 k, .int .i64 r] W fun e w' => e = .returned (.int .i64 (longV s wh k r)) ∧ But No W w') := fun W hb => longest_any s A n c B m d wh k r W (h.no hb) (hz.no hb) (inR_of hk) (inR_of hr)
  have HR := Lib.hid h.ts
  have HZ := Lib.hid hz
  have hml := hz.len
  have HML := Lib.hid hml
  clear hn h hz hk hr
  unfold sysV at CR CL ⊢
  cases hrt : right s with
  | false =>
    have hv : longV s wh k r = 0 := by unfold longV; rw [if_neg (by rw [hrt]; simp)]
    rw [hv] at CL
    rw [hrt] at CR
    clear hrt hv hml
    go_enter Try.func6, Try.ntmps6
    have HX : Hid (Blk (w.alloc (.cells #[.int .i64 s.co, .int .i64 s.po, .int .i64 s.pr, .int .i64 s.re, .int .i64 s.sw, .int .i64 s.fi, .int .i64 s.la, .int .i64 s.rs, .slice A n c] 24)) w.heap.size (boxS s A n c) 24) := Blk.new w _ _
    go_wp2_with (first | (go_at_call 7; (with_reducible refine (CX.out _).mono ?_); rintro e w1 ⟨rfl, hb1⟩; have HB1 := Lib.hid (((But.refl No w).alloc _).trans hb1); have HX1 := Lib.hid (HX.out.but hb1 (fun f => f)); clear hb1; obtain ⟨d0, d1, d2, d3, d4, d5, d6, d7, d8⟩ := sys_cells HX1.out) | (go_at_call 8; (with_reducible refine (CL.out _ HB1.out).mono ?_); rintro e w2 ⟨rfl, hb2⟩; have HB2 := Lib.hid (HB1.out.trans hb2); have HX2 := Lib.hid (HX1.out.but hb2 (fun f => f)); clear hb2 d0 d1 d2 d3 d4 d5 d6 d7 d8; obtain ⟨d0, d1, d2, d3, d4, d5, d6, d7, d8⟩ := sys_cells HX2.out) | (go_at_call 18; (with_reducible refine (CR.out _ HB2.out).mono ?_); rintro e w3 ⟨rfl, hb3⟩; have HB3 := Lib.hid (HB2.out.trans hb3); have HX3 := Lib.hid (HX2.out.but hb3 (fun f => f)); clear hb3 d0 d1 d2 d3 d4 d5 d6 d7 d8; obtain ⟨d0, d1, d2, d3, d4, d5, d6, d7, d8⟩ := sys_cells HX3.out))
    go_ret
    exact ⟨rfl, HB3.out⟩
  | true =>
    have hco := (right_len hrt).1
    rw [hrt] at CR
    by_cases hoff : k < 0 ∨ s.co ≤ k
    · rw [longV_off hoff] at CL
      rcases (show k < 0 ∨ 0 ≤ k ∧ s.co ≤ k by omega) with hk0 | ⟨hk0, hk1⟩
      · have b0 : decide (k < 0) = true := by simp [hk0]
        clear hoff hrt hml
        go_enter Try.func6, Try.ntmps6
        have HX : Hid (Blk (w.alloc (.cells #[.int .i64 s.co, .int .i64 s.po, .int .i64 s.pr, .int .i64 s.re, .int .i64 s.sw, .int .i64 s.fi, .int .i64 s.la, .int .i64 s.rs, .slice A n c] 24)) w.heap.size (boxS s A n c) 24) := Blk.new w _ _
        go_wp2_with (first | (go_at_call 7; (with_reducible refine (CX.out _).mono ?_); rintro e w1 ⟨rfl, hb1⟩; have HB1 := Lib.hid (((But.refl No w).alloc _).trans hb1); have HX1 := Lib.hid (HX.out.but hb1 (fun f => f)); clear hb1; obtain ⟨d0, d1, d2, d3, d4, d5, d6, d7, d8⟩ := sys_cells HX1.out) | (go_at_call 8; (with_reducible refine (CL.out _ HB1.out).mono ?_); rintro e w2 ⟨rfl, hb2⟩; have HB2 := Lib.hid (HB1.out.trans hb2); have HX2 := Lib.hid (HX1.out.but hb2 (fun f => f)); clear hb2 d0 d1 d2 d3 d4 d5 d6 d7 d8; obtain ⟨d0, d1, d2, d3, d4, d5, d6, d7, d8⟩ := sys_cells HX2.out) | (go_at_call 18; (with_reducible refine (CR.out _ HB2.out).mono ?_); rintro e w3 ⟨rfl, hb3⟩; have HB3 := Lib.hid (HB2.out.trans hb3); have HX3 := Lib.hid (HX2.out.but hb3 (fun f => f)); clear hb3 d0 d1 d2 d3 d4 d5 d6 d7 d8; obtain ⟨d0, d1, d2, d3, d4, d5, d6, d7, d8⟩ := sys_cells HX3.out))
        go_ret
        exact ⟨rfl, HB3.out⟩
      · have b0 : decide (k < 0) = false := by simp; omega
        have b1 : decide (s.co ≤ k) = true := by simp [hk1]
        clear hoff hrt hml
        go_enter Try.func6, Try.ntmps6
        have HX : Hid (Blk (w.alloc (.cells #[.int .i64 s.co, .int .i64 s.po, .int .i64 s.pr, .int .i64 s.re, .int .i64 s.sw, .int .i64 s.fi, .int .i64 s.la, .int .i64 s.rs, .slice A n c] 24)) w.heap.size (boxS s A n c) 24) := Blk.new w _ _
        go_wp2_with (first | (go_at_call 7; (with_reducible refine (CX.out _).mono ?_); rintro e w1 ⟨rfl, hb1⟩; have HB1 := Lib.hid (((But.refl No w).alloc _).trans hb1); have HX1 := Lib.hid (HX.out.but hb1 (fun f => f)); clear hb1; obtain ⟨d0, d1, d2, d3, d4, d5, d6, d7, d8⟩ := sys_cells HX1.out) | (go_at_call 8; (with_reducible refine (CL.out _ HB1.out).mono ?_); rintro e w2 ⟨rfl, hb2⟩; have HB2 := Lib.hid (HB1.out.trans hb2); have HX2 := Lib.hid (HX1.out.but hb2 (fun f => f)); clear hb2 d0 d1 d2 d3 d4 d5 d6 d7 d8; obtain ⟨d0, d1, d2, d3, d4, d5, d6, d7, d8⟩ := sys_cells HX2.out) | (go_at_call 18; (with_reducible refine (CR.out _ HB2.out).mono ?_); rintro e w3 ⟨rfl, hb3⟩; have HB3 := Lib.hid (HB2.out.trans hb3); have HX3 := Lib.hid (HX2.out.but hb3 (fun f => f)); clear hb3 d0 d1 d2 d3 d4 d5 d6 d7 d8; obtain ⟨d0, d1, d2, d3, d4, d5, d6, d7, d8⟩ := sys_cells HX3.out))
        go_ret
        exact ⟨rfl, HB3.out⟩
    · have hk0 : 0 ≤ k := by omega
      have hk1 : k < s.co := by omega
      have b0 : decide (k < 0) = false := by simp; omega
      have b1 : decide (s.co ≤ k) = false := by simp; omega
      have HV : Hid (longV s wh k r = mx (F s wh) k r) := Lib.hid (by unfold longV; rw [if_pos hrt])
      have HRT := Lib.hid hrt
      have HOFF := Lib.hid (And.intro hk0 hk1)
      have hn24 := (right_len hrt).2.2.2.1
      rw [HN.out] at hn24
      generalize longV s wh k r = V at CL HV
      clear hoff hrt
      go_enter Try.func6, Try.ntmps6
      have HX : Hid (Blk (w.alloc (.cells #[.int .i64 s.co, .int .i64 s.po, .int .i64 s.pr, .int .i64 s.re, .int .i64 s.sw, .int .i64 s.fi, .int .i64 s.la, .int .i64 s.rs, .slice A n c] 24)) w.heap.size (boxS s A n c) 24) := Blk.new w _ _
      go_upto_region 6 with (first | (go_at_call 7; (with_reducible refine (CX.out _).mono ?_); rintro e w1 ⟨rfl, hb1⟩; have HB1 := Lib.hid (((But.refl No w).alloc _).trans hb1); have HX1 := Lib.hid (HX.out.but hb1 (fun f => f)); clear hb1; obtain ⟨d0, d1, d2, d3, d4, d5, d6, d7, d8⟩ := sys_cells HX1.out) | (go_at_call 8; (with_reducible refine (CL.out _ HB1.out).mono ?_); rintro e w2 ⟨rfl, hb2⟩; have HB2 := Lib.hid (HB1.out.trans hb2); have HX2 := Lib.hid (HX1.out.but hb2 (fun f => f)); clear hb2 d0 d1 d2 d3 d4 d5 d6 d7 d8; obtain ⟨d0, d1, d2, d3, d4, d5, d6, d7, d8⟩ := sys_cells HX2.out) | (go_at_call 18; (with_reducible refine (CR.out _ HB2.out).mono ?_); rintro e w3 ⟨rfl, hb3⟩; have HB3 := Lib.hid (HB2.out.trans hb3); have HX3 := Lib.hid (HX2.out.but hb3 (fun f => f)); clear hb3 d0 d1 d2 d3 d4 d5 d6 d7 d8; obtain ⟨d0, d1, d2, d3, d4, d5, d6, d7, d8⟩ := sys_cells HX3.out))
      have HRW := Lib.hid (HR.out.no HB3.out)
      have HZW := Lib.hid (HZ.out.no HB3.out)
      clear HB1 HB2 HX HX1 HX2 CX CR CL HR HZ d0 d1 d2 d3 d4 d5 d6 d7 d8
      generalize w.heap.size = bx at HX3 ⊢
      rw [HML.out.symm] at HZW
      go_wp2_with fail
      go_loopw [11, 12] (fun u i wr => ∃ (b : Bool) (q : Nat), u = .bool b ∧ i = .int .i64 (q : Int) ∧ q ≤ n ∧ q ≤ m ∧ Hid (metB (fl s.co wh s.ts q) k r V = b) ∧ Hid (But No w3 wr)) (fun _ i _ => n - (intOf i).toNat)
      case atStart => exact ⟨decide (V = 0), 0, congrArg Value.bool (by by_cases e : V = 0 <;> simp [e]), rfl, by omega, by omega, metB_nil k r V, But.refl No w3⟩
      case round =>
        obtain ⟨b, i, rfl, rfl, hin, him, HB, HBR⟩ := hrel
        have d8 : wr.cell? ⟨bx, 8, none⟩ = some (.slice A n c) := (HX3.out.but HBR.out (fun f => f)).cell (o := 8) rfl
        by_cases hn : i < n
        · have hn2 : (i : Int) < (n : Int) := by omega
          by_cases hm : i < m
          · have hm2 : (i : Int) < (m : Int) := by omega
            have hi0 : (0 : Int) ≤ (i : Int) := Int.natCast_nonneg i
            obtain ⟨t, ht⟩ : ∃ t, s.ts[i]? = some t := ⟨_, List.getElem?_eq_getElem (by rw [HN.out]; exact hn)⟩
            obtain ⟨ba, oa, A', c', rfl, _, _, _, c3, hcc, hS⟩ := HRW.out.at1 ht
            obtain ⟨bz, oz, rfl, _, cz⟩ := HZW.out.at1 (by rw [HML.out]; exact hm)
            have HS0 := Lib.hid hS
            have HTK := Lib.hid ht
            have hm4 := (right_len HRT.out).2.2.2.2 t (List.mem_of_getElem? ht)
            obtain ⟨m', hm'⟩ : ∃ m', t.secs.length = m' := ⟨_, rfl⟩
            have HM := Lib.hid hm'
            rw [hm'] at c3 hcc HS0 hm4
            have HCR := Lib.hid (cr_is (i := i) (wh := wh) (by rw [HML.out]; exact hm) HOFF.out.1 HOFF.out.2)
            obtain ⟨z, hz⟩ : ∃ z, wh.getD i 0 = z := ⟨_, rfl⟩
            rw [hz] at cz HCR
            have C3 := Lib.hid c3
            have CZ := Lib.hid cz
            have c3 := cell_keep C3.out HBR.out
            have cz := cell_keep CZ.out HBR.out
            clear hS ht hm' hz
            go_wp2_with fail
            clear d8 c3 cz
            go_loopw [11, 13] (fun u j wr => ∃ (b : Bool) (q : Nat), u = .bool b ∧ j = .int .i64 (q : Int) ∧ q ≤ m' ∧ Hid (q = 0 ∨ z = k) ∧ Hid (metB (fl s.co wh s.ts i ++ enS (cr s.co wh i) (t.secs.take q)) k r V = b) ∧ Hid (But No w3 wr)) (fun _ j _ => m' - (intOf j).toNat)
            case atStart => exact ⟨b, 0, rfl, rfl, by omega, .inl rfl, by rw [List.take_zero]; unfold enS; simp only [List.map_nil, ite_self, List.append_nil]; exact HB.out, HBR⟩
            case round =>
              obtain ⟨b', j, rfl, rfl, hj, HJ, HB', HBR'⟩ := hrel
              have d8 : wr.cell? ⟨bx, 8, none⟩ = some (.slice (some ⟨ba, oa, none⟩) n c) := (HX3.out.but HBR'.out (fun f => f)).cell (o := 8) rfl
              have c3 : wr.cell? ⟨ba, oa + i * 4 + 3, none⟩ = some (.slice A' m' c') := cell_keep C3.out HBR'.out
              have cz : wr.cell? ⟨bz, oz + i, none⟩ = some (.int .i64 z) := cell_keep CZ.out HBR'.out
              by_cases hjm : j < m'
              · have hjm2 : (j : Int) < (m' : Int) := by omega
                have hj0 : (0 : Int) ≤ (j : Int) := Int.natCast_nonneg j
                by_cases hzk : z = k
                · have e : k = z := hzk.symm
                  subst e
                  clear hzk
                  have hcr := HCR.out.2 rfl
                  have HCK := Lib.hid hcr
                  obtain ⟨x, hx⟩ : ∃ x, t.secs[j]? = some x := ⟨_, List.getElem?_eq_getElem (by rw [HM.out]; exact hjm)⟩
                  obtain ⟨bb, oo, rfl, e0, e1, e2⟩ := ((HS0.out.no HBR'.out)).at1 hx
                  have HES := Lib.hid (enS_take (c := cr s.co wh i) (by have := HOFF.out; omega) hx)
                  have HGE := Lib.hid (F_ge (wh := wh) HTK.out (by have := HOFF.out; omega) hx)
                  clear hx hcr
                  obtain ⟨x0, x1, x2⟩ := x
                  simp only at e0 e1 e2 HGE HES
                  by_cases hxr : x1 = r
                  · have e : r = x1 := hxr.symm
                    subst e
                    clear hxr
                    have hle : x2 ≤ V := by rw [HV.out, ← HCK.out]; exact HGE.out
                    have hlt : decide (V < x2) = false := by simp; omega
                    clear HGE
                    cases b' with
                    | true =>
                      have HM1 : Hid (metB (fl s.co wh s.ts i ++ enS (cr s.co wh i) (t.secs.take (j + 1))) k r V = true) := Lib.hid (by rw [HES.out, ← List.append_assoc, metB_snoc, HB'.out]; rfl)
                      go_wp2
                      go_roundw
                      case rel => exact ⟨true, j + 1, by simp, by go_num, by omega, (by first | exact .inr trivial | exact .inr rfl | simp), HM1.out, HBR'.out.alloc _⟩
                      case measure => simp [intOf]; omega
                    | false =>
                      by_cases hxv : x2 = V
                      · have hb2 : (x2 == V) = true := by simp [hxv]
                        have HXV := Lib.hid hxv
                        clear hxv hle
                        have HM1 : Hid (metB (fl s.co wh s.ts i ++ enS (cr s.co wh i) (t.secs.take (j + 1))) k r V = true) := Lib.hid (by rw [HES.out, ← List.append_assoc, metB_snoc, HB'.out]; rw [HCK.out, HXV.out]; simp)
                        go_wp2
                        go_roundw
                        case rel => exact ⟨true, j + 1, by simp, by go_num, by omega, (by first | exact .inr trivial | exact .inr rfl | simp), HM1.out, HBR'.out.alloc _⟩
                        case measure => simp [intOf]; omega
                      · have hb2 : (x2 == V) = false := by simp [hxv]
                        have HM1 : Hid (metB (fl s.co wh s.ts i ++ enS (cr s.co wh i) (t.secs.take (j + 1))) k r V = false) := Lib.hid (by rw [HES.out, ← List.append_assoc, metB_snoc, HB'.out]; simp [hxv])
                        go_wp2
                        go_roundw
                        case rel => exact ⟨false, j + 1, by simp, by go_num, by omega, (by first | exact .inr trivial | exact .inr rfl | simp), HM1.out, HBR'.out.alloc _⟩
                        case measure => simp [intOf]; omega
                  · have hb1 : (x1 == r) = false := by simp [hxr]
                    have HXR := Lib.hid hxr
                    clear hxr HGE
                    cases b' with
                    | true =>
                      have HM1 : Hid (metB (fl s.co wh s.ts i ++ enS (cr s.co wh i) (t.secs.take (j + 1))) k r V = true) := Lib.hid (by rw [HES.out, ← List.append_assoc, metB_snoc, HB'.out]; rfl)
                      go_wp2
                      go_roundw
                      case rel => exact ⟨true, j + 1, by simp, by go_num, by omega, (by first | exact .inr trivial | exact .inr rfl | simp), HM1.out, HBR'.out.alloc _⟩
                      case measure => simp [intOf]; omega
                    | false =>
                      have HM1 : Hid (metB (fl s.co wh s.ts i ++ enS (cr s.co wh i) (t.secs.take (j + 1))) k r V = false) := Lib.hid (by rw [HES.out, ← List.append_assoc, metB_snoc, HB'.out]; simp [HXR.out])
                      go_wp2
                      go_roundw
                      case rel => exact ⟨false, j + 1, by simp, by go_num, by omega, (by first | exact .inr trivial | exact .inr rfl | simp), HM1.out, HBR'.out.alloc _⟩
                      case measure => simp [intOf]; omega
                · have hb1 : (z == k) = false := by simp [hzk]
                  have HM1 : Hid (metB (fl s.co wh s.ts (i + 1)) k r V = b') := Lib.hid (by
                    have h1 := HB'.out
                    obtain rfl : j = 0 := by rcases HJ.out with h | h; exact h; exact absurd h hzk
                    rw [List.take_zero] at h1
                    have h0 : enS (cr s.co wh i) [] = [] := by unfold enS; simp
                    rw [h0, List.append_nil] at h1
                    rw [fl_snoc HTK.out, metB_more _ _ _ _ _ (fun x hx => by rw [(enS_mem.1 hx).2.1]; exact fun h => hzk (HCR.out.1 h)), h1])
                  clear HB'
                  go_wp2
                  go_roundw
                  case rel => exact ⟨b', i + 1, rfl, by go_num, by omega, by omega, HM1.out, HBR'.out⟩
                  case measure => simp [intOf]; omega
              · have b3 : decide ((j : Int) < (m' : Int)) = false := by simp; omega
                have HM1 : Hid (metB (fl s.co wh s.ts (i + 1)) k r V = b') := Lib.hid (by
                  have h1 := HB'.out
                  obtain rfl : j = m' := by omega
                  rw [← HM.out, List.take_length] at h1
                  rw [fl_snoc HTK.out, h1])
                clear HB'
                go_wp2
                go_roundw
                case rel => exact ⟨b', i + 1, rfl, by go_num, by omega, by omega, HM1.out, HBR'.out⟩
                case measure => simp [intOf]; omega
          · have hE : Hid (i = m) := Lib.hid (by omega)
            have b2 : decide ((i : Int) < (m : Int)) = false := by simp; omega
            obtain rfl : b = true := by rw [← HB.out, HV.out]; unfold F; rw [HN.out, fl_beyond (i := i) (n := n) (by rw [HML.out]; omega) (by omega)]; exact metB_mx _ k r
            go_wp2
            go_ret
            exact ⟨rfl, HB3.out.trans HBR.out⟩
        · have hE : Hid (i = n) := Lib.hid (by omega)
          have b2 : decide ((i : Int) < (n : Int)) = false := by simp; omega
          obtain rfl : b = true := by rw [← HB.out, hE.out, HV.out]; unfold F; rw [HN.out]; exact metB_mx _ k r
          go_wp2
          go_ret
          exact ⟨rfl, HB3.out.trans HBR.out⟩
end termsLongest
end Go.Proofs.Ytfmhejeeeglmdaa
