/- The contract of the document's Longest. -/
import Derived.Test.YtfmhejeeeglmdaaTeR1
namespace Go.Proofs.Ytfmhejeeeglmdaa.ter
open Go.ChangeShapes Go.WideShapes Go.ChangeAt Go.RowKit Go.Deep ky2 val
theorem mx_more (L M : List Sec) (c r : Int) (h : ∀ x ∈ M, x.1 ≠ c) : mx (L ++ M) c r = mx L c r := by
  induction L with
  | nil => rw [List.nil_append, mx_none h]; rfl
  | cons y L ih => rw [List.cons_append, mx, mx, ih]
theorem mx_next {co : Int} {wh : List Int} (L : List Sec) {i j : Nat} {t : Tsk} {x : Sec} {c r : Int} (hx : t.secs[j]? = some x) (h0 : 0 ≤ c) (h1 : c < co) :
    mx (L ++ enS (cr co wh i) (t.secs.take (j + 1))) c r = if dcr wh i = c ∧ x.2.1 = r then max (mx (L ++ enS (cr co wh i) (t.secs.take j)) c r) x.2.2 else mx (L ++ enS (cr co wh i) (t.secs.take j)) c r := by
  have hd := dcr_is (wh := wh) (i := i) h0 h1
  by_cases e : cr co wh i = -1
  · have hne : dcr wh i ≠ c := fun h => by have := hd.1 h; omega
    rw [e, if_neg (fun h => hne h.1)]
    unfold enS
    rw [if_pos rfl, if_pos rfl]
  · rw [enS_take e hx, ← List.append_assoc, mx_snoc]
    simp only [← hd]
set_option maxRecDepth 100000 in
set_option maxHeartbeats 4000000 in
theorem dlongest_any (s : Sys) (A : Option Addr) (n c : Nat) (B : Option Addr) (m d : Nat) (wh : List Int) (k r : Int) (w : World) (h : RSys w A n c s) (hz : Rd w B m wh) :
    Calls Try.prog 9 #[sysV s A n c, .slice B m d, .int .i64 k, .int .i64 r] w fun e w' => e = .returned (.int .i64 (longV s wh k r)) ∧ But No w w' := by
  have HN := Lib.hid h.ts.len
  have CR : Hid (∀ W, But No w W → Calls Try.prog 21 #[sysV s A n c] W fun e w' => e = .returned (.bool (right s)) ∧ But No W w') := fun W hb => dright_any s A n c W (h.no hb)
  have HR := Lib.hid h.ts
  have HZ := Lib.hid hz
  clear h hz
  cases hrt : right s with
  | false =>
    have HV : Hid (longV s wh k r = 0) := Lib.hid (by unfold longV; rw [if_neg (by rw [hrt]; simp)])
    rw [hrt] at CR
    clear hrt
    unfold sysV at CR ⊢
    go_enter Try.func9, Try.ntmps9
    go_wp2_with (go_at_call 21; refine (CR.out _ ((But.refl No w).alloc _)).mono ?_; rintro e w1 ⟨rfl, hb1⟩; have HB1 := Lib.hid (((But.refl No w).alloc _).trans hb1); have hsy := (Blk.new w (boxS s A n c) 24).but hb1 (fun f => f); have HSY := Lib.hid hsy; obtain ⟨d0, d1, d2, d3, d4, d5, d6, d7, d8⟩ := sys_cells hsy; clear hb1 hsy)
    go_ret
    exact ⟨ret1 HV.out.symm, HB1.out⟩
  | true =>
    have hln := right_len hrt
    have hco := hln.1
    have hn24 := hln.2.2.2.1
    rw [HN.out] at hn24
    have HRT := Lib.hid hrt
    rw [hrt] at CR
    clear hln
    rcases (show k < 0 ∨ (0 ≤ k ∧ s.co ≤ k) ∨ (0 ≤ k ∧ k < s.co) by omega) with hk | ⟨hk0, hk⟩ | ⟨hk0, hk1⟩
    · have HV : Hid (longV s wh k r = 0) := Lib.hid (longV_off (.inl hk))
      have b0 : decide (k < 0) = true := by simp [hk]
      clear hrt
      unfold sysV at CR ⊢
      go_enter Try.func9, Try.ntmps9
      go_wp2_with (go_at_call 21; refine (CR.out _ ((But.refl No w).alloc _)).mono ?_; rintro e w1 ⟨rfl, hb1⟩; have HB1 := Lib.hid (((But.refl No w).alloc _).trans hb1); have hsy := (Blk.new w (boxS s A n c) 24).but hb1 (fun f => f); have HSY := Lib.hid hsy; obtain ⟨d0, d1, d2, d3, d4, d5, d6, d7, d8⟩ := sys_cells hsy; clear hb1 hsy)
      go_ret
      exact ⟨ret1 HV.out.symm, HB1.out⟩
    · have HV : Hid (longV s wh k r = 0) := Lib.hid (longV_off (.inr hk))
      have b0 : decide (k < 0) = false := by simp; omega
      have b1 : decide (s.co ≤ k) = true := by simp [hk]
      clear hrt
      unfold sysV at CR ⊢
      go_enter Try.func9, Try.ntmps9
      go_wp2_with (go_at_call 21; refine (CR.out _ ((But.refl No w).alloc _)).mono ?_; rintro e w1 ⟨rfl, hb1⟩; have HB1 := Lib.hid (((But.refl No w).alloc _).trans hb1); have hsy := (Blk.new w (boxS s A n c) 24).but hb1 (fun f => f); have HSY := Lib.hid hsy; obtain ⟨d0, d1, d2, d3, d4, d5, d6, d7, d8⟩ := sys_cells hsy; clear hb1 hsy)
      go_ret
      exact ⟨ret1 HV.out.symm, HB1.out⟩
    · have HV : Hid (longV s wh k r = mx (fl s.co wh s.ts n) k r) := Lib.hid (by unfold longV F; rw [if_pos hrt, HN.out])
      have b0 : decide (k < 0) = false := by simp; omega
      have b1 : decide (s.co ≤ k) = false := by simp; omega
      clear hrt
      unfold sysV at CR ⊢
      go_enter Try.func9, Try.ntmps9
      go_upto_region 5 with (go_at_call 21; refine (CR.out _ ((But.refl No w).alloc _)).mono ?_; rintro e w1 ⟨rfl, hb1⟩; have HB1 := Lib.hid (((But.refl No w).alloc _).trans hb1); have hsy := (Blk.new w (boxS s A n c) 24).but hb1 (fun f => f); have HSY := Lib.hid hsy; obtain ⟨d0, d1, d2, d3, d4, d5, d6, d7, d8⟩ := sys_cells hsy; clear hb1 hsy)
      generalize w.heap.size = bx at HSY d0 d1 d2 d3 d4 d5 d6 d7 d8 ⊢
      have HRW := Lib.hid (HR.out.no HB1.out)
      have HZW := Lib.hid (HZ.out.no HB1.out)
      clear d0 d1 d2 d3 d4 d5 d6 d7 d8 CR HR HZ
      go_wp2_with fail
      go_loopw [10, 11] (fun u i wr => ∃ q : Nat, u = .int .i64 (mx (fl s.co wh s.ts q) k r) ∧ i = .int .i64 (q : Int) ∧ q ≤ n ∧ Hid (But No w1 wr)) (fun _ i _ => n - (intOf i).toNat)
      case atStart => exact ⟨0, rfl, rfl, by omega, But.refl No w1⟩
      case round =>
        obtain ⟨i, rfl, rfl, hi, HBO⟩ := hrel
        have d8 : wr.cell? ⟨bx, 8, none⟩ = some (.slice A n c) := (HSY.out.but HBO.out (fun f => f)).cell (o := 8) rfl
        by_cases hin : i < n
        · have hin2 : (i : Int) < (n : Int) := by omega
          have hi0 : (0 : Int) ≤ (i : Int) := Int.natCast_nonneg i
          obtain ⟨t, ht⟩ : ∃ t, s.ts[i]? = some t := ⟨_, List.getElem?_eq_getElem (by rw [HN.out]; exact hin)⟩
          obtain ⟨ba, oa, A', c', rfl, _, _, _, c3, hcc, hS⟩ := HRW.out.at1 ht
          have HS := Lib.hid hS
          have HTK := Lib.hid ht
          have C3 := Lib.hid c3
          have HFS := Lib.hid (fl_snoc (co := s.co) (wh := wh) ht)
          have hm4 := (right_len HRT.out).2.2.2.2 t (List.mem_of_getElem? ht)
          obtain ⟨m', hm'⟩ : ∃ m', t.secs.length = m' := ⟨_, rfl⟩
          have HM := Lib.hid hm'
          rw [hm'] at c3 hcc HS hm4 C3
          have CD : Hid (∀ W, But No w1 W → Calls Try.prog 22 #[.slice B m d, .int .i64 i] W fun e w' => e = .returned (.int .i64 (dcr wh i)) ∧ w' = W) := fun W hb => dcore_any B m d wh i W (HZW.out.no hb)
          have c3 := cell_keep c3 HBO.out
          clear hS ht hm'
          go_wp2_with fail
          clear d8 c3
          go_loopw [10, 12] (fun u j wr => ∃ q : Nat, u = .int .i64 (mx (fl s.co wh s.ts i ++ enS (cr s.co wh i) (t.secs.take q)) k r) ∧ j = .int .i64 (q : Int) ∧ q ≤ m' ∧ Hid (But No w1 wr)) (fun _ j _ => m' - (intOf j).toNat)
          case atStart => exact ⟨0, by rw [List.take_zero]; unfold enS; simp only [List.map_nil, ite_self, List.append_nil], rfl, by omega, HBO⟩
          case round =>
            obtain ⟨j, rfl, rfl, hj, HBR⟩ := hrel
            have d8 : wr.cell? ⟨bx, 8, none⟩ = some (.slice (some ⟨ba, oa, none⟩) n c) := (HSY.out.but HBR.out (fun f => f)).cell (o := 8) rfl
            have c3 := cell_keep C3.out HBR.out
            by_cases hjm : j < m'
            · have hjm2 : (j : Int) < (m' : Int) := by omega
              have hj0 : (0 : Int) ≤ (j : Int) := Int.natCast_nonneg j
              obtain ⟨x, hx⟩ : ∃ x, t.secs[j]? = some x := ⟨_, List.getElem?_eq_getElem (by rw [HM.out]; exact hjm)⟩
              obtain ⟨bb, oo, rfl, e0, e1, e2⟩ := (HS.out.no HBR.out).at1 hx
              have HMX := Lib.hid (mx_next (wh := wh) (i := i) (r := r) (fl s.co wh s.ts i) hx hk0 hk1)
              obtain ⟨M, hM⟩ : ∃ M, mx (fl s.co wh s.ts i ++ enS (cr s.co wh i) (t.secs.take j)) k r = M := ⟨_, rfl⟩
              rw [hM] at HMX ⊢
              clear hx hM
              obtain ⟨x0, x1, x2⟩ := x
              simp only at e0 e1 e2 HMX
              generalize dcr wh i = dc at CD HMX
              by_cases hdc : dc = k
              · have q1 : (dc == k) = true := by simp [hdc]
                by_cases hxr : x1 = r
                · have q2 : (x1 == r) = true := by simp [hxr]
                  rw [if_pos ⟨hdc, hxr⟩] at HMX
                  clear hdc hxr
                  go_wp2_with (go_at_call 22; (with_reducible refine (CD.out _ (HBR.out.alloc _)).mono ?_); rintro e wC ⟨rfl, rfl⟩)
                  go_roundw
                  case rel => exact ⟨j + 1, by rw [HMX.out]; congr 1; split <;> omega, by go_num, by omega, HBR.out.alloc _⟩
                  case measure => simp [intOf]; omega
                · have q2 : (x1 == r) = false := by simp [hxr]
                  rw [if_neg (fun h => hxr h.2)] at HMX
                  clear hdc hxr
                  go_wp2_with (go_at_call 22; (with_reducible refine (CD.out _ (HBR.out.alloc _)).mono ?_); rintro e wC ⟨rfl, rfl⟩)
                  go_roundw
                  case rel => exact ⟨j + 1, by rw [HMX.out], by go_num, by omega, HBR.out.alloc _⟩
                  case measure => simp [intOf]; omega
              · have q1 : (dc == k) = false := by simp [hdc]
                rw [if_neg (fun h => hdc h.1)] at HMX
                clear hdc
                go_wp2_with (go_at_call 22; (with_reducible refine (CD.out _ (HBR.out.alloc _)).mono ?_); rintro e wC ⟨rfl, rfl⟩)
                go_roundw
                case rel => exact ⟨j + 1, by rw [HMX.out], by go_num, by omega, HBR.out.alloc _⟩
                case measure => simp [intOf]; omega
            · have b3 : decide ((j : Int) < (m' : Int)) = false := by simp; omega
              have HJ : Hid (mx (fl s.co wh s.ts i ++ enS (cr s.co wh i) (t.secs.take j)) k r = mx (fl s.co wh s.ts (i + 1)) k r) := Lib.hid (by rw [HFS.out, show j = t.secs.length by rw [HM.out]; omega, List.take_length])
              rw [HJ.out]
              go_wp2
              go_roundw
              case rel => exact ⟨i + 1, rfl, by go_num, by omega, HBR⟩
              case measure => simp [intOf]; omega
        · have HI : Hid (i = n) := Lib.hid (by omega)
          have b3 : decide ((i : Int) < (n : Int)) = false := by simp; omega
          go_wp2
          go_ret
          exact ⟨ret1 (by rw [HV.out, HI.out]), HB1.out.trans HBO.out⟩
end Go.Proofs.Ytfmhejeeeglmdaa.ter
