/- The contract of the document's Test (chapter 15). -/
import Derived.Test.YtfpcnilcbaiojaaDeR5
namespace Go.Proofs.Ytfpcnilcbaiojaa.dem
open Go.ChangeShapes Go.WideShapes Go.ChangeAt Go.RowKit Go.Deep
theorem busyP_le {l : List Wk} {bl rl : Int} (h : (busyP l bl rl).2 = 0) : 1 ≤ (busyP l bl rl).1 ∧ (busyP l bl rl).1 ≤ 9223372036854775807 := by
  unfold busyP at h ⊢
  by_cases hr : right l bl rl = true
  · rw [if_pos hr] at h ⊢
    by_cases hm : 4294967296 < ldS rl l
    · rw [if_pos hm] at h; cases h
    · rw [if_neg hm] at h ⊢
      exact busy_fst l bl rl 5000 1 (by omega) (by omega) h
  · rw [if_neg hr] at h; cases h
theorem lsN_next {l : List Wk} {i : Nat} {x : Wk} (h : l[i]? = some x) : lsN l (i + 1) = if x.top = false ∧ (lsN l i = 0 ∨ x.d < lsN l i) then x.d else lsN l i := by
  rw [lsN, getD_some h]
set_option maxRecDepth 100000 in
set_option maxHeartbeats 8000000 in
theorem rtest_any (A : Option Addr) (n c : Nat) (l : List Wk) (bl rl : Int) (w : World) (h : RWk w A n l) : Calls Try.prog 17 #[.slice A n c, .int .i64 bl, .int .i64 rl] w fun e w' => e = .returned (.int .i64 (testV l bl rl)) ∧ But No w w' := by
  have HN := Lib.hid h.len
  have HL := Lib.hid h
  have CR : Hid (∀ W, But No w W → Calls Try.prog 22 #[.slice A n c, .int .i64 bl, .int .i64 rl] W fun e w' => e = .returned (.bool (right l bl rl)) ∧ But No W w') := fun W hb => rright_any A n c l bl rl W (h.no hb)
  have CB : Hid (∀ W, But No w W → Calls Try.prog 15 #[.slice A n c, .int .i64 bl, .int .i64 rl] W fun e w' => e = .returned (.tuple #[.int .i64 (busyP l bl rl).1, .int .i64 (busyP l bl rl).2]) ∧ But No W w') := fun W hb => rbusy_any A n c l bl rl W (h.no hb)
  have CA : Hid (∀ t W, t ≤ 9223372036854775807 → But No w W → Calls Try.prog 12 #[.slice A n c, .int .i64 bl, .int .i64 rl, .int .i64 t] W fun e w' => e = .returned (.tuple #[.int .i64 (askV l bl rl t), .int .i64 (askE l bl rl t)]) ∧ But No W w') := fun t W ht hb => rask_any A n c l bl rl t W (h.no hb) ht
  clear h
  cases hrt : right l bl rl with
  | false =>
    have HE : Hid (testV l bl rl = 1) := Lib.hid (by unfold testV; rw [hrt, if_neg (by simp)])
    rw [hrt] at CR
    clear hrt
    go_enter Try.func17, Try.ntmps17
    go_wp2_with (go_at_call 22; (with_reducible refine (CR.out _ (But.refl No w)).mono ?_); rintro e w1 ⟨rfl, hb1⟩; have HB1 := Lib.hid hb1; clear hb1)
    go_ret
    exact ⟨ret1 HE.out.symm, HB1.out⟩
  | true =>
    have HRT := Lib.hid hrt
    obtain ⟨hn72, _, _, hok⟩ := right_iff.1 hrt
    have hn72' : n ≤ 72 := by have := HN.out; omega
    have HOK := Lib.hid hok
    rw [hrt] at CR
    clear hrt hok hn72
    go_enter Try.func17, Try.ntmps17
    go_upto_region 5 with (go_at_call 22; (with_reducible refine (CR.out _ (But.refl No w)).mono ?_); rintro e w1 ⟨rfl, hb1⟩; have HB1 := Lib.hid hb1; clear hb1)
    have HLW := Lib.hid (HL.out.no HB1.out)
    clear HL CR
    go_wp2_with fail
    go_loopw [8, 9] (fun u i wr => ∃ q : Nat, u = .int .i64 (lsN l q) ∧ i = .int .i64 (q : Int) ∧ q ≤ n ∧ Hid (wr = w1)) (fun _ i _ => n - (intOf i).toNat)
    case atStart => exact ⟨0, rfl, rfl, by omega, rfl⟩
    case round =>
      obtain ⟨i, rfl, rfl, hi, HW⟩ := hrel
      obtain rfl := HW.out
      clear HW
      by_cases hin : i < n
      · have hin2 : (i : Int) < (n : Int) := by omega
        have hi0 : (0 : Int) ≤ (i : Int) := Int.natCast_nonneg i
        obtain ⟨x, hx⟩ : ∃ x, l[i]? = some x := ⟨_, List.getElem?_eq_getElem (by rw [HN.out]; exact hin)⟩
        obtain ⟨b, off, rfl, _, e0, e1, e2, e3⟩ := HLW.out.at1 hx
        have NX := Lib.hid (lsN_next hx)
        clear hx
        obtain ⟨x0, x1, x2, x3⟩ := x
        dsimp only at e0 e1 e2 e3 NX
        obtain ⟨L, hL⟩ : ∃ L, lsN l i = L := ⟨_, rfl⟩
        rw [hL] at NX ⊢
        clear hL
        cases x3 with
        | true =>
          rw [if_neg (fun h => by simp at h)] at NX
          go_wp2
          go_roundw
          case rel => exact ⟨i + 1, by rw [NX.out], by go_num, by omega, by first | exact rfl | exact trivial⟩
          case measure => simp [intOf]; omega
        | false =>
          by_cases hL0 : L = 0
          · have q1 : (L == 0) = true := by simp [hL0]
            rw [if_pos ⟨rfl, .inl hL0⟩] at NX
            clear hL0
            go_wp2
            go_roundw
            case rel => exact ⟨i + 1, by rw [NX.out], by go_num, by omega, by first | exact rfl | exact trivial⟩
            case measure => simp [intOf]; omega
          · have q1 : (L == 0) = false := by simp [hL0]
            by_cases hd : x2 < L
            · have q2 : decide (x2 < L) = true := by simp [hd]
              rw [if_pos ⟨rfl, .inr hd⟩] at NX
              clear hL0
              go_wp2
              go_roundw
              case rel => exact ⟨i + 1, by rw [NX.out], by go_num, by omega, by first | exact rfl | exact trivial⟩
              case measure => simp [intOf]; omega
            · have q2 : decide (x2 < L) = false := by simp; omega
              rw [if_neg (fun h => h.2.elim hL0 hd)] at NX
              clear hL0
              go_wp2
              go_roundw
              case rel => exact ⟨i + 1, by rw [NX.out], by go_num, by omega, by first | exact rfl | exact trivial⟩
              case measure => simp [intOf]; omega
      · have HI : Hid (i = n) := Lib.hid (by omega)
        have b3 : decide ((i : Int) < (n : Int)) = false := by simp; omega
        have HLS : Hid (lsN l i = least l) := Lib.hid (by rw [HI.out]; unfold least; rw [HN.out])
        have hlb := least_bd HRT.out
        rw [HLS.out]
        obtain ⟨L, hL⟩ : ∃ L, least l = L := ⟨_, rfl⟩
        have HLL := Lib.hid hL
        rw [hL] at hlb ⊢
        clear hL
        by_cases hL0 : L = 0
        · have HE : Hid (testV l bl rl = 0) := Lib.hid (by unfold testV; rw [HRT.out, if_pos rfl, HLL.out, if_pos hL0])
          have q1 : (L == 0) = true := by simp [hL0]
          clear hL0 hlb
          go_wp2
          go_ret
          exact ⟨ret1 HE.out.symm, HB1.out⟩
        · have q1 : (L == 0) = false := by simp [hL0]
          have hL1 : 1 ≤ L := by omega
          have HE : Hid (testV l bl rl = if (busyP l bl rl).2 ≠ 0 then (busyP l bl rl).2 else testGo l bl rl L 5000 (busyP l bl rl).1) := Lib.hid (by unfold testV; rw [HRT.out, if_pos rfl, HLL.out, if_neg hL0])
          have HBL := Lib.hid (fun h => busyP_le (l := l) (bl := bl) (rl := rl) h)
          generalize (busyP l bl rl).1 = t0 at CB HE HBL
          generalize (busyP l bl rl).2 = e0 at CB HE HBL
          clear hL0 hlb
          obtain ⟨w9, rfl⟩ : ∃ w9, w9 = wr := ⟨_, rfl⟩
          by_cases he : e0 = 0
          · have q2 : (e0 != 0) = false := by simp [he]
            obtain ⟨ht1, ht2⟩ := HBL.out he
            rw [if_neg (by simp [he])] at HE
            have HE0 := Lib.hid he
            clear he HBL
            go_upto_region 15 with (go_at_call 15; (with_reducible refine (CB.out _ HB1.out).mono ?_); rintro e w2 ⟨rfl, hb2⟩; have HB2 := Lib.hid (HB1.out.trans hb2); clear hb2)
            go_wp2_with fail
            go_loopw [10, 12] (fun m s wr => ∃ (mv : Int) (q : Nat), m = .int .i64 mv ∧ s = .int .i64 (q : Int) ∧ q ≤ 5000 ∧ 0 ≤ mv ∧ mv ≤ 9223372036854775807 ∧ Hid (testGo l bl rl L (5000 - q) mv = testV l bl rl) ∧ Hid (But No w wr)) (fun _ s _ => 5000 - (intOf s).toNat)
            case atStart => exact ⟨t0, 0, rfl, rfl, by omega, by omega, by omega, HE.out.symm, HB2⟩
            case round =>
              obtain ⟨m, q, rfl, rfl, hq, hm1, hm2, HG, HBR⟩ := hrel
              by_cases hq5 : q < 5000
              · have hq5' : (q : Int) < 5000 := by omega
                have HG' : Hid ((if m < L then 0 else if askE l bl rl m ≠ 0 then askE l bl rl m else if m < askV l bl rl m then 12 else if askV l bl rl m < m then testGo l bl rl L (5000 - (q + 1)) (askV l bl rl m) else testGo l bl rl L (5000 - (q + 1)) (m - 1)) = testV l bl rl) := Lib.hid (by
                  have h9 := HG.out
                  rw [show 5000 - q = (5000 - (q + 1)) + 1 by omega, testGo] at h9
                  exact h9)
                clear HG
                by_cases hml : m < L
                · have b5 : decide (m < L) = true := by simp [hml]
                  rw [if_pos hml] at HG'
                  go_wp2
                  go_ret
                  exact ⟨ret1 HG'.out, HBR.out⟩
                · have b5 : decide (m < L) = false := by simp; omega
                  rw [if_neg hml] at HG'
                  have CAm := Lib.hid (CA.out m wr hm2 HBR.out)
                  have hav : askE l bl rl m = 0 → 0 ≤ askV l bl rl m ∧ askV l bl rl m ≤ 9223372036854775807 := fun h => ask_in h
                  generalize askV l bl rl m = av at CAm HG' hav
                  generalize askE l bl rl m = ae at CAm HG' hav
                  by_cases hae : ae = 0
                  · obtain ⟨hav0, hav1⟩ := hav hae
                    have b6 : (ae != 0) = false := by simp [hae]
                    rw [if_neg (by simp [hae])] at HG'
                    clear hav hae
                    by_cases hgt : m < av
                    · have b7 : decide (m < av) = true := by simp [hgt]
                      rw [if_pos hgt] at HG'
                      go_wp2_with (go_at_call 12; (with_reducible refine CAm.out.mono ?_); rintro e w5 ⟨rfl, hb5⟩; have HB5 := Lib.hid (HBR.out.trans hb5); clear hb5)
                      go_ret
                      exact ⟨ret1 HG'.out, HB5.out⟩
                    · have b7 : decide (m < av) = false := by simp; omega
                      rw [if_neg hgt] at HG'
                      by_cases hlt : av < m
                      · have b8 : decide (av < m) = true := by simp [hlt]
                        rw [if_pos hlt] at HG'
                        go_wp2_with (go_at_call 12; (with_reducible refine CAm.out.mono ?_); rintro e w5 ⟨rfl, hb5⟩; have HB5 := Lib.hid (HBR.out.trans hb5); clear hb5)
                        go_roundw
                        case rel => exact ⟨av, q + 1, rfl, by go_num, by omega, by omega, by omega, HG', HB5⟩
                        case measure => simp [intOf]; omega
                      · have b8 : decide (av < m) = false := by simp; omega
                        rw [if_neg hlt] at HG'
                        go_wp2_with (go_at_call 12; (with_reducible refine CAm.out.mono ?_); rintro e w5 ⟨rfl, hb5⟩; have HB5 := Lib.hid (HBR.out.trans hb5); clear hb5)
                        go_roundw
                        case rel => exact ⟨m - 1, q + 1, by go_num, by go_num, by omega, by omega, by omega, HG', HB5⟩
                        case measure => simp [intOf]; omega
                  · have b6 : (ae != 0) = true := by simp [hae]
                    rw [if_pos hae] at HG'
                    clear hav hae
                    go_wp2_with (go_at_call 12; (with_reducible refine CAm.out.mono ?_); rintro e w5 ⟨rfl, hb5⟩; have HB5 := Lib.hid (HBR.out.trans hb5); clear hb5)
                    go_ret
                    exact ⟨ret1 HG'.out, HB5.out⟩
              · have HE2 : Hid (testV l bl rl = 11) := Lib.hid (by rw [← HG.out, show 5000 - q = 0 by omega]; rfl)
                have b6 : decide ((q : Int) < 5000) = false := by simp; omega
                clear HG
                go_wp2
                go_ret
                exact ⟨ret1 HE2.out.symm, HBR.out⟩
          · have q2 : (e0 != 0) = true := by simp [he]
            rw [if_pos he] at HE
            clear he HBL
            go_wp2_with (go_at_call 15; (with_reducible refine (CB.out _ HB1.out).mono ?_); rintro e w2 ⟨rfl, hb2⟩; have HB2 := Lib.hid (HB1.out.trans hb2); clear hb2)
            go_ret
            exact ⟨ret1 HE.out.symm, HB2.out⟩
end Go.Proofs.Ytfpcnilcbaiojaa.dem
