/- The walk of DemandMeets. -/
import Derived.Test.YtfpcnilcbaiojaaDeE
namespace Go.Proofs.Ytfpcnilcbaiojaa
open Go.ChangeShapes Go.WideShapes Go.ChangeAt Go.RowKit Go.Deep dem
namespace demandMeets
set_option maxRecDepth 100000 in
set_option maxHeartbeats 8000000 in
theorem walk (A : Option Addr) (n c : Nat) (l : List Wk) (_ : n ≤ c) (_ : n * 32 ≤ 140737488351232) (bl : Int) (hb : (Lit.int .i64 bl).wf = true) (rl : Int) (hr : (Lit.int .i64 rl).wf = true) (t : Int) (ht : (Lit.int .i64 t).wf = true) (w : World) (h : RWk w A n l) :
    Calls Try.prog 5 #[.slice A n c, .int .i64 bl, .int .i64 rl, .int .i64 t] w fun e w' => e = .returned (.bool true) ∧ But No w w' := by
  have HN := Lib.hid h.len
  have HL := Lib.hid h
  have htr := inR_of ht
  have CX : Hid (∀ W, Calls Try.prog 10 #[] W fun e w' => e = .returned (.bool true) ∧ But No W w') := examples_ok
  have CT : Hid (∀ W, But No w W → Calls Try.prog 16 #[.slice A n c, .int .i64 bl, .int .i64 rl] W fun e w' => e = .returned (.int .i64 (testV l bl rl)) ∧ But No W w') := fun W hw => test_any A n c l bl rl W (h.no hw) (inR_of hb) (inR_of hr)
  have CB : Hid (∀ W, But No w W → Calls Try.prog 14 #[.slice A n c, .int .i64 bl, .int .i64 rl] W fun e w' => e = .returned (.tuple #[.int .i64 (busyP l bl rl).1, .int .i64 (busyP l bl rl).2]) ∧ But No W w') := fun W hw => busy_any A n c l bl rl W (h.no hw) (inR_of hb) (inR_of hr)
  have CA : Hid (∀ t, inR t → ∀ W, But No w W → Calls Try.prog 11 #[.slice A n c, .int .i64 bl, .int .i64 rl, .int .i64 t] W fun e w' => e = .returned (.tuple #[.int .i64 (askV l bl rl t), .int .i64 (askE l bl rl t)]) ∧ But No W w') := fun t ht W hw => ask_any A n c l bl rl t W (h.no hw) (inR_of hb) (inR_of hr) ht
  unfold inR at htr
  clear h hb hr ht
  by_cases htest : testV l bl rl = 0
  · have HT := Lib.hid (test_ok htest)
    have hn72' : n ≤ 72 := by have := (right_iff.1 HT.out.1).1; have := HN.out; omega
    have HME := Lib.hid (fun h0 => meets htest h0)
    have hlb := least_bd HT.out.1
    have HLB := Lib.hid hlb
    rw [htest] at CT
    clear htest hlb
    go_enter Try.func5, Try.ntmps5
    go_upto_region 5 with (first | (go_at_call 10; (with_reducible refine (CX.out _).mono ?_); rintro e w0 ⟨rfl, h1⟩; have H1 := Lib.hid h1; clear h1) | (go_at_call 16; (with_reducible refine (CT.out _ H1.out).mono ?_); rintro e w1 ⟨rfl, h2⟩; have H2 := Lib.hid (H1.out.trans h2); clear h2))
    have HLW := Lib.hid (HL.out.no H2.out)
    clear HL CT H1
    go_wp2_with fail
    go_loopw [10, 11] (fun u i wr => ∃ q : Nat, u = .int .i64 (lsN l q) ∧ i = .int .i64 (q : Int) ∧ q ≤ n ∧ Hid (wr = w1)) (fun _ i _ => n - (intOf i).toNat)
    case atStart => exact ⟨0, rfl, rfl, by omega, rfl⟩
    case round =>
      obtain ⟨i, rfl, rfl, hi, HW⟩ := hrel
      obtain rfl := HW.out
      clear HW
      by_cases hin : i < n
      · have hin2 : (i : Int) < (n : Int) := by omega
        have hi0 : (0 : Int) ≤ (i : Int) := Int.natCast_nonneg i
        obtain ⟨x, hx⟩ : ∃ x, l[i]? = some x := ⟨_, List.getElem?_eq_getElem (by rw [HN.out]; exact hin)⟩
        obtain ⟨b, off, rfl, _, e0, e1, e2, e3⟩ := HLW.out.at1 hx
        have NX := Lib.hid (lsN_next hx)
        clear hx
        obtain ⟨x0, x1, x2, x3⟩ := x
        dsimp only at e0 e1 e2 e3 NX
        obtain ⟨L, hL⟩ : ∃ L, lsN l i = L := ⟨_, rfl⟩
        rw [hL] at NX ⊢
        clear hL
        cases x3 with
        | true =>
          rw [if_neg (fun h => by simp at h)] at NX
          go_wp2
          go_roundw
          case rel => exact ⟨i + 1, by rw [NX.out], by go_num, by omega, by first | exact rfl | exact trivial⟩
          case measure => simp [intOf]; omega
        | false =>
          by_cases hL0 : L = 0
          · have q1 : (L == 0) = true := by simp [hL0]
            rw [if_pos ⟨rfl, .inl hL0⟩] at NX
            clear hL0
            go_wp2
            go_roundw
            case rel => exact ⟨i + 1, by rw [NX.out], by go_num, by omega, by first | exact rfl | exact trivial⟩
            case measure => simp [intOf]; omega
          · have q1 : (L == 0) = false := by simp [hL0]
            by_cases hd : x2 < L
            · have q2 : decide (x2 < L) = true := by simp [hd]
              rw [if_pos ⟨rfl, .inr hd⟩] at NX
              clear hL0
              go_wp2
              go_roundw
              case rel => exact ⟨i + 1, by rw [NX.out], by go_num, by omega, by first | exact rfl | exact trivial⟩
              case measure => simp [intOf]; omega
            · have q2 : decide (x2 < L) = false := by simp; omega
              rw [if_neg (fun h => h.2.elim hL0 hd)] at NX
              clear hL0
              go_wp2
              go_roundw
              case rel => exact ⟨i + 1, by rw [NX.out], by go_num, by omega, by first | exact rfl | exact trivial⟩
              case measure => simp [intOf]; omega
      · have HI : Hid (i = n) := Lib.hid (by omega)
        have b3 : decide ((i : Int) < (n : Int)) = false := by simp; omega
        have HLS : Hid (lsN l i = least l) := Lib.hid (by rw [HI.out]; unfold least; rw [HN.out])
        have hlb := HLB.out
        rw [HLS.out]
        obtain ⟨L, hL⟩ : ∃ L, least l = L := ⟨_, rfl⟩
        rw [hL] at hlb HME ⊢
        clear hL
        by_cases hL0 : L = 0
        · have q1 : (L == 0) = true := by simp [hL0]
          clear hL0 hlb
          go_wp2
          go_ret
          exact ⟨rfl, H2.out⟩
        · have q1 : (L == 0) = false := by simp [hL0]
          obtain ⟨hbe, hb1, hM⟩ := HME.out hL0
          have hble := (busyP_le hbe).2
          have HM := Lib.hid hM
          rw [hbe] at CB
          generalize (busyP l bl rl).1 = m at CB hb1 hble HM
          have b4 : decide (m < 1) = false := by simp; omega
          clear hL0 hlb hbe hM HME
          obtain ⟨w9, rfl⟩ : ∃ w9, w9 = wr := ⟨_, rfl⟩
          by_cases htn : t < 0
          · have b5 : decide (t < 0) = true := by simp [htn]
            have hT0 : 0 ≤ -(t + 1) := by omega
            have e1 : (-(t + 1)).tmod m = (-(t + 1)) % m := Int.tmod_eq_emod_of_nonneg hT0
            have e2 := Int.emod_nonneg (-(t + 1)) (show m ≠ 0 by omega)
            have e3 := Int.emod_lt_of_pos (-(t + 1)) (show 0 < m by omega)
            obtain ⟨r, hr9⟩ : ∃ r, (-(t + 1)) % m = r := ⟨_, rfl⟩
            rw [hr9] at e1 e2 e3
            have hm0 : m ≠ 0 := by omega
            obtain ⟨z1, z2⟩ := HM.out (1 + r) (by omega) (by omega)
            have CAr := Lib.hid (CA.out (1 + r) (by unfold inR; omega))
            rw [z1] at CAr
            generalize askV l bl rl (1 + r) = av at CAr z2
            clear hr9
            by_cases hz : 1 + r < L
            · have b6 : decide (1 + r < L) = true := by simp [hz]
              go_wp2_with (first | (go_at_call 14; (with_reducible refine (CB.out _ H2.out).mono ?_); rintro e w3 ⟨rfl, h3⟩; have H3 := Lib.hid (H2.out.trans h3); clear h3) | (go_at_call 11; (with_reducible refine (CAr.out _ H3.out).mono ?_); rintro e w4 ⟨rfl, h4⟩; have H4 := Lib.hid (H3.out.trans h4); clear h4))
              go_ret
              exact ⟨rfl, H4.out⟩
            · have b6 : decide (1 + r < L) = false := by simp; omega
              have b7 : decide (av ≤ 1 + r) = true := by simp; omega
              go_wp2_with (first | (go_at_call 14; (with_reducible refine (CB.out _ H2.out).mono ?_); rintro e w3 ⟨rfl, h3⟩; have H3 := Lib.hid (H2.out.trans h3); clear h3) | (go_at_call 11; (with_reducible refine (CAr.out _ H3.out).mono ?_); rintro e w4 ⟨rfl, h4⟩; have H4 := Lib.hid (H3.out.trans h4); clear h4))
              go_ret
              exact ⟨rfl, H4.out⟩
          · have b5 : decide (t < 0) = false := by simp; omega
            have hT0 : 0 ≤ t := by omega
            have e1 : (t).tmod m = (t) % m := Int.tmod_eq_emod_of_nonneg hT0
            have e2 := Int.emod_nonneg (t) (show m ≠ 0 by omega)
            have e3 := Int.emod_lt_of_pos (t) (show 0 < m by omega)
            obtain ⟨r, hr9⟩ : ∃ r, (t) % m = r := ⟨_, rfl⟩
            rw [hr9] at e1 e2 e3
            have hm0 : m ≠ 0 := by omega
            obtain ⟨z1, z2⟩ := HM.out (1 + r) (by omega) (by omega)
            have CAr := Lib.hid (CA.out (1 + r) (by unfold inR; omega))
            rw [z1] at CAr
            generalize askV l bl rl (1 + r) = av at CAr z2
            clear hr9
            by_cases hz : 1 + r < L
            · have b6 : decide (1 + r < L) = true := by simp [hz]
              go_wp2_with (first | (go_at_call 14; (with_reducible refine (CB.out _ H2.out).mono ?_); rintro e w3 ⟨rfl, h3⟩; have H3 := Lib.hid (H2.out.trans h3); clear h3) | (go_at_call 11; (with_reducible refine (CAr.out _ H3.out).mono ?_); rintro e w4 ⟨rfl, h4⟩; have H4 := Lib.hid (H3.out.trans h4); clear h4))
              go_ret
              exact ⟨rfl, H4.out⟩
            · have b6 : decide (1 + r < L) = false := by simp; omega
              have b7 : decide (av ≤ 1 + r) = true := by simp; omega
              go_wp2_with (first | (go_at_call 14; (with_reducible refine (CB.out _ H2.out).mono ?_); rintro e w3 ⟨rfl, h3⟩; have H3 := Lib.hid (H2.out.trans h3); clear h3) | (go_at_call 11; (with_reducible refine (CAr.out _ H3.out).mono ?_); rintro e w4 ⟨rfl, h4⟩; have H4 := Lib.hid (H3.out.trans h4); clear h4))
              go_ret
              exact ⟨rfl, H4.out⟩
  · have b1 : (testV l bl rl != 0) = true := by simp [htest]
    generalize testV l bl rl = tv at CT b1
    clear htest
    go_enter Try.func5, Try.ntmps5
    go_wp2_with (first | (go_at_call 10; (with_reducible refine (CX.out _).mono ?_); rintro e w0 ⟨rfl, h1⟩; have H1 := Lib.hid h1; clear h1) | (go_at_call 16; (with_reducible refine (CT.out _ H1.out).mono ?_); rintro e w1 ⟨rfl, h2⟩; have H2 := Lib.hid (H1.out.trans h2); clear h2))
    go_ret
    exact ⟨rfl, H2.out⟩
end demandMeets
end Go.Proofs.Ytfpcnilcbaiojaa
