/- The contract of the document's comes (chapter 15). -/
import Derived.Test.YtfpcnilcbaiojaaDeR2
import Derived.Test.YtfpcnilcbaiojaaDeS
namespace Go.Proofs.Ytfpcnilcbaiojaa.dem
open Go.ChangeShapes Go.WideShapes Go.ChangeAt Go.RowKit Go.Deep
def comV (l : List Wk) (bl rl n : Int) : Int := if comO l bl rl n = true then 0 else comS l bl rl n
def comE (l : List Wk) (bl rl n : Int) : Int := if comO l bl rl n = true then 2 else 0
theorem com_out {l : List Wk} {bl rl n : Int} (h : comO l bl rl n = true) : comV l bl rl n = 0 ∧ comE l bl rl n = 2 := ⟨if_pos h, if_pos h⟩
theorem com_in {l : List Wk} {bl rl n : Int} (h : comO l bl rl n = false) : comV l bl rl n = comS l bl rl n ∧ comE l bl rl n = 0 := ⟨if_neg (by rw [h]; simp), if_neg (by rw [h]; simp)⟩
set_option maxRecDepth 100000 in
set_option maxHeartbeats 8000000 in
theorem rcomes_any (A : Option Addr) (n c : Nat) (l : List Wk) (bl rl t : Int) (w : World) (h : RWk w A n l) (hrt : right l bl rl = true) (ht1 : 1 ≤ t) (ht : t ≤ 9223372036854775807) : Calls Try.prog 28 #[.slice A n c, .int .i64 bl, .int .i64 rl, .int .i64 t] w fun e w' => e = .returned (.tuple #[.int .i64 (comV l bl rl t), .int .i64 (comE l bl rl t)]) ∧ w' = w := by
  have HN := Lib.hid h.len
  have HL := Lib.hid h
  clear h
  obtain ⟨hn72, ⟨hb0, hb1⟩, ⟨hr0, hr1⟩, hok⟩ := right_iff.1 hrt
  have hn72' : n ≤ 72 := by have := HN.out; omega
  have HOK := Lib.hid hok
  have HTA := Lib.hid (cmt_all hrt ht1)
  clear hrt hok hn72
  go_enter Try.func28, Try.ntmps28
  go_wp2_with fail
  go_loopw [10, 11, 12] (fun s e i wr => ∃ (sv ev : Int) (q : Nat), s = .int .i64 sv ∧ e = .int .i64 ev ∧ i = .int .i64 (q : Int) ∧ q ≤ n ∧ Hid ((ev = 0 ∧ ov bl (cmt rl t) t l q = false ∧ sv = sN bl (cmt rl t) l q) ∨ (ev = 2 ∧ ov bl (cmt rl t) t l q = true)) ∧ Hid (wr = w)) (fun _ _ i _ => n - (intOf i).toNat)
  case atStart => exact ⟨bl, 0, 0, rfl, rfl, rfl, by omega, .inl ⟨rfl, ov_zero (by omega), rfl⟩, rfl⟩
  case round =>
    obtain ⟨S, ev, i, rfl, rfl, rfl, hi, HST, HW⟩ := hrel
    obtain rfl := HW.out
    clear HW
    rcases HST.out with ⟨hev, hov, hS⟩ | ⟨hev, hov⟩
    · subst hev
      clear HST
      by_cases hin : i < n
      · have hin2 : (i : Int) < (n : Int) := by omega
        have hi0 : (0 : Int) ≤ (i : Int) := Int.natCast_nonneg i
        obtain ⟨x, hx⟩ : ∃ x, l[i]? = some x := ⟨_, List.getElem?_eq_getElem (by rw [HN.out]; exact hin)⟩
        obtain ⟨b, off, rfl, _, e0, e1, e2, e3⟩ := HL.out.at1 hx
        have hxok := HOK.out x (List.mem_of_getElem? hx)
        obtain ⟨⟨hw0, hw1⟩, ⟨hp0, hp1⟩, hd0, hd1⟩ := okW_iff.1 hxok
        have hub := up_bd ht1 hp0
        have hf0 : 0 ≤ (up t x.p + 1) * x.w := Int.mul_nonneg (by omega) hw0
        have hg := snd_bd (rl := rl) ht1 hr0 hxok
        have hS0 : 0 ≤ S := by rw [hS]; exact sN_pos hb0 HTA.out (by rw [HN.out]; omega)
        have hS1 : S ≤ 9223372036854775807 := by rw [hS]; exact (ov_not hov).1
        have SN := Lib.hid (show sN bl (cmt rl t) l (i + 1) = S + (up t x.p + 1) * x.w + (up t x.p + 2) * rl by rw [sN_succ hx, ← hS]; unfold cmt; omega)
        have OVS : Hid (9223372036854775807 < S + (up t x.p + 1) * x.w + (up t x.p + 2) * rl → ov bl (cmt rl t) t l (i + 1) = true) := Lib.hid (fun h => ov_iff.2 (.inl (by rw [SN.out]; exact h)))
        have OVF : Hid (9223372036854775807 < up t x.p + 2 → comO l bl rl t = true) := Lib.hid (fun h => ov_iff.2 (.inr ⟨i, x, by rw [HN.out]; omega, hx, h⟩))
        have OVN : Hid (S + (up t x.p + 1) * x.w + (up t x.p + 2) * rl ≤ 9223372036854775807 → up t x.p + 2 ≤ 9223372036854775807 → ov bl (cmt rl t) t l (i + 1) = false) := Lib.hid (fun h h' => by
          cases e : ov bl (cmt rl t) t l (i + 1) with
          | false => rfl
          | true =>
            rcases ov_iff.1 e with e | ⟨j, y, hj, hy, e⟩
            · rw [SN.out] at e; omega
            · by_cases ej : j = i
              · subst ej; rw [hx] at hy; cases hy; omega
              · have := (ov_not hov).2 j y (by omega) hy; omega)
        have CU : Hid (∀ W, Calls Try.prog 24 #[.int .i64 t, .int .i64 x.p] W fun e w' => e = .returned (.int .i64 (up t x.p)) ∧ w' = W) := Lib.hid (fun W => rup_any t x.p ht1 hp0 (by omega) (by omega) W)
        clear hov hx hxok hS
        obtain ⟨x0, x1, x2, x3⟩ := x
        dsimp only at e0 e1 e2 e3 hw0 hw1 hp0 hp1 hd0 hd1 hub hf0 hg CU SN OVS OVF OVN
        obtain ⟨u, hu⟩ : ∃ u, up t x1 = u := ⟨_, rfl⟩
        obtain ⟨f1, hf1⟩ : ∃ f1, (u + 1) * x0 = f1 := ⟨_, rfl⟩
        obtain ⟨g2, hg2⟩ : ∃ g2, (u + 2) * rl = g2 := ⟨_, rfl⟩
        obtain ⟨v, hv⟩ : ∃ v, u + 2 = v := ⟨_, rfl⟩
        rw [hu] at hub hf0 hg CU SN OVS OVF OVN
        rw [hf1] at hf0 SN OVS OVN
        rw [hg2] at hg SN OVS OVN
        have HF1 : Hid ((v - 1) * x0 = f1) := Lib.hid (by rw [← hf1, ← hv]; congr 1; omega)
        have HG2 : Hid (v * rl = g2) := Lib.hid (by rw [← hv]; exact hg2)
        have HVU := Lib.hid hv
        have hv2 : 3 ≤ v := by omega
        have hvu : v ≤ u + 2 ∧ u + 2 ≤ v := by omega
        clear hu hf1 hg2 hv
        by_cases k0 : 9223372036854775807 < u + 2
        · have CB : Hid (∀ W, Calls Try.prog 23 #[.int .i64 u, .int .i64 2] W fun e w' => e = .returned (.tuple #[.int .i64 0, .int .i64 2]) ∧ w' = W) := Lib.hid (fun W => radd_bad u 2 (by omega) (by omega) (by omega) (by omega) (by omega) W)
          have HE := Lib.hid (com_out (OVF.out k0))
          clear k0 hvu
          go_wp2_with (first | (go_at_call 24; ((with_reducible refine (CU.out _).mono ?_); rintro e wC ⟨rfl, rfl⟩)) | (go_at_call 23; ((with_reducible refine (CB.out _).mono ?_); rintro e wC ⟨rfl, rfl⟩)))
          go_ret2
          exact ⟨retp HE.out.1.symm HE.out.2.symm, rfl⟩
        · have CB : Hid (∀ W, Calls Try.prog 23 #[.int .i64 u, .int .i64 2] W fun e w' => e = .returned (.tuple #[.int .i64 v, .int .i64 0]) ∧ w' = W) := Lib.hid (fun W => by have := radd_good u 2 (by omega) (by omega) (by omega) W; rw [HVU.out] at this; exact this)
          by_cases k1 : 9223372036854775807 < S + f1
          · have CT : Hid (∀ W, Calls Try.prog 25 #[.int .i64 S, .int .i64 (v - 1), .int .i64 x0] W fun e w' => e = .returned (.tuple #[.int .i64 0, .int .i64 2]) ∧ w' = W) := Lib.hid (fun W => rtimes_bad S (v - 1) x0 (by omega) (by omega) (by omega) (by omega) (by omega) (by omega) (by rw [HF1.out]; omega) W)
            have HO : Hid (ov bl (cmt rl t) t l (i + 1) = true) := Lib.hid (OVS.out (by omega))
            have hv9 : v ≤ 9223372036854775807 := by omega
            clear k0 k1 hvu
            go_wp2_with (first | (go_at_call 24; ((with_reducible refine (CU.out _).mono ?_); rintro e wC ⟨rfl, rfl⟩)) | (go_at_call 23; ((with_reducible refine (CB.out _).mono ?_); rintro e wC ⟨rfl, rfl⟩)) | (go_at_call 25; ((with_reducible refine (CT.out _).mono ?_); rintro e wC ⟨rfl, rfl⟩)))
            go_roundw
            case rel => exact ⟨0, 2, i + 1, rfl, rfl, by go_num, by omega, .inr ⟨rfl, HO.out⟩, by first | exact rfl | exact trivial⟩
            case measure => simp [intOf]; omega
          · have CT : Hid (∀ W, Calls Try.prog 25 #[.int .i64 S, .int .i64 (v - 1), .int .i64 x0] W fun e w' => e = .returned (.tuple #[.int .i64 (S + f1), .int .i64 0]) ∧ w' = W) := Lib.hid (fun W => by have := rtimes_good S (v - 1) x0 (by omega) (by omega) (by omega) (by omega) (by omega) (by rw [HF1.out]; omega) W; rw [HF1.out] at this; exact this)
            obtain ⟨P1, hP1⟩ : ∃ P1, S + f1 = P1 := ⟨_, rfl⟩
            have SS : Hid (P1 + g2 = sN bl (cmt rl t) l (i + 1)) := Lib.hid (by have := SN.out; omega)
            rw [hP1] at k1 CT
            have hP0 : 0 ≤ P1 := by omega
            have hv9 : v ≤ 9223372036854775807 := by omega
            by_cases k3 : 9223372036854775807 < P1 + g2
            · have CS : Hid (∀ W, Calls Try.prog 25 #[.int .i64 P1, .int .i64 v, .int .i64 rl] W fun e w' => e = .returned (.tuple #[.int .i64 0, .int .i64 2]) ∧ w' = W) := Lib.hid (fun W => rtimes_bad P1 v rl (by omega) (by omega) (by omega) (by omega) (by omega) (by omega) (by rw [HG2.out]; omega) W)
              have HO : Hid (ov bl (cmt rl t) t l (i + 1) = true) := Lib.hid (OVS.out (by omega))
              clear k0 k1 k3 hvu hP1
              go_wp2_with (first | (go_at_call 24; ((with_reducible refine (CU.out _).mono ?_); rintro e wC ⟨rfl, rfl⟩)) | (go_at_call 23; ((with_reducible refine (CB.out _).mono ?_); rintro e wC ⟨rfl, rfl⟩)) | (go_at_call 25; ((with_reducible refine (CT.out _).mono ?_); rintro e wC ⟨rfl, rfl⟩)) | (go_at_call 25; ((with_reducible refine (CS.out _).mono ?_); rintro e wC ⟨rfl, rfl⟩)))
              go_roundw
              case rel => exact ⟨0, 2, i + 1, rfl, rfl, by go_num, by omega, .inr ⟨rfl, HO.out⟩, by first | exact rfl | exact trivial⟩
              case measure => simp [intOf]; omega
            · have CS : Hid (∀ W, Calls Try.prog 25 #[.int .i64 P1, .int .i64 v, .int .i64 rl] W fun e w' => e = .returned (.tuple #[.int .i64 (P1 + g2), .int .i64 0]) ∧ w' = W) := Lib.hid (fun W => by have := rtimes_good P1 v rl (by omega) (by omega) (by omega) (by omega) (by omega) (by rw [HG2.out]; omega) W; rw [HG2.out] at this; exact this)
              have HO : Hid (ov bl (cmt rl t) t l (i + 1) = false ∧ P1 + g2 = sN bl (cmt rl t) l (i + 1)) := Lib.hid ⟨OVN.out (by omega) (by omega), SS.out⟩
              clear k0 k1 k3 hvu hP1
              go_wp2_with (first | (go_at_call 24; ((with_reducible refine (CU.out _).mono ?_); rintro e wC ⟨rfl, rfl⟩)) | (go_at_call 23; ((with_reducible refine (CB.out _).mono ?_); rintro e wC ⟨rfl, rfl⟩)) | (go_at_call 25; ((with_reducible refine (CT.out _).mono ?_); rintro e wC ⟨rfl, rfl⟩)) | (go_at_call 25; ((with_reducible refine (CS.out _).mono ?_); rintro e wC ⟨rfl, rfl⟩)))
              go_roundw
              case rel => exact ⟨P1 + g2, 0, i + 1, rfl, rfl, by go_num, by omega, .inl ⟨rfl, HO.out.1, HO.out.2⟩, by first | exact rfl | exact trivial⟩
              case measure => simp [intOf]; omega
      · have HI : Hid (i = n) := Lib.hid (by omega)
        have b3 : decide ((i : Int) < (n : Int)) = false := by simp; omega
        have HV : Hid (comV l bl rl t = S ∧ comE l bl rl t = 0) := Lib.hid (by
          have ho : comO l bl rl t = false := by unfold comO; rw [HN.out, ← HI.out]; exact hov
          obtain ⟨v, e⟩ := com_in ho
          refine ⟨?_, e⟩
          rw [v, hS, HI.out, ← HN.out]; rfl)
        clear hov hS
        go_wp2
        go_ret2
        exact ⟨retp HV.out.1.symm HV.out.2.symm, rfl⟩
    · subst hev
      clear HST
      have HV := Lib.hid (com_out (l := l) (bl := bl) (rl := rl) (n := t) (ov_mono HTA.out (by rw [HN.out]; exact hi) (Nat.le_refl _) hov))
      clear hov
      by_cases hin : i < n
      · have hin2 : (i : Int) < (n : Int) := by omega
        go_wp2
        go_ret2
        exact ⟨retp HV.out.1.symm HV.out.2.symm, rfl⟩
      · have b3 : decide ((i : Int) < (n : Int)) = false := by simp; omega
        go_wp2
        go_ret2
        exact ⟨retp HV.out.1.symm HV.out.2.symm, rfl⟩
end Go.Proofs.Ytfpcnilcbaiojaa.dem
