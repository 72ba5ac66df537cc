/- The contract of the statements' own comes. -/
import Derived.Test.YtfpcnilcbaiojaaDeR3
namespace Go.Proofs.Ytfpcnilcbaiojaa.dem
open Go.ChangeShapes Go.WideShapes Go.ChangeAt Go.RowKit Go.Deep
set_option maxRecDepth 100000 in
set_option maxHeartbeats 4000000 in
theorem lcomes_any (A : Option Addr) (n c : Nat) (l : List Wk) (bl rl t : Int) (w : World) (h : RWk w A n l) (hrt : right l bl rl = true) (ht1 : 1 ≤ t) (ht : t ≤ 9223372036854775807) (ho : comO l bl rl t = false) : Calls Try.prog 19 #[.slice A n c, .int .i64 bl, .int .i64 rl, .int .i64 t] w fun e w' => e = .returned (.int .i64 (comS l bl rl t)) ∧ w' = w := by
  have HN := Lib.hid h.len
  have HL := Lib.hid h
  clear h
  obtain ⟨hn72, ⟨hb0, hb1⟩, ⟨hr0, hr1⟩, hok⟩ := right_iff.1 hrt
  have hn72' : n ≤ 72 := by have := HN.out; omega
  have HOK := Lib.hid hok
  have HTA := Lib.hid (cmt_all hrt ht1)
  have HO := Lib.hid (ov_not ho)
  clear hrt hok hn72 ho
  go_enter Try.func19, Try.ntmps19
  go_wp2_with fail
  go_loopw [9, 10] (fun s i wr => ∃ q : Nat, s = .int .i64 (sN bl (cmt rl t) l q) ∧ i = .int .i64 (q : Int) ∧ q ≤ n ∧ Hid (wr = w)) (fun _ i _ => n - (intOf i).toNat)
  case atStart => exact ⟨0, rfl, rfl, by omega, rfl⟩
  case round =>
    obtain ⟨i, rfl, rfl, hi, HW⟩ := hrel
    obtain rfl := HW.out
    clear HW
    by_cases hin : i < n
    · have hin2 : (i : Int) < (n : Int) := by omega
      have hi0 : (0 : Int) ≤ (i : Int) := Int.natCast_nonneg i
      obtain ⟨x, hx⟩ : ∃ x, l[i]? = some x := ⟨_, List.getElem?_eq_getElem (by rw [HN.out]; exact hin)⟩
      obtain ⟨b, off, rfl, _, e0, e1, e2, e3⟩ := HL.out.at1 hx
      obtain ⟨⟨hw0, hw1⟩, ⟨hp0, hp1⟩, hd0, hd1⟩ := okW_iff.1 (HOK.out x (List.mem_of_getElem? hx))
      have hub := up_bd ht1 hp0
      have hu := up_eq ht1 hp0
      have hf0 : 0 ≤ (up t x.p + 1) * x.w := Int.mul_nonneg (by omega) hw0
      have hg0 : 0 ≤ (up t x.p + 2) * rl := Int.mul_nonneg (by omega) hr0
      have hS0 : 0 ≤ sN bl (cmt rl t) l i := sN_pos hb0 HTA.out (by rw [HN.out]; omega)
      have hfac := HO.out.2 i x (by rw [HN.out]; omega) hx
      have hnx : sN bl (cmt rl t) l (i + 1) ≤ 9223372036854775807 := Int.le_trans (sN_mono HTA.out (by rw [HN.out]; omega) (Nat.le_refl _)) HO.out.1
      have SN := Lib.hid (show sN bl (cmt rl t) l (i + 1) = sN bl (cmt rl t) l i + (up t x.p + 1) * x.w + (up t x.p + 2) * rl by rw [sN_succ hx]; unfold cmt; omega)
      rw [SN.out] at hnx
      clear hx
      obtain ⟨x0, x1, x2, x3⟩ := x
      dsimp only at e0 e1 e2 e3 hw0 hw1 hp0 hp1 hub hu hf0 hg0 hfac hnx SN
      obtain ⟨S, hS⟩ : ∃ S, sN bl (cmt rl t) l i = S := ⟨_, rfl⟩
      rw [hS] at hS0 hnx SN ⊢
      obtain ⟨m, hm⟩ : ∃ m, up t x1 = m := ⟨_, rfl⟩
      rw [hm] at hub hu hf0 hg0 hfac hnx SN
      have q1 : (t - 1).tdiv x1 = m - 1 := by rw [Int.tdiv_eq_ediv_of_nonneg (by omega)]; omega
      have hx10 : x1 ≠ 0 := by omega
      have b1 : decide (x1 < 1) = false := by simp; omega
      clear hS hm hu
      go_upto_region 8 with fail

      clear q1
      obtain ⟨f1, hf1⟩ : ∃ f1, (m + 1) * x0 = f1 := ⟨_, rfl⟩
      obtain ⟨g2, hg2⟩ : ∃ g2, (m + 2) * rl = g2 := ⟨_, rfl⟩
      rw [hf1] at hf0 hnx SN
      rw [hg2] at hg0 hnx SN
      go_wp2
      go_roundw
      case rel => exact ⟨i + 1, by rw [SN.out], by go_num, by omega, by first | exact rfl | exact trivial⟩
      case measure => simp [intOf]; omega
    · have HI : Hid (i = n) := Lib.hid (by omega)
      have b3 : decide ((i : Int) < (n : Int)) = false := by simp; omega
      have HV : Hid (comS l bl rl t = sN bl (cmt rl t) l i) := Lib.hid (by rw [HI.out, ← HN.out]; rfl)
      go_wp2
      go_ret
      exact ⟨ret1 HV.out.symm, rfl⟩
end Go.Proofs.Ytfpcnilcbaiojaa.dem
