/- The contracts of divide and MulDiv. -/
import Derived.Test.YtfpcnilcbaiojaaQaC3
import Derived.Test.YtfpcnilcbaiojaaQaQ2
namespace Go.Proofs.Ytfpcnilcbaiojaa.qar
open Go.ChangeShapes Go.WideShapes Go.ChangeAt Go.RowKit
theorem ret3 {a b c d : Int} {t : Bool} (h : a = c) (k : b = d) : Ending.returned (.tuple #[.int .u64 a, .int .u64 b, .bool t]) = .returned (.tuple #[.int .u64 c, .int .u64 d, .bool t]) := by rw [h, k]
theorem divide_no (N c : Int) (h0 : 0 ≤ N) (h1 : N < 340282366920938463463374607431768211456) (hc : c ≤ hi N) (w : World) :
    Calls Try.prog 62 #[.agg #[.int .u32 (d0 N), .int .u32 (d1 N), .int .u32 (d2 N), .int .u32 (d3 N)], .int .u64 c] w fun e w' => e = .returned (.tuple #[.int .u64 0, .int .u64 0, .bool false]) ∧ Grew w w' := by
  go_enter Try.func62, Try.ntmps62
  go_wp2_with (go_at_call 56; refine (high_N N h0 h1 _).mono ?_; rintro e w2 ⟨rfl, hg2⟩; have HG := ((Grew.refl w).alloc _ _).trans hg2)
  go_ret3
  exact ⟨rfl, HG⟩
set_option maxHeartbeats 1000000 in
theorem divide_yes (N c : Int) (h0 : 0 ≤ N) (h1 : N < 340282366920938463463374607431768211456) (hc : hi N < c) (hc1 : c < 9223372036854775808) (w : World) :
    Calls Try.prog 62 #[.agg #[.int .u32 (d0 N), .int .u32 (d1 N), .int .u32 (d2 N), .int .u32 (d3 N)], .int .u64 c] w fun e w' => e = .returned (.tuple #[.int .u64 (N / c), .int .u64 (N % c), .bool true]) ∧ Grew w w' := by
  have hh := hi_bd N h0 h1
  have hl := lo_bd N
  have hN : Hid (hi N * 18446744073709551616 + lo N = N) := by show hi N * 18446744073709551616 + lo N = N; unfold hi lo; omega
  go_enter Try.func62, Try.ntmps62
  go_wp2_with (first | (go_at_call 56; refine (high_N N h0 h1 _).mono ?_; rintro e w2 ⟨rfl, hg2⟩; have hc2 := hg2.cells; have hz2 : w.heap.size < w2.heap.size := lt_of_grew hg2; have HG := ((Grew.refl w).alloc _ _).trans hg2) | (go_at_call 57; refine (low_N N _).mono ?_; rintro e w3 ⟨rfl, hg3⟩; have HG := HG.trans hg3))
  go_loop [4, 5, 7, 15] (fun q r n i => ∃ (k : Nat) (q' r' n' : Int), k ≤ 64 ∧ i = .int .i64 k ∧ q = .int .u64 q' ∧ r = .int .u64 r' ∧ n = .int .u64 n' ∧ Hid (DivRel (hi N) (lo N) c k q' r' n')) (fun _ _ _ i => 64 - (intOf i).toNat)
  case atStart => exact ⟨0, 0, _, _, by omega, rfl, rfl, rfl, rfl, DivRel.start hh.1 hc⟩
  case round =>
    obtain ⟨k, q, r, n, hk, rfl, rfl, rfl, rfl, hd⟩ := hrel
    have hr0 := hd.out.r0
    have hr1 := hd.out.r1
    have hq0 := hd.out.q0
    have hn := hd.out.nbd hl
    by_cases hlt : k < 64
    · have hq1 := hd.out.qbd hlt
      have e1 := or_bit r (n / 9223372036854775808) hr0 (by omega) (by omega) (by omega)
      have e2 := or_bit q 1 hq0 hq1 (by omega) (by omega)
      by_cases hs : r * 2 + n / 9223372036854775808 < c
      · have hd' := Lib.hid (hd.out.less hs hl)
        go_wp2
        go_round
        case rel => exact ⟨k + 1, _, _, _, by omega, by go_num, rfl, rfl, rfl, hd'⟩
        case measure => simp [intOf]; omega
      · have hd' := Lib.hid (hd.out.more (by omega) hl)
        go_wp2
        go_round
        case rel => exact ⟨k + 1, _, _, _, by omega, by go_num, rfl, rfl, rfl, hd'⟩
        case measure => simp [intOf]; omega
    · go_wp2
      go_ret3
      obtain rfl : k = 64 := by omega
      have e := hd.out.done hl
      rw [hN.out] at e
      exact ⟨ret3 e.1.symm e.2.symm, HG⟩
theorem ret2b {a b c d : Int} (h : a = c ∧ b = d) : Ending.returned (.tuple #[.int .i64 a, .int .i64 b]) = .returned (.tuple #[.int .i64 c, .int .i64 d]) := by rw [h.1, h.2]
theorem div_big {N c : Int} (hc : 0 < c) (h : c ≤ hi N) : 18446744073709551616 ≤ N / c := by
  have h1 : c * 18446744073709551616 ≤ N := by unfold hi at h; omega
  exact (Int.le_ediv_iff_mul_le hc).2 (by rw [Int.mul_comm]; exact h1)
theorem mul_pos_bd {a b : Int} (ha : inR a) (hb : inR b) (a0 : 0 ≤ a) (b0 : 0 ≤ b) : 0 ≤ a * b ∧ a * b ≤ 85070591730234615847396907784232501249 := by
  unfold inR at ha hb
  exact ⟨Int.mul_nonneg a0 b0, Int.mul_le_mul (c := 9223372036854775807) (d := 9223372036854775807) ha.2 hb.2 b0 (by omega)⟩
set_option maxHeartbeats 1000000 in
theorem muldiv_bad (a b c : Int) (up : Bool) (h : a < 0 ∨ b < 0 ∨ c ≤ 0) (w : World) :
    Calls Try.prog 59 #[.int .i64 a, .int .i64 b, .int .i64 c, .bool up] w fun e w' => e = .returned (.tuple #[.int .i64 (mdV a b c up), .int .i64 (mdE a b c up)]) ∧ Grew w w' := by
  have hm := Lib.hid (md_bad (up := up) h)
  by_cases h1 : a < 0
  · clear h
    go_enter Try.func59, Try.ntmps59
    go_wp2
    go_ret2
    exact ⟨ret2b ⟨hm.out.1.symm, hm.out.2.symm⟩, Grew.refl _⟩
  · have h1' : 0 ≤ a := by omega
    by_cases h2 : b < 0
    · clear h
      go_enter Try.func59, Try.ntmps59
      go_wp2
      go_ret2
      exact ⟨ret2b ⟨hm.out.1.symm, hm.out.2.symm⟩, Grew.refl _⟩
    · have h2' : 0 ≤ b := by omega
      have h3' : c ≤ 0 := by omega
      clear h h1 h2
      go_enter Try.func59, Try.ntmps59
      go_wp2
      go_ret2
      exact ⟨ret2b ⟨hm.out.1.symm, hm.out.2.symm⟩, Grew.refl _⟩
set_option maxHeartbeats 1000000 in
theorem muldiv_good (a b c : Int) (up : Bool) (ha : inR a) (hb : inR b) (hc : inR c) (a0 : 0 ≤ a) (b0 : 0 ≤ b) (c0 : 0 < c) (w : World) :
    Calls Try.prog 59 #[.int .i64 a, .int .i64 b, .int .i64 c, .bool up] w fun e w' => e = .returned (.tuple #[.int .i64 (mdV a b c up), .int .i64 (mdE a b c up)]) ∧ Grew w w' := by
  have hm := Lib.hid (md_good (up := up) a0 b0 c0)
  have hN := mul_pos_bd ha hb a0 b0
  unfold inR at ha hb hc
  obtain ⟨ha1, ha2⟩ := ha
  obtain ⟨hb1, hb2⟩ := hb
  obtain ⟨hc1, hc2⟩ := hc
  obtain ⟨N, hNe⟩ : ∃ N, N = a * b := ⟨_, rfl⟩
  rw [← hNe] at hN
  have HN := Lib.hid hNe
  clear hNe
  have CM : Hid (∀ w, Calls Try.prog 54 #[.int .u64 a, .int .u64 b] w fun e w' => e = .returned (.agg #[.int .u32 (d0 N), .int .u32 (d1 N), .int .u32 (d2 N), .int .u32 (d3 N)]) ∧ Grew w w') := by
    show ∀ w, _
    intro w; rw [HN.out]; exact multiply_any _ _ a0 (by omega) b0 (by omega) w
  by_cases hf : hi N < c
  · have HQ : Hid (mdQ a b c up = if up = true ∧ N % c ≠ 0 then N / c + 1 else N / c) := by show _ = _; unfold mdQ; rw [← HN.out]
    have hq0 : 0 ≤ N / c := Int.ediv_nonneg hN.1 (by omega)
    have hr0 : 0 ≤ N % c := Int.emod_nonneg _ (by omega)
    have hr1 : N % c < c := Int.emod_lt_of_pos _ c0
    have hq2 : N / c ≤ N := Int.ediv_le_self _ hN.1
    obtain ⟨q, hqe⟩ : ∃ q, q = N / c := ⟨_, rfl⟩
    obtain ⟨r, hre⟩ : ∃ r, r = N % c := ⟨_, rfl⟩
    rw [← hqe] at hq0 hq2
    rw [← hre] at hr0 hr1
    have CD : Hid (∀ w, Calls Try.prog 62 #[.agg #[.int .u32 (d0 N), .int .u32 (d1 N), .int .u32 (d2 N), .int .u32 (d3 N)], .int .u64 c] w fun e w' => e = .returned (.tuple #[.int .u64 q, .int .u64 r, .bool true]) ∧ Grew w w') := by
      show ∀ w, _
      intro w; rw [hqe, hre]; exact divide_yes N c hN.1 (by omega) hf (by omega) w
    have HQ' : Hid (mdQ a b c up = if up = true ∧ r ≠ 0 then q + 1 else q) := by show _ = _; rw [HQ.out, hqe, hre]
    clear HQ hqe hre
    by_cases hq : q ≤ 9223372036854775807
    · by_cases hup : up = true ∧ r ≠ 0
      · have hE : Hid (mdQ a b c up = q + 1) := by show _ = _; rw [HQ'.out, if_pos hup]
        obtain ⟨hu, hr⟩ := hup
        have hr' : (r != 0) = true := by simpa using hr
        clear hr
        subst hu
        go_enter Try.func59, Try.ntmps59
        go_wp2_with (first | (go_at_call 54; refine (CM.out _).mono ?_; rintro e w1 ⟨rfl, hg1⟩) | (go_at_call 62; refine (CD.out _).mono ?_; rintro e w2 ⟨rfl, hg2⟩; have HG := hg1.trans hg2) | (go_at_call 46; refine (add_any _ _ (by unfold inR; omega) (by unfold inR; omega) _).mono ?_; rintro e w' ⟨rfl, rfl⟩))
        go_ret2
        exact ⟨ret2b ⟨by rw [hm.out.1, hE.out], by rw [hm.out.2, hE.out]⟩, HG⟩
      · have hE : Hid (mdQ a b c up = q) := by show _ = _; rw [HQ'.out, if_neg hup]
        have hin : Hid (inR q) := by show inR q; unfold inR; omega
        cases up
        · clear hup
          go_enter Try.func59, Try.ntmps59
          go_wp2_with (first | (go_at_call 54; refine (CM.out _).mono ?_; rintro e w1 ⟨rfl, hg1⟩) | (go_at_call 62; refine (CD.out _).mono ?_; rintro e w2 ⟨rfl, hg2⟩; have HG := hg1.trans hg2))
          go_ret2
          exact ⟨ret2b ⟨by rw [hm.out.1, hE.out, exV_in hin.out], by rw [hm.out.2, hE.out, exE_in hin.out]⟩, HG⟩
        · have hr' : (r != 0) = false := by simpa using hup
          clear hup
          go_enter Try.func59, Try.ntmps59
          go_wp2_with (first | (go_at_call 54; refine (CM.out _).mono ?_; rintro e w1 ⟨rfl, hg1⟩) | (go_at_call 62; refine (CD.out _).mono ?_; rintro e w2 ⟨rfl, hg2⟩; have HG := hg1.trans hg2))
          go_ret2
          exact ⟨ret2b ⟨by rw [hm.out.1, hE.out, exV_in hin.out], by rw [hm.out.2, hE.out, exE_in hin.out]⟩, HG⟩
    · have hin : Hid (¬ inR (mdQ a b c up)) := by
        show ¬ _; rw [HQ'.out]; unfold inR; split <;> omega
      clear HQ'
      go_enter Try.func59, Try.ntmps59
      go_wp2_with (first | (go_at_call 54; refine (CM.out _).mono ?_; rintro e w1 ⟨rfl, hg1⟩) | (go_at_call 62; refine (CD.out _).mono ?_; rintro e w2 ⟨rfl, hg2⟩; have HG := hg1.trans hg2))
      go_ret2
      exact ⟨ret2b ⟨by rw [hm.out.1, exV_out hin.out], by rw [hm.out.2, exE_out hin.out]⟩, HG⟩
  · have hq : 18446744073709551616 ≤ N / c := div_big c0 (by omega)
    have hin : Hid (¬ inR (mdQ a b c up)) := by
      show ¬ _; unfold mdQ; rw [← HN.out]; unfold inR; split <;> omega
    clear hq
    go_enter Try.func59, Try.ntmps59
    go_wp2_with (first | (go_at_call 54; refine (CM.out _).mono ?_; rintro e w1 ⟨rfl, hg1⟩) | (go_at_call 62; refine (divide_no N c hN.1 (by omega) (by omega) _).mono ?_; rintro e w2 ⟨rfl, hg2⟩; have HG := hg1.trans hg2))
    go_ret2
    exact ⟨ret2b ⟨by rw [hm.out.1, exV_out hin.out], by rw [hm.out.2, exE_out hin.out]⟩, HG⟩
theorem muldiv_any (a b c : Int) (up : Bool) (ha : inR a) (hb : inR b) (hc : inR c) (w : World) :
    Calls Try.prog 59 #[.int .i64 a, .int .i64 b, .int .i64 c, .bool up] w fun e w' => e = .returned (.tuple #[.int .i64 (mdV a b c up), .int .i64 (mdE a b c up)]) ∧ Grew w w' := by
  by_cases h : a < 0 ∨ b < 0 ∨ c ≤ 0
  · exact muldiv_bad a b c up h w
  · exact muldiv_good a b c up ha hb hc (by omega) (by omega) (by omega) w
end Go.Proofs.Ytfpcnilcbaiojaa.qar
