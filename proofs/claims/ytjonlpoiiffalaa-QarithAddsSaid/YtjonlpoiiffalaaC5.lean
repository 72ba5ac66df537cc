/- The contracts of compare and Cmp. -/
import Derived.Test.YtjonlpoiiffalaaC3
import Derived.Test.YtjonlpoiiffalaaQ2
import Derived.Deep.QuietTactic
import Derived.BigQuiet
namespace Go.Proofs.Ytjonlpoiiffalaa
open Go.ChangeShapes Go.WideShapes Go.ChangeAt Go.RowKit
def cmp4 (a0 a1 a2 a3 b0 b1 b2 b3 : Int) : Int :=
  if a3 < b3 then -1 else if b3 < a3 then 1 else if a2 < b2 then -1 else if b2 < a2 then 1 else if a1 < b1 then -1 else if b1 < a1 then 1 else if a0 < b0 then -1 else if b0 < a0 then 1 else 0
theorem cmp4_sgn (N M : Int) : cmp4 (d0 N) (d1 N) (d2 N) (d3 N) (d0 M) (d1 M) (d2 M) (d3 M) = sgn N M := by
  have e1 := dig_eq N
  have e2 := dig_eq M
  have a0 := d0_bd N
  have a1 := d1_bd N
  have a2 := d2_bd N
  have b0 := d0_bd M
  have b1 := d1_bd M
  have b2 := d2_bd M
  unfold cmp4 sgn
  repeat' split
  all_goals omega
theorem Grew.drewN {a w : World} (h : Grew a w) (n : Nat) : Grew a (w.drewN n) := ⟨⟨h.below.os, h.below.tape, h.below.output, h.below.size, h.below.block⟩, h.grown⟩
set_option maxHeartbeats 1000000 in
theorem compare_any (a0 a1 a2 a3 b0 b1 b2 b3 : Int) (w : World) :
    Calls Try.prog 41 #[.agg #[.int .u32 a0, .int .u32 a1, .int .u32 a2, .int .u32 a3], .agg #[.int .u32 b0, .int .u32 b1, .int .u32 b2, .int .u32 b3]] w fun e w' => e = .returned (.int .i64 (cmp4 a0 a1 a2 a3 b0 b1 b2 b3)) ∧ Grew w w' := by
  by_cases h3 : a3 < b3
  · have hE : Hid (cmp4 a0 a1 a2 a3 b0 b1 b2 b3 = -1) := by show _ = _; unfold cmp4; rw [if_pos h3]
    go_enter Try.func41, Try.ntmps41
    go_wp2
    refine wp_loop_rounds 5 ?_
    rw [rounds_succ]
    go_wp2
    go_quiet (fail)
    go_wp2
    go_ret
    exact ⟨ret1 hE.out.symm, by repeat (first | exact Grew.refl _ | apply Grew.drewN | apply Grew.alloc)⟩
  · by_cases k3 : b3 < a3
    · have hE : Hid (cmp4 a0 a1 a2 a3 b0 b1 b2 b3 = 1) := by show _ = _; unfold cmp4; rw [if_neg h3, if_pos k3]
      go_enter Try.func41, Try.ntmps41
      go_wp2
      refine wp_loop_rounds 5 ?_
      rw [rounds_succ]
      go_wp2
      go_quiet (fail)
      go_wp2
      go_quiet (fail)
      go_wp2
      go_ret
      exact ⟨ret1 hE.out.symm, by repeat (first | exact Grew.refl _ | apply Grew.drewN | apply Grew.alloc)⟩
    · obtain rfl : a3 = b3 := by omega
      clear h3 k3
      by_cases h2 : a2 < b2
      · have hE : Hid (cmp4 a0 a1 a2 a3 b0 b1 b2 a3 = -1) := by show _ = _; simp [cmp4, h2]
        go_enter Try.func41, Try.ntmps41
        go_wp2
        refine wp_loop_rounds 5 ?_
        rw [rounds_succ]
        go_wp2
        go_quiet (fail)
        go_wp2
        go_quiet (fail)
        go_wp2
        rw [rounds_succ]
        go_wp2
        go_quiet (fail)
        go_wp2
        go_ret
        exact ⟨ret1 hE.out.symm, by repeat (first | exact Grew.refl _ | apply Grew.drewN | apply Grew.alloc)⟩
      · by_cases k2 : b2 < a2
        · have hE : Hid (cmp4 a0 a1 a2 a3 b0 b1 b2 a3 = 1) := by show _ = _; simp [cmp4, h2, k2]
          go_enter Try.func41, Try.ntmps41
          go_wp2
          refine wp_loop_rounds 5 ?_
          rw [rounds_succ]
          go_wp2
          go_quiet (fail)
          go_wp2
          go_quiet (fail)
          go_wp2
          rw [rounds_succ]
          go_wp2
          go_quiet (fail)
          go_wp2
          go_quiet (fail)
          go_wp2
          go_ret
          exact ⟨ret1 hE.out.symm, by repeat (first | exact Grew.refl _ | apply Grew.drewN | apply Grew.alloc)⟩
        · obtain rfl : a2 = b2 := by omega
          clear h2 k2
          by_cases h1 : a1 < b1
          · have hE : Hid (cmp4 a0 a1 a2 a3 b0 b1 a2 a3 = -1) := by show _ = _; simp [cmp4, h1]
            go_enter Try.func41, Try.ntmps41
            go_wp2
            refine wp_loop_rounds 5 ?_
            rw [rounds_succ]
            go_wp2
            go_quiet (fail)
            go_wp2
            go_quiet (fail)
            go_wp2
            rw [rounds_succ]
            go_wp2
            go_quiet (fail)
            go_wp2
            go_quiet (fail)
            go_wp2
            rw [rounds_succ]
            go_wp2
            go_quiet (fail)
            go_wp2
            go_ret
            exact ⟨ret1 hE.out.symm, by repeat (first | exact Grew.refl _ | apply Grew.drewN | apply Grew.alloc)⟩
          · by_cases k1 : b1 < a1
            · have hE : Hid (cmp4 a0 a1 a2 a3 b0 b1 a2 a3 = 1) := by show _ = _; simp [cmp4, h1, k1]
              go_enter Try.func41, Try.ntmps41
              go_wp2
              refine wp_loop_rounds 5 ?_
              rw [rounds_succ]
              go_wp2
              go_quiet (fail)
              go_wp2
              go_quiet (fail)
              go_wp2
              rw [rounds_succ]
              go_wp2
              go_quiet (fail)
              go_wp2
              go_quiet (fail)
              go_wp2
              rw [rounds_succ]
              go_wp2
              go_quiet (fail)
              go_wp2
              go_quiet (fail)
              go_wp2
              go_ret
              exact ⟨ret1 hE.out.symm, by repeat (first | exact Grew.refl _ | apply Grew.drewN | apply Grew.alloc)⟩
            · obtain rfl : a1 = b1 := by omega
              clear h1 k1
              by_cases h0 : a0 < b0
              · have hE : Hid (cmp4 a0 a1 a2 a3 b0 a1 a2 a3 = -1) := by show _ = _; simp [cmp4, h0]
                go_enter Try.func41, Try.ntmps41
                go_wp2
                refine wp_loop_rounds 5 ?_
                rw [rounds_succ]
                go_wp2
                go_quiet (fail)
                go_wp2
                go_quiet (fail)
                go_wp2
                rw [rounds_succ]
                go_wp2
                go_quiet (fail)
                go_wp2
                go_quiet (fail)
                go_wp2
                rw [rounds_succ]
                go_wp2
                go_quiet (fail)
                go_wp2
                go_quiet (fail)
                go_wp2
                rw [rounds_succ]
                go_wp2
                go_quiet (fail)
                go_wp2
                go_ret
                exact ⟨ret1 hE.out.symm, by repeat (first | exact Grew.refl _ | apply Grew.drewN | apply Grew.alloc)⟩
              · by_cases k0 : b0 < a0
                · have hE : Hid (cmp4 a0 a1 a2 a3 b0 a1 a2 a3 = 1) := by show _ = _; simp [cmp4, h0, k0]
                  go_enter Try.func41, Try.ntmps41
                  go_wp2
                  refine wp_loop_rounds 5 ?_
                  rw [rounds_succ]
                  go_wp2
                  go_quiet (fail)
                  go_wp2
                  go_quiet (fail)
                  go_wp2
                  rw [rounds_succ]
                  go_wp2
                  go_quiet (fail)
                  go_wp2
                  go_quiet (fail)
                  go_wp2
                  rw [rounds_succ]
                  go_wp2
                  go_quiet (fail)
                  go_wp2
                  go_quiet (fail)
                  go_wp2
                  rw [rounds_succ]
                  go_wp2
                  go_quiet (fail)
                  go_wp2
                  go_quiet (fail)
                  go_wp2
                  go_ret
                  exact ⟨ret1 hE.out.symm, by repeat (first | exact Grew.refl _ | apply Grew.drewN | apply Grew.alloc)⟩
                · obtain rfl : a0 = b0 := by omega
                  clear h0 k0
                  have hE : Hid (cmp4 a0 a1 a2 a3 a0 a1 a2 a3 = 0) := by show _ = _; simp [cmp4]
                  go_enter Try.func41, Try.ntmps41
                  go_wp2
                  refine wp_loop_rounds 5 ?_
                  rw [rounds_succ]
                  go_wp2
                  go_quiet (fail)
                  go_wp2
                  go_quiet (fail)
                  go_wp2
                  rw [rounds_succ]
                  go_wp2
                  go_quiet (fail)
                  go_wp2
                  go_quiet (fail)
                  go_wp2
                  rw [rounds_succ]
                  go_wp2
                  go_quiet (fail)
                  go_wp2
                  go_quiet (fail)
                  go_wp2
                  rw [rounds_succ]
                  go_wp2
                  go_quiet (fail)
                  go_wp2
                  go_quiet (fail)
                  go_wp2
                  rw [rounds_succ]
                  go_wp2
                  go_ret
                  exact ⟨ret1 hE.out.symm, by repeat (first | exact Grew.refl _ | apply Grew.drewN | apply Grew.alloc)⟩
theorem compare_N (N M : Int) (w : World) :
    Calls Try.prog 41 #[.agg #[.int .u32 (d0 N), .int .u32 (d1 N), .int .u32 (d2 N), .int .u32 (d3 N)], .agg #[.int .u32 (d0 M), .int .u32 (d1 M), .int .u32 (d2 M), .int .u32 (d3 M)]] w fun e w' => e = .returned (.int .i64 (sgn N M)) ∧ Grew w w' := by
  rw [← cmp4_sgn]; exact compare_any _ _ _ _ _ _ _ _ w
theorem cm_bad {a b c d : Int} (h : a < 0 ∨ b ≤ 0 ∨ c < 0 ∨ d ≤ 0) : 0 = cmV a b c d ∧ 1 = cmE a b c d := ⟨(if_pos h).symm, (if_pos h).symm⟩
theorem cm_good {a b c d : Int} (h0 : 0 ≤ a) (h1 : 0 < b) (h2 : 0 ≤ c) (h3 : 0 < d) : sgn (a * d) (c * b) = cmV a b c d ∧ 0 = cmE a b c d := ⟨(if_neg (by omega)).symm, (if_neg (by omega)).symm⟩
theorem ret2c {a b c d : Int} (h : a = c ∧ b = d) : Ending.returned (.tuple #[.int .i64 a, .int .i64 b]) = .returned (.tuple #[.int .i64 c, .int .i64 d]) := by rw [h.1, h.2]
set_option maxHeartbeats 1000000 in
theorem cmp_bad (a b c d : Int) (h : a < 0 ∨ b ≤ 0 ∨ c < 0 ∨ d ≤ 0) (w : World) :
    Calls Try.prog 29 #[.int .i64 a, .int .i64 b, .int .i64 c, .int .i64 d] w fun e w' => e = .returned (.tuple #[.int .i64 (cmV a b c d), .int .i64 (cmE a b c d)]) ∧ Grew w w' := by
  have hm := Lib.hid (cm_bad h)
  by_cases h1 : a < 0
  · clear h
    go_enter Try.func29, Try.ntmps29
    go_wp2
    go_ret2
    exact ⟨ret2c hm.out, Grew.refl _⟩
  · by_cases h2 : b ≤ 0
    · clear h
      go_enter Try.func29, Try.ntmps29
      go_wp2
      go_ret2
      exact ⟨ret2c hm.out, Grew.refl _⟩
    · by_cases h3 : c < 0
      · clear h
        go_enter Try.func29, Try.ntmps29
        go_wp2
        go_ret2
        exact ⟨ret2c hm.out, Grew.refl _⟩
      · have h4 : d ≤ 0 := by omega
        clear h
        go_enter Try.func29, Try.ntmps29
        go_wp2
        go_ret2
        exact ⟨ret2c hm.out, Grew.refl _⟩
theorem prod_bd {a b : Int} (ha : inR a) (hb : inR b) (a0 : 0 ≤ a) (b0 : 0 ≤ b) : 0 ≤ a * b ∧ a * b ≤ 85070591730234615847396907784232501249 := by
  unfold inR at ha hb
  exact ⟨Int.mul_nonneg a0 b0, Int.mul_le_mul (c := 9223372036854775807) (d := 9223372036854775807) ha.2 hb.2 b0 (by omega)⟩
set_option maxHeartbeats 1000000 in
theorem cmp_good (a b c d : Int) (ha : inR a) (hb : inR b) (hc : inR c) (hd : inR d) (a0 : 0 ≤ a) (b0 : 0 < b) (c0 : 0 ≤ c) (d0' : 0 < d) (w : World) :
    Calls Try.prog 29 #[.int .i64 a, .int .i64 b, .int .i64 c, .int .i64 d] w fun e w' => e = .returned (.tuple #[.int .i64 (cmV a b c d), .int .i64 (cmE a b c d)]) ∧ Grew w w' := by
  have hm := Lib.hid (cm_good a0 b0 c0 d0')
  unfold inR at ha hb hc hd
  obtain ⟨ha1, ha2⟩ := ha
  obtain ⟨hb1, hb2⟩ := hb
  obtain ⟨hc1, hc2⟩ := hc
  obtain ⟨hd1, hd2⟩ := hd
  obtain ⟨N, hNe⟩ : ∃ N, N = a * d := ⟨_, rfl⟩
  obtain ⟨M, hMe⟩ : ∃ M, M = c * b := ⟨_, rfl⟩
  have CM : Hid (∀ w, Calls Try.prog 35 #[.int .u64 a, .int .u64 d] w fun e w' => e = .returned (.agg #[.int .u32 (d0 N), .int .u32 (d1 N), .int .u32 (d2 N), .int .u32 (d3 N)]) ∧ Grew w w') := by
    show ∀ w, _
    intro w; rw [hNe]; exact multiply_any _ _ a0 (by omega) (by omega) (by omega) w
  have CN : Hid (∀ w, Calls Try.prog 35 #[.int .u64 c, .int .u64 b] w fun e w' => e = .returned (.agg #[.int .u32 (d0 M), .int .u32 (d1 M), .int .u32 (d2 M), .int .u32 (d3 M)]) ∧ Grew w w') := by
    show ∀ w, _
    intro w; rw [hMe]; exact multiply_any _ _ c0 (by omega) (by omega) (by omega) w
  rw [← hNe, ← hMe] at hm
  clear hNe hMe
  go_enter Try.func29, Try.ntmps29
  go_wp2_with (first | (go_at_call 35; ((with_reducible refine (CM.out _).mono ?_); rintro e w1 ⟨rfl, hg1⟩)) | (go_at_call 35; ((with_reducible refine (CN.out _).mono ?_); rintro e w2 ⟨rfl, hg2⟩; have hc2 := hg2.cells; have hz2 : w1.heap.size < w2.heap.size := lt_of_grew hg2; have HG := (hg1.alloc _ _).trans hg2)) | (go_at_call 41; ((with_reducible refine (compare_N N M _).mono ?_); rintro e w3 ⟨rfl, hg3⟩)))
  go_ret2
  exact ⟨ret2c hm.out, (HG.alloc _ _).trans hg3⟩
theorem cmp_any (a b c d : Int) (ha : inR a) (hb : inR b) (hc : inR c) (hd : inR d) (w : World) :
    Calls Try.prog 29 #[.int .i64 a, .int .i64 b, .int .i64 c, .int .i64 d] w fun e w' => e = .returned (.tuple #[.int .i64 (cmV a b c d), .int .i64 (cmE a b c d)]) ∧ Grew w w' := by
  by_cases h : a < 0 ∨ b ≤ 0 ∨ c < 0 ∨ d ≤ 0
  · exact cmp_bad a b c d h w
  · exact cmp_good a b c d ha hb hc hd (by omega) (by omega) (by omega) (by omega) w
end Go.Proofs.Ytjonlpoiiffalaa
