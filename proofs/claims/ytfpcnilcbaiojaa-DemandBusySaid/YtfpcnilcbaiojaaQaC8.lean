/- The contract of the document's own MulDiv. -/
import Derived.Test.YtfpcnilcbaiojaaQaB3
namespace Go.Proofs.Ytfpcnilcbaiojaa.qar
open Go.ChangeShapes Go.WideShapes Go.ChangeAt Go.RowKit
theorem plus_less (r s c : Int) (r0 : 0 ≤ r) (s0 : 0 ≤ s) (s1 : s < c) (c1 : c ≤ 9223372036854775807) (h : r + s < c) (w : World) :
    Calls Try.prog 53 #[.int .i64 r, .int .i64 s, .int .i64 c] w fun e w' => e = .returned (.tuple #[.int .i64 (r + s), .int .i64 0]) ∧ w = w' := by
  go_enter Try.func53, Try.ntmps53
  go_wp2
  go_ret2
  exact ⟨rfl, rfl⟩
theorem plus_more (r s c : Int) (r0 : 0 ≤ r) (r1 : r < c) (_s0 : 0 ≤ s) (s1 : s < c) (c1 : c ≤ 9223372036854775807) (h : c ≤ r + s) (w : World) :
    Calls Try.prog 53 #[.int .i64 r, .int .i64 s, .int .i64 c] w fun e w' => e = .returned (.tuple #[.int .i64 (r + s - c), .int .i64 1]) ∧ w = w' := by
  go_enter Try.func53, Try.ntmps53
  go_wp2
  go_ret2
  exact ⟨ret2 (by omega) rfl, rfl⟩
theorem radd_in (a b : Int) (ha : inR a) (hb : inR b) (h : inR (a + b)) (w : World) :
    Calls Try.prog 23 #[.int .i64 a, .int .i64 b] w fun e w' => e = .returned (.tuple #[.int .i64 (a + b), .int .i64 0]) ∧ w = w' :=
  (radd_any a b ha hb w).mono fun _ _ ⟨k, l⟩ => ⟨k.trans (ret2 (exV_in h) (exE_in h)), l⟩
theorem radd_out (a b : Int) (ha : inR a) (hb : inR b) (h : ¬ inR (a + b)) (w : World) :
    Calls Try.prog 23 #[.int .i64 a, .int .i64 b] w fun e w' => e = .returned (.tuple #[.int .i64 0, .int .i64 2]) ∧ w = w' :=
  (radd_any a b ha hb w).mono fun _ _ ⟨k, l⟩ => ⟨k.trans (ret2 (exV_out h) (exE_out h)), l⟩
structure RRel (a b c : Int) (K : Nat) (q r : Int) : Prop where
  eq : q * c + r = a / 2 ^ K * b
  r0 : 0 ≤ r
  r1 : r < c
  q0 : 0 ≤ q
  q1 : q ≤ 9223372036854775807
theorem RRel.start {a b c : Int} (ha : inR a) (a0 : 0 ≤ a) (c0 : 0 < c) : RRel a b c 63 0 0 := by
  unfold inR at ha
  refine ⟨?_, by omega, c0, by omega, by omega⟩
  rw [Int.ediv_eq_zero_of_lt a0 (by have : (2 : Int) ^ 63 = 9223372036854775808 := by decide
                                    omega)]
  simp
theorem pow_pos' (K : Nat) : (0 : Int) < 2 ^ K := by
  have : 0 < 2 ^ K := Nat.two_pow_pos K
  exact_mod_cast this
theorem half (a : Int) (K : Nat) : a / 2 ^ K = a / 2 ^ (K + 1) * 2 + a / 2 ^ K % 2 := by
  have h : a / 2 ^ (K + 1) = a / 2 ^ K / 2 := by
    rw [Int.pow_succ, Int.ediv_ediv_of_nonneg (Int.le_of_lt (pow_pos' K))]
  omega
theorem part_le {a b : Int} (a0 : 0 ≤ a) (b0 : 0 ≤ b) (K : Nat) : a / 2 ^ K * b ≤ a * b := Int.mul_le_mul_of_nonneg_right (Int.ediv_le_self _ a0) b0
theorem big_of {a b c x r : Int} (a0 : 0 ≤ a) (b0 : 0 ≤ b) (c0 : 0 < c) {K : Nat} (h : x * c + r = a / 2 ^ K * b) (r0 : 0 ≤ r) : x ≤ a * b / c := by
  rw [Int.le_ediv_iff_mul_le c0]
  have := part_le a0 b0 K
  omega
theorem twice (a b : Int) (K : Nat) : a / 2 ^ K * b = a / 2 ^ (K + 1) * b * 2 + a / 2 ^ K % 2 * b := by
  have h := half a K
  generalize a / 2 ^ K % 2 = m at *
  generalize a / 2 ^ (K + 1) = X at *
  rw [h, Int.add_mul, Int.mul_right_comm]
theorem RRel.over {a b c q r : Int} {K : Nat} (h : RRel a b c (K + 1) q r) (a0 : 0 ≤ a) (b0 : 0 ≤ b) (c0 : 0 < c) (hq : 4611686018427387904 ≤ q) : 9223372036854775808 ≤ a * b / c := by
  have h1 : (q * 2) * c + (r * 2 + a / 2 ^ K % 2 * b) = a / 2 ^ K * b := by
    rw [twice a b K, ← h.eq, Int.mul_right_comm]
    omega
  have h2 := big_of a0 b0 c0 h1 (by have := h.r0; have := Int.mul_nonneg (show 0 ≤ a / 2 ^ K % 2 by omega) b0; omega)
  omega
theorem RRel.zero {a b c q r q' r' o : Int} {K : Nat} (h : RRel a b c (K + 1) q r) (hb : a / 2 ^ K % 2 = 0) (ho : r * 2 = o * c + r') (r0 : 0 ≤ r') (r1 : r' < c) (hq : q' = q * 2 + o) (q0 : 0 ≤ q') (q1 : q' ≤ 9223372036854775807) :
    RRel a b c K q' r' := by
  refine ⟨?_, r0, r1, q0, q1⟩
  rw [twice a b K, hb, Int.zero_mul, Int.add_zero, ← h.eq, hq, Int.add_mul, Int.mul_right_comm]
  omega
theorem RRel.oneEq {a b c q r r' r'' o o' : Int} {K : Nat} (h : RRel a b c (K + 1) q r) (hb : a / 2 ^ K % 2 = 1) (ho : r * 2 = o * c + r') (ho' : r' + b % c = o' * c + r'') :
    (q * 2 + o + b / c + o') * c + r'' = a / 2 ^ K * b := by
  rw [twice a b K, hb, Int.one_mul, ← h.eq, Int.add_mul, Int.add_mul, Int.add_mul, Int.mul_right_comm]
  have := Int.ediv_mul_add_emod b c
  omega
theorem plus_any (r s c : Int) (r0 : 0 ≤ r) (r1 : r < c) (s0 : 0 ≤ s) (s1 : s < c) (c1 : c ≤ 9223372036854775807) :
    ∃ x o : Int, (0 ≤ x ∧ x < c) ∧ (0 ≤ o ∧ o ≤ 1) ∧ r + s = o * c + x ∧ ∀ w, Calls Try.prog 53 #[.int .i64 r, .int .i64 s, .int .i64 c] w fun e w' => e = .returned (.tuple #[.int .i64 x, .int .i64 o]) ∧ w = w' := by
  by_cases h : r + s < c
  · exact ⟨r + s, 0, by omega, by omega, by omega, plus_less r s c r0 s0 s1 c1 h⟩
  · exact ⟨r + s - c, 1, by omega, by omega, by omega, plus_more r s c r0 r1 s0 s1 c1 (by omega)⟩
theorem radd_as (a b x y : Int) (ha : inR a) (hb : inR b) (h : Hid (x = exV (a + b) ∧ y = exE (a + b))) (w : World) :
    Calls Try.prog 23 #[.int .i64 a, .int .i64 b] w fun e w' => e = .returned (.tuple #[.int .i64 x, .int .i64 y]) ∧ w = w' :=
  (radd_any a b ha hb w).mono fun _ _ ⟨k, l⟩ => ⟨k.trans (ret2 h.out.1.symm h.out.2.symm), l⟩
theorem big_out {a b c : Int} {up : Bool} (a0 : 0 ≤ a) (b0 : 0 ≤ b) (c0 : 0 < c) (h : 9223372036854775808 ≤ a * b / c) : 0 = mdV a b c up ∧ 2 = mdE a b c up := by
  refine md_out (q := mdQ a b c up) a0 b0 c0 rfl ?_
  unfold mdQ inR
  split <;> omega
theorem RRel.done {a b c q r : Int} (h : RRel a b c 0 q r) : a * b / c = q ∧ a * b % c = r := by
  refine divmod_of ?_ h.r0 h.r1
  have := h.eq
  simpa using this
set_option maxHeartbeats 2000000 in
set_option maxRecDepth 100000 in
theorem rmuldiv_good (a b c : Int) (up : Bool) (ha : inR a) (hb : inR b) (hc : inR c) (a0 : 0 ≤ a) (b0 : 0 ≤ b) (c0 : 0 < c) (w : World) :
    Calls Try.prog 41 #[.int .i64 a, .int .i64 b, .int .i64 c, .bool up] w fun e w' => e = .returned (.tuple #[.int .i64 (mdV a b c up), .int .i64 (mdE a b c up)]) ∧ w = w' := by
  have hs := Lib.hid (RRel.start (b := b) ha a0 c0)
  unfold inR at ha hb hc
  obtain ⟨ha1, ha2⟩ := ha
  obtain ⟨hb1, hb2⟩ := hb
  obtain ⟨hc1, hc2⟩ := hc
  have bq0 : 0 ≤ b / c := Int.ediv_nonneg b0 (by omega)
  have bq1 : b / c ≤ b := Int.ediv_le_self _ b0
  have br0 : 0 ≤ b % c := Int.emod_nonneg _ (by omega)
  have br1 : b % c < c := Int.emod_lt_of_pos _ c0
  go_enter Try.func41, Try.ntmps41
  go_wp2
  go_loop [10, 11, 12] (fun q r i => ∃ (K : Nat) (q' r' : Int), K ≤ 63 ∧ i = .int .i64 ((K : Int) - 1) ∧ q = .int .i64 q' ∧ r = .int .i64 r' ∧ Hid (RRel a b c K q' r')) (fun _ _ i => (intOf i + 1).toNat)
  case atStart => exact ⟨63, 0, 0, by omega, rfl, rfl, rfl, hs⟩
  case round =>
    obtain ⟨K, q, r, hK, rfl, rfl, rfl, hd⟩ := hrel
    have hr0 := hd.out.r0
    have hr1 := hd.out.r1
    have hq0 := hd.out.q0
    have hq1 := hd.out.q1
    clear hs
    rcases K with _ | K
    · rw [show ((0 : Nat) : Int) - 1 = -1 by omega]
      obtain ⟨e1, e2⟩ := hd.out.done
      have E1 := Lib.hid e1
      have E2 := Lib.hid e2
      clear e1 e2
      by_cases hu : up = true ∧ r ≠ 0
      · have hE : Hid (mdQ a b c up = q + 1) := by
          show _ = _; unfold mdQ; rw [E1.out, E2.out, if_pos hu]
        obtain ⟨hu1, hr⟩ := hu
        subst hu1
        have hr' : 0 < r := by omega
        clear hr
        have hm := Lib.hid (md_good (up := true) a0 b0 c0)
        go_wp2_with (go_at_call 23; refine (radd_any _ _ (by unfold inR; omega) (by unfold inR; omega) _).mono ?_; rintro e w' ⟨rfl, rfl⟩)
        go_ret2
        exact ⟨ret2 (by rw [hm.out.1, hE.out]) (by rw [hm.out.2, hE.out]), rfl⟩
      · have hE : Hid (mdQ a b c up = q) := by
          show _ = _; unfold mdQ; rw [E1.out, E2.out, if_neg hu]
        have hm := Lib.hid (md_in a0 b0 c0 hE.out (by unfold inR; omega))
        cases up
        · clear hu
          go_wp2
          go_ret2
          exact ⟨ret2 hm.out.1 hm.out.2, rfl⟩
        · have hr' : r ≤ 0 := by simp at hu; omega
          clear hu
          go_wp2
          go_ret2
          exact ⟨ret2 hm.out.1 hm.out.2, rfl⟩
    · rw [show ((K + 1 : Nat) : Int) - 1 = (K : Int) by omega]
      by_cases hbig : 4611686018427387904 ≤ q
      · have hm := Lib.hid (big_out (up := up) a0 b0 c0 (hd.out.over a0 b0 c0 hbig))
        go_wp2
        go_ret2
        exact ⟨ret2 hm.out.1 hm.out.2, rfl⟩
      · obtain ⟨r', o, hr', ho, hro, cP⟩ := plus_any r r c hr0 hr1 hr0 hr1 hc2
        obtain ⟨q', hq'⟩ : ∃ q', q' = q + q + o := ⟨_, rfl⟩
        have cA : Hid (q' = exV (q + q + o) ∧ 0 = exE (q + q + o)) := by rw [hq']; exact exi (by unfold inR; omega)
        have bq' : 0 ≤ q' ∧ q' ≤ 9223372036854775807 := by omega
        have CP := Lib.hid cP
        have HRO := Lib.hid hro
        have HQ := Lib.hid hq'
        clear cP hro hq'
        by_cases hbit : a / 2 ^ K % 2 = 0
        · have hb' : ((a / 2 ^ K).tmod 2 == 1) = false := by
            rw [Int.tmod_eq_emod_of_nonneg (Int.ediv_nonneg a0 (Int.le_of_lt (pow_pos' K))), hbit]; rfl
          have hd' := Lib.hid (hd.out.zero hbit (show r * 2 = o * c + r' by have := HRO.out; omega) hr'.1 hr'.2 (show q' = q * 2 + o by have := HQ.out; omega) bq'.1 bq'.2)
          clear hbit
          go_wp2_with (first | (go_at_call 53; ((with_reducible refine (CP.out _).mono ?_); rintro e w' ⟨rfl, rfl⟩)) | (go_at_call 23; ((with_reducible refine (radd_as _ _ q' 0 (by unfold inR; omega) (by unfold inR; omega) cA _).mono ?_); rintro e w' ⟨rfl, rfl⟩)))
          go_round
          case rel => exact ⟨K, q', r', by omega, rfl, rfl, rfl, hd'⟩
          case measure => simp [intOf]
        · have hbit1 : a / 2 ^ K % 2 = 1 := by omega
          have hb' : ((a / 2 ^ K).tmod 2 == 1) = true := by
            rw [Int.tmod_eq_emod_of_nonneg (Int.ediv_nonneg a0 (Int.le_of_lt (pow_pos' K))), hbit1]; rfl
          obtain ⟨r'', o', hr'', ho', hro', cP'⟩ := plus_any r' (b % c) c hr'.1 hr'.2 br0 br1 hc2
          have hEq := Lib.hid (hd.out.oneEq hbit1 (show r * 2 = o * c + r' by have := HRO.out; omega) hro')
          have CP' := Lib.hid cP'
          clear cP' hro' hbit hbit1
          by_cases hA : q' + b / c ≤ 9223372036854775807
          · have cB := Lib.hid (exi (show inR (q' + b / c) by unfold inR; omega))
            by_cases hB : q' + b / c + o' ≤ 9223372036854775807
            · have cC := Lib.hid (exi (show inR (q' + b / c + o') by unfold inR; omega))
              have hd' : Hid (RRel a b c K (q' + b / c + o') r'') := ⟨by rw [HQ.out, ← hEq.out]; rw [show q + q + o = q * 2 + o by omega], hr''.1, hr''.2, by omega, hB⟩
              go_wp2_with (first | (go_at_call 53; ((with_reducible refine (CP.out _).mono ?_); rintro e w' ⟨rfl, rfl⟩)) | (go_at_call 53; ((with_reducible refine (CP'.out _).mono ?_); rintro e w' ⟨rfl, rfl⟩)) | (go_at_call 23; ((with_reducible refine (radd_as (q + q) o q' 0 (by unfold inR; omega) (by unfold inR; omega) cA _).mono ?_); rintro e w' ⟨rfl, rfl⟩)) | (go_at_call 23; ((with_reducible refine (radd_as q' (b / c) _ 0 (by unfold inR; omega) (by unfold inR; omega) cB _).mono ?_); rintro e w' ⟨rfl, rfl⟩)) | (go_at_call 23; ((with_reducible refine (radd_as (q' + b / c) o' _ 0 (by unfold inR; omega) (by unfold inR; omega) cC _).mono ?_); rintro e w' ⟨rfl, rfl⟩)))
              go_round
              case rel => exact ⟨K, _, r'', by omega, rfl, rfl, rfl, hd'⟩
              case measure => simp [intOf]
            · have cC := Lib.hid (exo (show ¬ inR (q' + b / c + o') by unfold inR; omega))
              have hm : Hid (0 = mdV a b c up ∧ 2 = mdE a b c up) := big_out a0 b0 c0 (by
                have := big_of a0 b0 c0 hEq.out hr''.1
                have := HQ.out
                omega)
              go_wp2_with (first | (go_at_call 53; ((with_reducible refine (CP.out _).mono ?_); rintro e w' ⟨rfl, rfl⟩)) | (go_at_call 53; ((with_reducible refine (CP'.out _).mono ?_); rintro e w' ⟨rfl, rfl⟩)) | (go_at_call 23; ((with_reducible refine (radd_as (q + q) o q' 0 (by unfold inR; omega) (by unfold inR; omega) cA _).mono ?_); rintro e w' ⟨rfl, rfl⟩)) | (go_at_call 23; ((with_reducible refine (radd_as q' (b / c) _ 0 (by unfold inR; omega) (by unfold inR; omega) cB _).mono ?_); rintro e w' ⟨rfl, rfl⟩)) | (go_at_call 23; ((with_reducible refine (radd_as (q' + b / c) o' 0 2 (by unfold inR; omega) (by unfold inR; omega) cC _).mono ?_); rintro e w' ⟨rfl, rfl⟩)))
              go_ret2
              exact ⟨ret2 hm.out.1 hm.out.2, rfl⟩
          · have cB := Lib.hid (exo (show ¬ inR (q' + b / c) by unfold inR; omega))
            have hm : Hid (0 = mdV a b c up ∧ 2 = mdE a b c up) := big_out a0 b0 c0 (by
              have := big_of a0 b0 c0 hEq.out hr''.1
              have := HQ.out
              omega)
            go_wp2_with (first | (go_at_call 53; ((with_reducible refine (CP.out _).mono ?_); rintro e w' ⟨rfl, rfl⟩)) | (go_at_call 53; ((with_reducible refine (CP'.out _).mono ?_); rintro e w' ⟨rfl, rfl⟩)) | (go_at_call 23; ((with_reducible refine (radd_as (q + q) o q' 0 (by unfold inR; omega) (by unfold inR; omega) cA _).mono ?_); rintro e w' ⟨rfl, rfl⟩)) | (go_at_call 23; ((with_reducible refine (radd_as q' (b / c) 0 2 (by unfold inR; omega) (by unfold inR; omega) cB _).mono ?_); rintro e w' ⟨rfl, rfl⟩)))
            go_ret2
            exact ⟨ret2 hm.out.1 hm.out.2, rfl⟩
set_option maxHeartbeats 1000000 in
theorem rmuldiv_bad (a b c : Int) (up : Bool) (h : a < 0 ∨ b < 0 ∨ c ≤ 0) (w : World) :
    Calls Try.prog 41 #[.int .i64 a, .int .i64 b, .int .i64 c, .bool up] w fun e w' => e = .returned (.tuple #[.int .i64 (mdV a b c up), .int .i64 (mdE a b c up)]) ∧ w = w' := by
  have hm := Lib.hid (md_bad (up := up) h)
  by_cases h1 : a < 0
  · clear h
    go_enter Try.func41, Try.ntmps41
    go_wp2
    go_ret2
    exact ⟨ret2 hm.out.1.symm hm.out.2.symm, rfl⟩
  · have h1' : 0 ≤ a := by omega
    by_cases h2 : b < 0
    · clear h
      go_enter Try.func41, Try.ntmps41
      go_wp2
      go_ret2
      exact ⟨ret2 hm.out.1.symm hm.out.2.symm, rfl⟩
    · have h2' : 0 ≤ b := by omega
      have h3' : c ≤ 0 := by omega
      clear h h1 h2
      go_enter Try.func41, Try.ntmps41
      go_wp2
      go_ret2
      exact ⟨ret2 hm.out.1.symm hm.out.2.symm, rfl⟩
theorem rmuldiv_any (a b c : Int) (up : Bool) (ha : inR a) (hb : inR b) (hc : inR c) (w : World) :
    Calls Try.prog 41 #[.int .i64 a, .int .i64 b, .int .i64 c, .bool up] w fun e w' => e = .returned (.tuple #[.int .i64 (mdV a b c up), .int .i64 (mdE a b c up)]) ∧ w = w' := by
  by_cases h : a < 0 ∨ b < 0 ∨ c ≤ 0
  · exact rmuldiv_bad a b c up h w
  · exact rmuldiv_good a b c up ha hb hc (by omega) (by omega) (by omega) w
end Go.Proofs.Ytfpcnilcbaiojaa.qar
