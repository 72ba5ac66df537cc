/- The contracts of the document's up, more, loads and right (chapter 16). -/
import Derived.Test.YtnjkgalbbhmgjaaReW
import Derived.Test.YtnjkgalbbhmgjaaQaC7
import Derived.Deep.DeepCutAuto
namespace Go.Proofs.Ytnjkgalbbhmgjaa.rsp
open Go.ChangeShapes Go.WideShapes Go.ChangeAt Go.RowKit Go.Deep
theorem retp {a b c d : Int} (h : a = c) (k : b = d) : Ending.returned (.tuple #[.int .i64 a, .int .i64 b]) = .returned (.tuple #[.int .i64 c, .int .i64 d]) := by rw [h, k]
set_option maxRecDepth 100000 in
theorem rup_any (n d : Int) (hn : 0 ≤ n) (hd : 1 ≤ d) (hr : n ≤ 9223372036854775807) (hr2 : d ≤ 9223372036854775807) (w : World) : Calls Try.prog 19 #[.int .i64 n, .int .i64 d] w fun e w' => e = .returned (.int .i64 (up n d)) ∧ w' = w := by
  have hb := up_bd hn hd
  have q1 : n.tdiv d = n / d := Int.tdiv_eq_ediv_of_nonneg (by omega)
  have q2 : n.tmod d = n % d := Int.tmod_eq_emod_of_nonneg (by omega)
  have hq0 : 0 ≤ n / d := Int.ediv_nonneg (by omega) (by omega)
  have hq1 : n / d ≤ n := Int.ediv_le_self _ (by omega)
  by_cases h : 0 < n % d
  · have HU : Hid (up n d = n / d + 1) := Lib.hid (by unfold up; rw [if_pos h])
    have hu : n / d + 1 ≤ n := by have := HU.out; omega
    have b1 : decide (0 < n % d) = true := by simp [h]
    have hd0 : d ≠ 0 := by omega
    obtain ⟨q, hq⟩ : ∃ q, n / d = q := ⟨_, rfl⟩
    obtain ⟨r, hrr⟩ : ∃ r, n % d = r := ⟨_, rfl⟩
    rw [hq] at q1 hq0 hq1 HU hu
    rw [hrr] at q2 h b1
    clear hb hq hrr
    go_enter Try.func19, Try.ntmps19
    go_wp2
    go_ret
    exact ⟨ret1 HU.out.symm, rfl⟩
  · have HU : Hid (up n d = n / d) := Lib.hid (by unfold up; rw [if_neg h]; omega)
    have b1 : decide (0 < n % d) = false := by simp; omega
    have hd0 : d ≠ 0 := by omega
    obtain ⟨q, hq⟩ : ∃ q, n / d = q := ⟨_, rfl⟩
    obtain ⟨r, hrr⟩ : ∃ r, n % d = r := ⟨_, rfl⟩
    rw [hq] at q1 hq0 hq1 HU
    rw [hrr] at q2 h b1
    clear hb hq hrr
    go_enter Try.func19, Try.ntmps19
    go_wp2
    go_ret
    exact ⟨ret1 HU.out.symm, rfl⟩
theorem radd_good (a b : Int) (ha : 0 ≤ a) (hb : 0 ≤ b) (h : a + b ≤ 9223372036854775807) (w : World) : Calls Try.prog 28 #[.int .i64 a, .int .i64 b] w fun e w' => e = .returned (.tuple #[.int .i64 (a + b), .int .i64 0]) ∧ w' = w :=
  (qar.radd_any a b (by unfold inR; omega) (by unfold inR; omega) w).mono fun e w' ⟨h1, h2⟩ => ⟨by rw [h1, qar.exV_in (by unfold inR; omega), qar.exE_in (by unfold inR; omega)], h2.symm⟩
theorem radd_bad (a b : Int) (ha : 0 ≤ a) (hb : 0 ≤ b) (ha' : a ≤ 9223372036854775807) (hb' : b ≤ 9223372036854775807) (h : 9223372036854775807 < a + b) (w : World) : Calls Try.prog 28 #[.int .i64 a, .int .i64 b] w fun e w' => e = .returned (.tuple #[.int .i64 0, .int .i64 2]) ∧ w' = w :=
  (qar.radd_any a b (by unfold inR; omega) (by unfold inR; omega) w).mono fun e w' ⟨h1, h2⟩ => ⟨by rw [h1, qar.exV_out (by unfold inR; omega), qar.exE_out (by unfold inR; omega)], h2.symm⟩
set_option maxRecDepth 100000 in
theorem rmore_good (s m k : Int) (hs : 0 ≤ s) (hm : 0 ≤ m) (hk : 0 ≤ k) (hs' : s ≤ 4611686018427387904) (hm' : m ≤ 9223372036854775807) (hk' : k ≤ 9223372036854775807) (h : s + m * k ≤ 4611686018427387904) (w : World) : Calls Try.prog 18 #[.int .i64 s, .int .i64 m, .int .i64 k] w fun e w' => e = .returned (.tuple #[.int .i64 (s + m * k), .bool true]) ∧ w' = w := by
  have h0 : 0 ≤ m * k := Int.mul_nonneg hm hk
  have CM : Hid (∀ W, Calls Try.prog 27 #[.int .i64 m, .int .i64 k] W fun e w' => e = .returned (.tuple #[.int .i64 (m * k), .int .i64 0]) ∧ w' = W) := fun W =>
    (qar.rmul_any m k (by unfold inR; omega) (by unfold inR; omega) W).mono fun e w' ⟨h1, h2⟩ => ⟨by rw [h1, qar.exV_in (by unfold inR; omega), qar.exE_in (by unfold inR; omega)], h2.symm⟩
  have CA : Hid (∀ W, Calls Try.prog 28 #[.int .i64 s, .int .i64 (m * k)] W fun e w' => e = .returned (.tuple #[.int .i64 (s + m * k), .int .i64 0]) ∧ w' = W) := fun W => radd_good s (m * k) hs h0 (by omega) W
  generalize m * k = z at *
  have b1 : decide (s + z ≤ 4611686018427387904) = true := by simp [h]
  clear h h0 hm hk hm' hk' hs hs'
  go_enter Try.func18, Try.ntmps18
  go_wp2_with (first | (go_at_call 27; (with_reducible refine (CM.out _).mono ?_); rintro e w1 ⟨rfl, rfl⟩) | (go_at_call 28; (with_reducible refine (CA.out _).mono ?_); rintro e w2 ⟨rfl, rfl⟩))
  go_ret2
  exact ⟨rfl, rfl⟩
set_option maxRecDepth 100000 in
theorem rmore_bad (s m k : Int) (hs : 0 ≤ s) (hm : 0 ≤ m) (hk : 0 ≤ k) (hs' : s ≤ 4611686018427387904) (hm' : m ≤ 9223372036854775807) (hk' : k ≤ 9223372036854775807) (h : 4611686018427387904 < s + m * k) (w : World) : Calls Try.prog 18 #[.int .i64 s, .int .i64 m, .int .i64 k] w fun e w' => (∃ v : Int, e = .returned (.tuple #[.int .i64 v, .bool false])) ∧ w' = w := by
  have h0 : 0 ≤ m * k := Int.mul_nonneg hm hk
  by_cases hz : m * k ≤ 9223372036854775807
  · by_cases hx : s + m * k ≤ 9223372036854775807
    · have CM : Hid (∀ W, Calls Try.prog 27 #[.int .i64 m, .int .i64 k] W fun e w' => e = .returned (.tuple #[.int .i64 (m * k), .int .i64 0]) ∧ w' = W) := fun W =>
        (qar.rmul_any m k (by unfold inR; omega) (by unfold inR; omega) W).mono fun e w' ⟨h1, h2⟩ => ⟨by rw [h1, qar.exV_in (by unfold inR; omega), qar.exE_in (by unfold inR; omega)], h2.symm⟩
      have CA : Hid (∀ W, Calls Try.prog 28 #[.int .i64 s, .int .i64 (m * k)] W fun e w' => e = .returned (.tuple #[.int .i64 (s + m * k), .int .i64 0]) ∧ w' = W) := fun W => radd_good s (m * k) hs h0 (by omega) W
      generalize m * k = z at *
      have b1 : decide (s + z ≤ 4611686018427387904) = false := by simp; omega
      clear h h0 hm hk hm' hk' hs hs' hz hx
      go_enter Try.func18, Try.ntmps18
      go_wp2_with (first | (go_at_call 27; (with_reducible refine (CM.out _).mono ?_); rintro e w1 ⟨rfl, rfl⟩) | (go_at_call 28; (with_reducible refine (CA.out _).mono ?_); rintro e w2 ⟨rfl, rfl⟩))
      go_ret2
      exact ⟨⟨_, rfl⟩, rfl⟩
    · have CM : Hid (∀ W, Calls Try.prog 27 #[.int .i64 m, .int .i64 k] W fun e w' => e = .returned (.tuple #[.int .i64 (m * k), .int .i64 0]) ∧ w' = W) := fun W =>
        (qar.rmul_any m k (by unfold inR; omega) (by unfold inR; omega) W).mono fun e w' ⟨h1, h2⟩ => ⟨by rw [h1, qar.exV_in (by unfold inR; omega), qar.exE_in (by unfold inR; omega)], h2.symm⟩
      have CA : Hid (∀ W, Calls Try.prog 28 #[.int .i64 s, .int .i64 (m * k)] W fun e w' => e = .returned (.tuple #[.int .i64 0, .int .i64 2]) ∧ w' = W) := fun W => radd_bad s (m * k) hs h0 (by omega) (by omega) (by omega) W
      generalize m * k = z at *
      clear h h0 hm hk hm' hk' hs hs' hz hx
      go_enter Try.func18, Try.ntmps18
      go_wp2_with (first | (go_at_call 27; (with_reducible refine (CM.out _).mono ?_); rintro e w1 ⟨rfl, rfl⟩) | (go_at_call 28; (with_reducible refine (CA.out _).mono ?_); rintro e w2 ⟨rfl, rfl⟩))
      go_ret2
      exact ⟨⟨_, rfl⟩, rfl⟩
  · have CM : Hid (∀ W, Calls Try.prog 27 #[.int .i64 m, .int .i64 k] W fun e w' => e = .returned (.tuple #[.int .i64 0, .int .i64 2]) ∧ w' = W) := fun W =>
      (qar.rmul_any m k (by unfold inR; omega) (by unfold inR; omega) W).mono fun e w' ⟨h1, h2⟩ => ⟨by rw [h1, qar.exV_out (by unfold inR; omega), qar.exE_out (by unfold inR; omega)], h2.symm⟩
    clear h h0 hm hk hm' hk' hs hs' hz
    go_enter Try.func18, Try.ntmps18
    go_wp2_with (go_at_call 27; (with_reducible refine (CM.out _).mono ?_); rintro e w1 ⟨rfl, rfl⟩)
    go_ret2
    exact ⟨⟨_, rfl⟩, rfl⟩
set_option maxRecDepth 100000 in
set_option maxHeartbeats 4000000 in
theorem rloads_any (A : Option Addr) (n c : Nat) (l : List Ld) (w : World) (h : RLd w A n l) : Calls Try.prog 26 #[.slice A n c] w fun e w' => e = .returned (.bool (okLs l)) ∧ But No w w' := by
  have HN := Lib.hid h.len
  have HL := Lib.hid h
  have hmax := h.max
  clear h
  go_enter Try.func26, Try.ntmps26
  go_wp2_with fail
  go_loopw [3] (fun i wr => ∃ q : Nat, i = .int .i64 (q : Int) ∧ q ≤ n ∧ Hid (∀ j x, j < q → l[j]? = some x → okD x = true) ∧ Hid (But No w wr)) (fun i _ => n - (intOf i).toNat)
  case atStart => exact ⟨0, rfl, by omega, fun j x hj => absurd hj (by omega), But.refl No w⟩
  case round =>
    obtain ⟨q, rfl, hq, HG, HBR⟩ := hrel
    by_cases hqn : q < n
    · have hqn2 : (q : Int) < (n : Int) := by omega
      have hq0 : (0 : Int) ≤ (q : Int) := Int.natCast_nonneg q
      obtain ⟨x, hx⟩ : ∃ x, l[q]? = some x := ⟨_, List.getElem?_eq_getElem (by rw [HN.out]; exact hqn)⟩
      obtain ⟨b, off, rfl, _, e0, e1, e2⟩ := (HL.out.no HBR.out).at1 hx
      have HX := Lib.hid hx
      clear hx
      obtain ⟨x0, x1, x2⟩ := x
      simp only at e0 e1 e2
      by_cases g0 : x0 < 0
      · have HV : Hid (okLs l = false) := Lib.hid (by
          cases e : okLs l with
          | false => rfl
          | true =>
            have := okD_iff.1 ((okLs_iff.1 e).2 _ (List.mem_of_getElem? HX.out))
            dsimp only at this
            omega)
        have k0 : decide (x0 < 0) = true := by simp [g0]
        go_wp2
        go_ret
        exact ⟨ret_bool HV.out.symm, HBR.out.alloc _⟩
      · have k0 : decide (x0 < 0) = false := by simp; omega
        by_cases g1 : 1099511627776 < x0
        · have HV : Hid (okLs l = false) := Lib.hid (by
            cases e : okLs l with
            | false => rfl
            | true =>
              have := okD_iff.1 ((okLs_iff.1 e).2 _ (List.mem_of_getElem? HX.out))
              dsimp only at this
              omega)
          have k1 : decide (1099511627776 < x0) = true := by simp [g1]
          go_wp2
          go_ret
          exact ⟨ret_bool HV.out.symm, HBR.out.alloc _⟩
        · have k1 : decide (1099511627776 < x0) = false := by simp; omega
          by_cases g2 : x1 < 1
          · have HV : Hid (okLs l = false) := Lib.hid (by
              cases e : okLs l with
              | false => rfl
              | true =>
                have := okD_iff.1 ((okLs_iff.1 e).2 _ (List.mem_of_getElem? HX.out))
                dsimp only at this
                omega)
            have k2 : decide (x1 < 1) = true := by simp [g2]
            go_wp2
            go_ret
            exact ⟨ret_bool HV.out.symm, HBR.out.alloc _⟩
          · have k2 : decide (x1 < 1) = false := by simp; omega
            by_cases g3 : 1099511627776 < x1
            · have HV : Hid (okLs l = false) := Lib.hid (by
                cases e : okLs l with
                | false => rfl
                | true =>
                  have := okD_iff.1 ((okLs_iff.1 e).2 _ (List.mem_of_getElem? HX.out))
                  dsimp only at this
                  omega)
              have k3 : decide (1099511627776 < x1) = true := by simp [g3]
              go_wp2
              go_ret
              exact ⟨ret_bool HV.out.symm, HBR.out.alloc _⟩
            · have k3 : decide (1099511627776 < x1) = false := by simp; omega
              by_cases g4 : x2 < 0
              · have HV : Hid (okLs l = false) := Lib.hid (by
                  cases e : okLs l with
                  | false => rfl
                  | true =>
                    have := okD_iff.1 ((okLs_iff.1 e).2 _ (List.mem_of_getElem? HX.out))
                    dsimp only at this
                    omega)
                have k4 : decide (x2 < 0) = true := by simp [g4]
                go_wp2
                go_ret
                exact ⟨ret_bool HV.out.symm, HBR.out.alloc _⟩
              · have k4 : decide (x2 < 0) = false := by simp; omega
                by_cases g5 : 1099511627776 < x2
                · have HV : Hid (okLs l = false) := Lib.hid (by
                    cases e : okLs l with
                    | false => rfl
                    | true =>
                      have := okD_iff.1 ((okLs_iff.1 e).2 _ (List.mem_of_getElem? HX.out))
                      dsimp only at this
                      omega)
                  have k5 : decide (1099511627776 < x2) = true := by simp [g5]
                  go_wp2
                  go_ret
                  exact ⟨ret_bool HV.out.symm, HBR.out.alloc _⟩
                · have k5 : decide (1099511627776 < x2) = false := by simp; omega
                  have HK : Hid (okD ⟨x0, x1, x2⟩ = true) := Lib.hid (okD_iff.2 (by dsimp only; omega))
                  clear g0 g1 g2 g3 g4 g5
                  go_wp2
                  go_roundw
                  case rel =>
                    refine ⟨q + 1, by go_num, by omega, fun j y hj hy => ?_, HBR.out.alloc _⟩
                    rcases Nat.lt_succ_iff_lt_or_eq.1 hj with e | e
                    · exact HG.out j y e hy
                    · subst e; rw [HX.out] at hy; cases hy; exact HK.out
                  case measure => simp [intOf]; omega
    · have hqn2 : ¬ ((q : Int) < (n : Int)) := by omega
      obtain rfl : q = n := by omega
      by_cases g : q ≤ 72
      · have HV : Hid (okLs l = true) := Lib.hid (okLs_iff.2 ⟨by rw [HN.out]; exact g, fun x hx => by
          obtain ⟨j, hj⟩ := List.mem_iff_getElem?.1 hx
          exact HG.out j x (by have := (List.getElem?_eq_some_iff.1 hj).1; rw [HN.out] at this; exact this) hj⟩)
        have k1 : decide (q ≤ 72) = true := by simp [g]
        have k2 : decide ((q : Int) ≤ 72) = true := by simp; omega
        go_wp2
        go_ret
        exact ⟨ret_bool HV.out.symm, HBR.out⟩
      · have HV : Hid (okLs l = false) := Lib.hid (by cases e : okLs l with | false => rfl | true => have := (okLs_iff.1 e).1; have := HN.out; omega)
        have k1 : decide (q ≤ 72) = false := by simp; omega
        have k2 : decide ((q : Int) ≤ 72) = false := by simp; omega
        go_wp2
        go_ret
        exact ⟨ret_bool HV.out.symm, HBR.out⟩
set_option maxRecDepth 100000 in
set_option maxHeartbeats 4000000 in
theorem rright_any (A : Option Addr) (n c : Nat) (a : List Ld) (B : Option Addr) (m d : Nat) (b : List Ld) (own bl rl : Int) (w : World) (h : RLd w A n a) (h' : RLd w B m b) : Calls Try.prog 17 #[.int .i64 own, .int .i64 bl, .int .i64 rl, .slice A n c, .slice B m d] w fun e w' => e = .returned (.bool (right own bl rl a b)) ∧ But No w w' := by
  have CA : Hid (∀ W, But No w W → Calls Try.prog 26 #[.slice A n c] W fun e w' => e = .returned (.bool (okLs a)) ∧ But No W w') := fun W hb => rloads_any A n c a W (h.no hb)
  have CB : Hid (∀ W, But No w W → Calls Try.prog 26 #[.slice B m d] W fun e w' => e = .returned (.bool (okLs b)) ∧ But No W w') := fun W hb => rloads_any B m d b W (h'.no hb)
  clear h h'
  obtain ⟨r, hr⟩ : ∃ r, right own bl rl a b = r := ⟨_, rfl⟩
  rw [hr]
  have HR : Hid (right own bl rl a b = r) := Lib.hid hr
  obtain ⟨u, hu⟩ : ∃ u, okLs a = u := ⟨_, rfl⟩
  obtain ⟨v, hv⟩ : ∃ v, okLs b = v := ⟨_, rfl⟩
  have HQ : Hid (r = (u && (v && (inT 0 own && (inT 0 bl && inT 0 rl))))) := Lib.hid (by rw [← hr, ← hu, ← hv]; rfl)
  rw [hu] at CA
  rw [hv] at CB
  clear hr HR hu hv
  cases u with
  | false =>
    have HV : Hid (r = false) := Lib.hid (by rw [HQ.out]; rfl)
    go_enter Try.func17, Try.ntmps17
    go_upto_region 2 with (go_at_call 26; (with_reducible refine (CA.out _ (But.refl No w)).mono ?_); rintro e w1 ⟨rfl, hb1⟩; have HB1 := Lib.hid hb1; clear hb1)
    go_wp2_with (go_at_call 26; (with_reducible refine (CB.out _ HB1.out).mono ?_); rintro e w2 ⟨rfl, hb2⟩; have HB2 := Lib.hid hb2; clear hb2)
    go_ret
    exact ⟨ret_bool HV.out.symm, HB1.out.trans HB2.out⟩
  | true =>
    cases v with
    | false =>
      have HV : Hid (r = false) := Lib.hid (by rw [HQ.out]; rfl)
      go_enter Try.func17, Try.ntmps17
      go_upto_region 2 with (go_at_call 26; (with_reducible refine (CA.out _ (But.refl No w)).mono ?_); rintro e w1 ⟨rfl, hb1⟩; have HB1 := Lib.hid hb1; clear hb1)
      go_wp2_with (go_at_call 26; (with_reducible refine (CB.out _ HB1.out).mono ?_); rintro e w2 ⟨rfl, hb2⟩; have HB2 := Lib.hid hb2; clear hb2)
      go_ret
      exact ⟨ret_bool HV.out.symm, HB1.out.trans HB2.out⟩
    | true =>
      by_cases g0 : 0 ≤ own
      · have k0 : decide (0 ≤ own) = true := by simp [g0]
        by_cases g1 : own ≤ 1099511627776
        · have k1 : decide (own ≤ 1099511627776) = true := by simp [g1]
          by_cases g2 : 0 ≤ bl
          · have k2 : decide (0 ≤ bl) = true := by simp [g2]
            by_cases g3 : bl ≤ 1099511627776
            · have k3 : decide (bl ≤ 1099511627776) = true := by simp [g3]
              by_cases g4 : 0 ≤ rl
              · have k4 : decide (0 ≤ rl) = true := by simp [g4]
                by_cases g5 : rl ≤ 1099511627776
                · have k5 : decide (rl ≤ 1099511627776) = true := by simp [g5]
                  have HV : Hid (r = true) := Lib.hid (by rw [HQ.out, inT_true.2 ⟨g0, g1⟩, inT_true.2 ⟨g2, g3⟩, inT_true.2 ⟨g4, g5⟩]; rfl)
                  clear g0 g1 g2 g3 g4 g5
                  go_enter Try.func17, Try.ntmps17
                  go_upto_region 2 with (go_at_call 26; (with_reducible refine (CA.out _ (But.refl No w)).mono ?_); rintro e w1 ⟨rfl, hb1⟩; have HB1 := Lib.hid hb1; clear hb1)
                  go_wp2_with (go_at_call 26; (with_reducible refine (CB.out _ HB1.out).mono ?_); rintro e w2 ⟨rfl, hb2⟩; have HB2 := Lib.hid hb2; clear hb2)
                  go_ret
                  exact ⟨ret_bool HV.out.symm, HB1.out.trans HB2.out⟩
                · have k5 : decide (rl ≤ 1099511627776) = false := by simp; omega
                  have HV : Hid (r = false) := Lib.hid (by have E : inT 0 rl = false := inT_false.2 (by omega)
                                                           rw [HQ.out, E]; simp)
                  go_enter Try.func17, Try.ntmps17
                  go_upto_region 2 with (go_at_call 26; (with_reducible refine (CA.out _ (But.refl No w)).mono ?_); rintro e w1 ⟨rfl, hb1⟩; have HB1 := Lib.hid hb1; clear hb1)
                  go_wp2_with (go_at_call 26; (with_reducible refine (CB.out _ HB1.out).mono ?_); rintro e w2 ⟨rfl, hb2⟩; have HB2 := Lib.hid hb2; clear hb2)
                  go_ret
                  exact ⟨ret_bool HV.out.symm, HB1.out.trans HB2.out⟩
              · have k4 : decide (0 ≤ rl) = false := by simp; omega
                have HV : Hid (r = false) := Lib.hid (by have E : inT 0 rl = false := inT_false.2 (by omega)
                                                         rw [HQ.out, E]; simp)
                go_enter Try.func17, Try.ntmps17
                go_upto_region 2 with (go_at_call 26; (with_reducible refine (CA.out _ (But.refl No w)).mono ?_); rintro e w1 ⟨rfl, hb1⟩; have HB1 := Lib.hid hb1; clear hb1)
                go_wp2_with (go_at_call 26; (with_reducible refine (CB.out _ HB1.out).mono ?_); rintro e w2 ⟨rfl, hb2⟩; have HB2 := Lib.hid hb2; clear hb2)
                go_ret
                exact ⟨ret_bool HV.out.symm, HB1.out.trans HB2.out⟩
            · have k3 : decide (bl ≤ 1099511627776) = false := by simp; omega
              have HV : Hid (r = false) := Lib.hid (by have E : inT 0 bl = false := inT_false.2 (by omega)
                                                       rw [HQ.out, E]; simp)
              go_enter Try.func17, Try.ntmps17
              go_upto_region 2 with (go_at_call 26; (with_reducible refine (CA.out _ (But.refl No w)).mono ?_); rintro e w1 ⟨rfl, hb1⟩; have HB1 := Lib.hid hb1; clear hb1)
              go_wp2_with (go_at_call 26; (with_reducible refine (CB.out _ HB1.out).mono ?_); rintro e w2 ⟨rfl, hb2⟩; have HB2 := Lib.hid hb2; clear hb2)
              go_ret
              exact ⟨ret_bool HV.out.symm, HB1.out.trans HB2.out⟩
          · have k2 : decide (0 ≤ bl) = false := by simp; omega
            have HV : Hid (r = false) := Lib.hid (by have E : inT 0 bl = false := inT_false.2 (by omega)
                                                     rw [HQ.out, E]; simp)
            go_enter Try.func17, Try.ntmps17
            go_upto_region 2 with (go_at_call 26; (with_reducible refine (CA.out _ (But.refl No w)).mono ?_); rintro e w1 ⟨rfl, hb1⟩; have HB1 := Lib.hid hb1; clear hb1)
            go_wp2_with (go_at_call 26; (with_reducible refine (CB.out _ HB1.out).mono ?_); rintro e w2 ⟨rfl, hb2⟩; have HB2 := Lib.hid hb2; clear hb2)
            go_ret
            exact ⟨ret_bool HV.out.symm, HB1.out.trans HB2.out⟩
        · have k1 : decide (own ≤ 1099511627776) = false := by simp; omega
          have HV : Hid (r = false) := Lib.hid (by have E : inT 0 own = false := inT_false.2 (by omega)
                                                   rw [HQ.out, E]; simp)
          go_enter Try.func17, Try.ntmps17
          go_upto_region 2 with (go_at_call 26; (with_reducible refine (CA.out _ (But.refl No w)).mono ?_); rintro e w1 ⟨rfl, hb1⟩; have HB1 := Lib.hid hb1; clear hb1)
          go_wp2_with (go_at_call 26; (with_reducible refine (CB.out _ HB1.out).mono ?_); rintro e w2 ⟨rfl, hb2⟩; have HB2 := Lib.hid hb2; clear hb2)
          go_ret
          exact ⟨ret_bool HV.out.symm, HB1.out.trans HB2.out⟩
      · have k0 : decide (0 ≤ own) = false := by simp; omega
        have HV : Hid (r = false) := Lib.hid (by have E : inT 0 own = false := inT_false.2 (by omega)
                                                 rw [HQ.out, E]; simp)
        go_enter Try.func17, Try.ntmps17
        go_upto_region 2 with (go_at_call 26; (with_reducible refine (CA.out _ (But.refl No w)).mono ?_); rintro e w1 ⟨rfl, hb1⟩; have HB1 := Lib.hid hb1; clear hb1)
        go_wp2_with (go_at_call 26; (with_reducible refine (CB.out _ HB1.out).mono ?_); rintro e w2 ⟨rfl, hb2⟩; have HB2 := Lib.hid hb2; clear hb2)
        go_ret
        exact ⟨ret_bool HV.out.symm, HB1.out.trans HB2.out⟩
end Go.Proofs.Ytnjkgalbbhmgjaa.rsp
