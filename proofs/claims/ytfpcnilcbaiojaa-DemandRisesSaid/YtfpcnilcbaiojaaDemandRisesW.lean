/- The walk of DemandRises. -/
import Derived.Test.YtfpcnilcbaiojaaDeE
namespace Go.Proofs.Ytfpcnilcbaiojaa
open Go.ChangeShapes Go.WideShapes Go.ChangeAt Go.RowKit Go.Deep dem
namespace demandRises
/-- A number from 0 on, out of any one. -/
def ab (a : Int) : Int := if a < 0 then -(a + 1) else a
theorem ab_neg {a : Int} (h : a < 0) : -(a + 1) = ab a := by unfold ab; rw [if_pos h]
theorem ab_pos {a : Int} (h : ¬ a < 0) : a = ab a := by unfold ab; rw [if_neg h]
theorem ab_bd {a : Int} (h : -9223372036854775808 ≤ a ∧ a ≤ 9223372036854775807) : 0 ≤ ab a ∧ ab a ≤ 9223372036854775807 := by unfold ab; split <;> omega
set_option maxRecDepth 100000 in
set_option maxHeartbeats 8000000 in
theorem walk (A : Option Addr) (n c : Nat) (l : List Wk) (hnc : n ≤ c) (_ : n * 32 ≤ 140737488351232) (bl : Int) (hb : (Lit.int .i64 bl).wf = true) (rl : Int) (hr : (Lit.int .i64 rl).wf = true) (t : Int) (ht : (Lit.int .i64 t).wf = true) (more : Int) (hm : (Lit.int .i64 more).wf = true) (at_ : Int) (ha : (Lit.int .i64 at_).wf = true) (w : World) (h : RWk w A n l) :
    Calls Try.prog 7 #[.slice A n c, .int .i64 bl, .int .i64 rl, .int .i64 t, .int .i64 more, .int .i64 at_] w fun e w' => e = .returned (.bool true) ∧ But No w w' := by
  have HN := Lib.hid h.len
  have HL := Lib.hid h
  have CX : Hid (∀ W, Calls Try.prog 10 #[] W fun e w' => e = .returned (.bool true) ∧ But No W w') := examples_ok
  have CA : Hid (∀ W, But No w W → Calls Try.prog 11 #[.slice A n c, .int .i64 bl, .int .i64 rl, .int .i64 t] W fun e w' => e = .returned (.tuple #[.int .i64 (askV l bl rl t), .int .i64 (askE l bl rl t)]) ∧ But No W w') := fun W hw => ask_any A n c l bl rl t W (h.no hw) (inR_of hb) (inR_of hr) (inR_of ht)
  have CAu : Hid (∀ u, inR u → ∀ W, But No w W → Calls Try.prog 11 #[.slice A n c, .int .i64 bl, .int .i64 rl, .int .i64 u] W fun e w' => e = .returned (.tuple #[.int .i64 (askV l bl rl u), .int .i64 (askE l bl rl u)]) ∧ But No W w') := fun u hu W hw => ask_any A n c l bl rl u W (h.no hw) (inR_of hb) (inR_of hr) hu
  have htr := inR_of ht
  have hmr := inR_of hm
  have har := inR_of ha
  have HB := Lib.hid (And.intro (inR_of hb) (inR_of hr))
  unfold inR at htr hmr har
  clear hb hr ht hm ha h
  by_cases he : askE l bl rl t = 0
  · obtain ⟨hrt, ht1, _, _⟩ := ask_zero he
    have hin := ask_in he
    have hn72 : n ≤ 72 := by have := (right_iff.1 hrt).1; have := HN.out; omega
    have HR := Lib.hid (fun u hu => rises (u := u) he hu)
    have HP := Lib.hid (parts he)
    rw [he] at CA
    clear he hrt
    generalize askV l bl rl t = v at CA hin HR HP
    have HMM := Lib.hid (ab_bd hmr)
    have HTT := Lib.hid (ab_bd har)
    go_enter Try.func7, Try.ntmps7
    go_upto_if 39 with (first | (go_at_call 10; (with_reducible refine (CX.out _).mono ?_); rintro e w0 ⟨rfl, h1⟩; have H1 := Lib.hid h1; clear h1) | (go_at_call 11; (with_reducible refine (CA.out _ H1.out).mono ?_); rintro e w1 ⟨rfl, h2⟩; have H2 := Lib.hid (H1.out.trans h2); clear h2))
    have HB2 := H2
    go_cut [4] (fun u wx => u = .int .i64 (ab more) ∧ Hid (wx = w1))
    case first =>
      by_cases hs : more < 0
      · have HS := Lib.hid (ab_neg hs)
        go_wp2
        all_goals (go_meet; exact ⟨by rw [HS.out], rfl⟩)
      · have HS := Lib.hid (ab_pos hs)
        go_wp2
        all_goals (go_meet; exact ⟨by rw [← HS.out], rfl⟩)
    case rest =>
    obtain ⟨rfl, HWX⟩ := hcut
    rw [HWX.out]
    clear HWX
    go_upto_if 44 with fail
    go_cut [5] (fun u wx => u = .int .i64 (ab at_) ∧ Hid (wx = w1))
    case first =>
      by_cases hs : at_ < 0
      · have HS := Lib.hid (ab_neg hs)
        go_wp2
        all_goals (go_meet; exact ⟨by rw [HS.out], rfl⟩)
      · have HS := Lib.hid (ab_pos hs)
        go_wp2
        all_goals (go_meet; exact ⟨by rw [← HS.out], rfl⟩)
    case rest =>
    obtain ⟨rfl, HWX⟩ := hcut
    rw [HWX.out]
    clear HWX
    obtain ⟨hM0, hM1⟩ := HMM.out
    obtain ⟨hT0, hT1⟩ := HTT.out
    generalize ab more = M at hM0 hM1 ⊢
    generalize ab at_ = T at hT0 hT1 ⊢
    clear HMM HTT hmr har
    have e1 : T.tmod ((n : Int) + 1) = T % ((n : Int) + 1) := Int.tmod_eq_emod_of_nonneg hT0
    have e2 := Int.emod_nonneg T (show (n : Int) + 1 ≠ 0 by omega)
    have e3 := Int.emod_lt_of_pos T (show 0 < (n : Int) + 1 by omega)
    obtain ⟨i, hi⟩ : ∃ i : Nat, T % ((n : Int) + 1) = (i : Int) := ⟨(T % ((n : Int) + 1)).toNat, by omega⟩
    rw [hi] at e1 e2 e3
    clear hi
    have hin2 : i ≤ n := by omega
    obtain ⟨p1, p2, p3⟩ := HP.out i
    have CT : Hid (∀ c' W, But No w W → Calls Try.prog 11 #[.slice A i c', .int .i64 bl, .int .i64 rl, .int .i64 t] W fun e w' => e = .returned (.tuple #[.int .i64 (askV (l.take i) bl rl t), .int .i64 0]) ∧ But No W w') := Lib.hid (fun c' W hw => by
      have := ask_any A i c' (l.take i) bl rl t W ((HL.out.no hw).take hin2) HB.out.1 HB.out.2 htr
      rw [p1] at this; exact this)
    have hv1 := ask_in p1
    have hv2 := ask_in p2
    have CDD : Hid (∀ A' k c' W, RWk W A' k (l.drop i) → Calls Try.prog 11 #[.slice A' k c', .int .i64 0, .int .i64 rl, .int .i64 t] W fun e w' => e = .returned (.tuple #[.int .i64 (askV (l.drop i) 0 rl t), .int .i64 0]) ∧ But No W w') := Lib.hid (fun A' k c' W hw => by
      have := ask_any A' k c' (l.drop i) 0 rl t W hw (inR_small (by omega)) HB.out.2 htr
      rw [p2] at this; exact this)
    have HDR : Hid (∀ W, But No w W → RWk W (A.map fun x => x.add (i * 4)) (n - i) (l.drop i)) := Lib.hid (fun W hw => by
      rcases (show n - i = 0 ∨ 0 < n - i by omega) with h0 | h0
      · have hl : l.drop i = [] := List.drop_eq_nil_of_le (by rw [HN.out]; omega)
        rw [h0, hl]
        exact ⟨rfl, by omega, fun h => absurd h (by omega), fun x hx => by cases hx⟩
      · obtain ⟨b, off, rfl, _⟩ := HL.out.at_ (by omega)
        have := (HL.out.no hw).drop hin2
        simpa [add_plain] using this)
    have HDN : Hid (c = i → ∀ W, RWk W A (n - i) (l.drop i)) := Lib.hid (fun hc W => by
      have hl : l.drop i = [] := List.drop_eq_nil_of_le (by rw [HN.out]; omega)
      rw [show n - i = 0 by omega, hl]
      exact ⟨rfl, by omega, fun h => absurd h (by omega), fun x hx => by cases hx⟩)
    generalize askV (l.take i) bl rl t = v1 at CT hv1 p3
    generalize askV (l.drop i) 0 rl t = v2 at CDD hv2 p3
    have b9 : (v1 + v2 == v) = true := by simp [p3]
    have hsum : v1 + v2 ≤ 9223372036854775807 := by omega
    clear p1 p2 p3 HP HL
    by_cases hci : c = i
    · have hni0 : n - i = 0 := by omega
      have CD : Hid (∀ W, Calls Try.prog 11 #[.slice A 0 0, .int .i64 0, .int .i64 rl, .int .i64 t] W fun e w' => e = .returned (.tuple #[.int .i64 v2, .int .i64 0]) ∧ But No W w') := Lib.hid (fun W => (by have h9 := CDD.out A (n - i) 0 W (HDN.out hci W); rw [hni0] at h9; exact h9))
      clear CDD HDR HDN hni0
      subst hci
      obtain rfl : n = c := by omega
      by_cases h40 : t ≤ 1099511627776
      · have b1 : decide (t ≤ 1099511627776) = true := by simp [h40]
        have e4 : M.tmod 1000000 = M % 1000000 := Int.tmod_eq_emod_of_nonneg hM0
        obtain ⟨r, hr⟩ : ∃ r, M % 1000000 = r := ⟨_, rfl⟩
        have hr0 : 0 ≤ r ∧ r < 1000000 := by omega
        rw [hr] at e4
        clear hr
        have CU := Lib.hid (CAu.out (t + r) (by unfold inR; omega))
        rcases HR.out (t + r) (by omega) with ⟨z1, z2⟩ | z1
        · rw [z1] at CU
          generalize askV l bl rl (t + r) = av at CU z2
          have b2 : decide (av < v) = false := by simp; omega
          clear z1
          go_wp2_with (first | (go_at_call 11; (with_reducible refine (CU.out _ H2.out).mono ?_); rintro e w2 ⟨rfl, h3⟩; have H3 := Lib.hid (H2.out.trans h3); clear h3) | (go_at_call 11; (with_reducible refine (CT.out _ _ H3.out).mono ?_); rintro e w3 ⟨rfl, h4⟩; have H4 := Lib.hid (H3.out.trans h4); clear h4) | (go_at_call 11; (with_reducible refine (CD.out _).mono ?_); rintro e w4 ⟨rfl, h5⟩; have H5 := Lib.hid (H4.out.trans h5); clear h5))
          go_ret
          exact ⟨rfl, H5.out⟩
        · rw [z1] at CU
          generalize askV l bl rl (t + r) = av at CU
          clear z1
          go_wp2_with (first | (go_at_call 11; (with_reducible refine (CU.out _ H2.out).mono ?_); rintro e w2 ⟨rfl, h3⟩; have H3 := Lib.hid (H2.out.trans h3); clear h3) | (go_at_call 11; (with_reducible refine (CT.out _ _ H3.out).mono ?_); rintro e w3 ⟨rfl, h4⟩; have H4 := Lib.hid (H3.out.trans h4); clear h4) | (go_at_call 11; (with_reducible refine (CD.out _).mono ?_); rintro e w4 ⟨rfl, h5⟩; have H5 := Lib.hid (H4.out.trans h5); clear h5))
          go_ret
          exact ⟨rfl, H5.out⟩
      · have b1 : decide (t ≤ 1099511627776) = false := by simp; omega
        go_wp2_with (first | (go_at_call 11; (with_reducible refine (CT.out _ _ H2.out).mono ?_); rintro e w3 ⟨rfl, h4⟩; have H4 := Lib.hid (H2.out.trans h4); clear h4) | (go_at_call 11; (with_reducible refine (CD.out _).mono ?_); rintro e w4 ⟨rfl, h5⟩; have H5 := Lib.hid (H4.out.trans h5); clear h5))
        go_ret
        exact ⟨rfl, H5.out⟩
    · have CD : Hid (∀ W, But No w W → Calls Try.prog 11 #[.slice (A.map fun x => x.add (i * 4)) (n - i) (c - i), .int .i64 0, .int .i64 rl, .int .i64 t] W fun e w' => e = .returned (.tuple #[.int .i64 v2, .int .i64 0]) ∧ But No W w') := Lib.hid (fun W hw => CDD.out _ (n - i) (c - i) W (HDR.out W hw))
      clear CDD HDR HDN
      by_cases h40 : t ≤ 1099511627776
      · have b1 : decide (t ≤ 1099511627776) = true := by simp [h40]
        have e4 : M.tmod 1000000 = M % 1000000 := Int.tmod_eq_emod_of_nonneg hM0
        obtain ⟨r, hr⟩ : ∃ r, M % 1000000 = r := ⟨_, rfl⟩
        have hr0 : 0 ≤ r ∧ r < 1000000 := by omega
        rw [hr] at e4
        clear hr
        have CU := Lib.hid (CAu.out (t + r) (by unfold inR; omega))
        rcases HR.out (t + r) (by omega) with ⟨z1, z2⟩ | z1
        · rw [z1] at CU
          generalize askV l bl rl (t + r) = av at CU z2
          have b2 : decide (av < v) = false := by simp; omega
          clear z1
          go_wp2_with (first | (go_at_call 11; (with_reducible refine (CU.out _ H2.out).mono ?_); rintro e w2 ⟨rfl, h3⟩; have H3 := Lib.hid (H2.out.trans h3); clear h3) | (go_at_call 11; (with_reducible refine (CT.out _ _ H3.out).mono ?_); rintro e w3 ⟨rfl, h4⟩; have H4 := Lib.hid (H3.out.trans h4); clear h4) | (go_at_call 11; (with_reducible refine (CD.out _ H4.out).mono ?_); rintro e w4 ⟨rfl, h5⟩; have H5 := Lib.hid (H4.out.trans h5); clear h5))
          go_ret
          exact ⟨rfl, H5.out⟩
        · rw [z1] at CU
          generalize askV l bl rl (t + r) = av at CU
          clear z1
          go_wp2_with (first | (go_at_call 11; (with_reducible refine (CU.out _ H2.out).mono ?_); rintro e w2 ⟨rfl, h3⟩; have H3 := Lib.hid (H2.out.trans h3); clear h3) | (go_at_call 11; (with_reducible refine (CT.out _ _ H3.out).mono ?_); rintro e w3 ⟨rfl, h4⟩; have H4 := Lib.hid (H3.out.trans h4); clear h4) | (go_at_call 11; (with_reducible refine (CD.out _ H4.out).mono ?_); rintro e w4 ⟨rfl, h5⟩; have H5 := Lib.hid (H4.out.trans h5); clear h5))
          go_ret
          exact ⟨rfl, H5.out⟩
      · have b1 : decide (t ≤ 1099511627776) = false := by simp; omega
        go_wp2_with (first | (go_at_call 11; (with_reducible refine (CT.out _ _ H2.out).mono ?_); rintro e w3 ⟨rfl, h4⟩; have H4 := Lib.hid (H2.out.trans h4); clear h4) | (go_at_call 11; (with_reducible refine (CD.out _ H4.out).mono ?_); rintro e w4 ⟨rfl, h5⟩; have H5 := Lib.hid (H4.out.trans h5); clear h5))
        go_ret
        exact ⟨rfl, H5.out⟩
  · have hz : askV l bl rl t = 0 := by
      rcases dem.ask_cases l bl rl t with ⟨_, v, _⟩ | ⟨_, _, _, _, v⟩ | ⟨_, _, _, e, _⟩
      · exact v
      · exact v
      · exact absurd e he
    rw [hz] at CA
    generalize askE l bl rl t = e1 at CA he
    have b1 : (e1 != 0) = true := by simp [he]
    clear hz he
    go_enter Try.func7, Try.ntmps7
    go_wp2_with (first | (go_at_call 10; (with_reducible refine (CX.out _).mono ?_); rintro e w0 ⟨rfl, h1⟩; have H1 := Lib.hid h1; clear h1) | (go_at_call 11; (with_reducible refine (CA.out _ H1.out).mono ?_); rintro e w1 ⟨rfl, h2⟩; have H2 := Lib.hid (H1.out.trans h2); clear h2))
    go_ret
    exact ⟨rfl, H2.out⟩
end demandRises
end Go.Proofs.Ytfpcnilcbaiojaa
