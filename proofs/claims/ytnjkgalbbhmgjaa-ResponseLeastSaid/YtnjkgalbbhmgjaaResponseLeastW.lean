/- The walk of ResponseLeast. -/
import Derived.Test.YtnjkgalbbhmgjaaReE
import Derived.Test.YtnjkgalbbhmgjaaReP
namespace Go.Proofs.Ytnjkgalbbhmgjaa
open Go.ChangeShapes Go.WideShapes Go.ChangeAt Go.RowKit Go.Deep rsp
namespace responseLeast
set_option maxRecDepth 100000 in
set_option maxHeartbeats 4000000 in
theorem walk (own : Int) (ho : (Lit.int .i64 own).wf = true) (bl : Int) (hb : (Lit.int .i64 bl).wf = true) (rl : Int) (hr : (Lit.int .i64 rl).wf = true) (A : Option Addr) (n c : Nat) (a : List Ld) (_ : n ≤ c) (_ : n * 24 ≤ 140737488351232) (B : Option Addr) (m d : Nat) (b : List Ld) (_ : m ≤ d) (_ : m * 24 ≤ 140737488351232) (limit : Int) (hl : (Lit.int .i64 limit).wf = true) (t : Int) (ht : (Lit.int .i64 t).wf = true) (w : World) (h : RLd w A n a) (h' : RLd w B m b) :
    Calls Try.prog 4 #[.int .i64 own, .int .i64 bl, .int .i64 rl, .slice A n c, .slice B m d, .int .i64 limit, .int .i64 t] w fun e w' => e = .returned (.bool true) ∧ But No w w' := by
  have CX : Hid (∀ W, Calls Try.prog 9 #[] W fun e w' => e = .returned (.bool true) ∧ But No W w') := examples_ok
  have CB : Hid (∀ W, But No w W → Calls Try.prog 13 #[.int .i64 own, .int .i64 bl, .int .i64 rl, .slice A n c, .slice B m d, .int .i64 limit] W fun e w' => e = .returned (.tuple #[.int .i64 (bnP own bl rl a b limit).1, .int .i64 (bnP own bl rl a b limit).2]) ∧ But No W w') := fun W hw => bound_any A n c a B m d b own bl rl limit W (h.no hw) (h'.no hw) (inR_of ho) (inR_of hb) (inR_of hr) (inR_of hl)
  have CW : Hid (∀ t, inR t → ∀ W, But No w W → Calls Try.prog 10 #[.int .i64 own, .int .i64 bl, .int .i64 rl, .slice A n c, .slice B m d, .int .i64 t] W fun e w' => e = .returned (.tuple #[.int .i64 (wiV own bl rl a b t), .int .i64 (wiE own bl rl a b t)]) ∧ But No W w') := fun t ht W hw => within_any A n c a B m d b own bl rl t W (h.no hw) (h'.no hw) (inR_of ho) (inR_of hb) (inR_of hr) ht
  have htr := inR_of ht
  unfold inR at htr
  have HK := Lib.hid (fun h0 => bn_ok (own := own) (bl := bl) (rl := rl) (a := a) (b := b) (limit := limit) h0)
  have HZ := Lib.hid (fun h0 => bn_zero (own := own) (bl := bl) (rl := rl) (a := a) (b := b) (limit := limit) h0)
  have HE := Lib.hid (bn_err own bl rl a b limit)
  clear h h' ho hb hr ht hl
  generalize (bnP own bl rl a b limit).1 = s at CB HK HZ
  generalize (bnP own bl rl a b limit).2 = e at CB HK HZ HE
  have he := HE.out
  by_cases h0 : e = 0
  · obtain ⟨k1, k2, k3, k4, _, k6, k7⟩ := HK.out h0
    have K7 := Lib.hid k7
    subst h0
    obtain ⟨e1, v1⟩ := wi_ok (n := s) k1 (by omega) (by omega)
    have CA : Hid (∀ W, But No w W → Calls Try.prog 10 #[.int .i64 own, .int .i64 bl, .int .i64 rl, .slice A n c, .slice B m d, .int .i64 s] W fun e w' => e = .returned (.tuple #[.int .i64 (wiV own bl rl a b s), .int .i64 (wiE own bl rl a b s)]) ∧ But No W w') := Lib.hid (CW.out s (by unfold inR; omega))
    rw [e1, v1] at CA
    have K1 := Lib.hid k1
    have KM := Lib.hid (fun (x : Int) (h1 : 0 ≤ x) (h2 : x ≤ s) => wi_mono (m := x) (n := s) k1 h1 h2)
    have hS0 := wi_pos k1 (n := s) (by omega)
    generalize wiS own bl rl a b s = S at CA k6 KM hS0
    have b1 : decide (s < S) = false := by simp; omega
    have b2 : decide (s < 1) = false := by simp; omega
    clear e1 v1 k1 k2 k7 HK HZ HE he
    by_cases t0 : t < 0
    · have b3 : decide (t < 0) = true := by simp [t0]
      have h0N : 0 ≤ (-(t + 1)) := by omega
      have q0 : s ≠ 0 := by omega
      have q1 : (-(t + 1)).tmod s = (-(t + 1)) % s := Int.tmod_eq_emod_of_nonneg h0N
      have q2 := Int.emod_nonneg (-(t + 1)) q0
      have q3 := Int.emod_lt_of_pos (-(t + 1)) (show 0 < s by omega)
      obtain ⟨r, hr⟩ : ∃ r, (-(t + 1)) % s = r := ⟨_, rfl⟩
      rw [hr] at q1 q2 q3
      clear hr
      have CV : Hid (∀ W, But No w W → Calls Try.prog 10 #[.int .i64 own, .int .i64 bl, .int .i64 rl, .slice A n c, .slice B m d, .int .i64 (1 + r)] W fun e w' => e = .returned (.tuple #[.int .i64 (wiV own bl rl a b (1 + r)), .int .i64 (wiE own bl rl a b (1 + r))]) ∧ But No W w') := Lib.hid (CW.out (1 + r) (by unfold inR; omega))
      obtain ⟨e1, v1⟩ := wi_ok (n := 1 + r) K1.out (by omega) (by have := KM.out (1 + r) (by omega) (by omega); omega)
      rw [e1, v1] at CV
      have K8 := Lib.hid (K7.out (1 + r) (by omega))
      generalize wiS own bl rl a b (1 + r) = V at CV K8
      clear CW e1 v1 K1 KM K7
      by_cases hq : 1 + r = s
      · have b4 : ((1 + r) == s) = true := by simp [hq]
        clear hq
        go_enter Try.func4, Try.ntmps4
        go_wp2_with (first | (go_at_call 9; (with_reducible refine (CX.out _).mono ?_); rintro e w1 ⟨rfl, h1⟩; have H1 := Lib.hid h1; clear h1) | (go_at_call 13; (with_reducible refine (CB.out _ H1.out).mono ?_); rintro e w2 ⟨rfl, h2⟩; have H2 := Lib.hid (H1.out.trans h2); clear h2) | (go_at_call 10; (with_reducible refine (CA.out _ H2.out).mono ?_); rintro e w3 ⟨rfl, h2⟩; have H3 := Lib.hid (H2.out.trans h2); clear h2) | (go_at_call 10; (with_reducible refine (CV.out _ H3.out).mono ?_); rintro e w4 ⟨rfl, h2⟩; have H4 := Lib.hid (H3.out.trans h2); clear h2))
        go_ret
        exact ⟨rfl, H4.out⟩
      · have b4 : ((1 + r) == s) = false := by simp [hq]
        have b5 : decide (1 + r < V) = true := by have := K8.out (by omega); simp; omega
        go_enter Try.func4, Try.ntmps4
        go_wp2_with (first | (go_at_call 9; (with_reducible refine (CX.out _).mono ?_); rintro e w1 ⟨rfl, h1⟩; have H1 := Lib.hid h1; clear h1) | (go_at_call 13; (with_reducible refine (CB.out _ H1.out).mono ?_); rintro e w2 ⟨rfl, h2⟩; have H2 := Lib.hid (H1.out.trans h2); clear h2) | (go_at_call 10; (with_reducible refine (CA.out _ H2.out).mono ?_); rintro e w3 ⟨rfl, h2⟩; have H3 := Lib.hid (H2.out.trans h2); clear h2) | (go_at_call 10; (with_reducible refine (CV.out _ H3.out).mono ?_); rintro e w4 ⟨rfl, h2⟩; have H4 := Lib.hid (H3.out.trans h2); clear h2))
        go_ret
        exact ⟨rfl, H4.out⟩
    · have b3 : decide (t < 0) = false := by simp; omega
      have h0N : 0 ≤ t := by omega
      have q0 : s ≠ 0 := by omega
      have q1 : t.tmod s = t % s := Int.tmod_eq_emod_of_nonneg h0N
      have q2 := Int.emod_nonneg t q0
      have q3 := Int.emod_lt_of_pos t (show 0 < s by omega)
      obtain ⟨r, hr⟩ : ∃ r, t % s = r := ⟨_, rfl⟩
      rw [hr] at q1 q2 q3
      clear hr
      have CV : Hid (∀ W, But No w W → Calls Try.prog 10 #[.int .i64 own, .int .i64 bl, .int .i64 rl, .slice A n c, .slice B m d, .int .i64 (1 + r)] W fun e w' => e = .returned (.tuple #[.int .i64 (wiV own bl rl a b (1 + r)), .int .i64 (wiE own bl rl a b (1 + r))]) ∧ But No W w') := Lib.hid (CW.out (1 + r) (by unfold inR; omega))
      obtain ⟨e1, v1⟩ := wi_ok (n := 1 + r) K1.out (by omega) (by have := KM.out (1 + r) (by omega) (by omega); omega)
      rw [e1, v1] at CV
      have K8 := Lib.hid (K7.out (1 + r) (by omega))
      generalize wiS own bl rl a b (1 + r) = V at CV K8
      clear CW e1 v1 K1 KM K7
      by_cases hq : 1 + r = s
      · have b4 : ((1 + r) == s) = true := by simp [hq]
        clear hq
        go_enter Try.func4, Try.ntmps4
        go_wp2_with (first | (go_at_call 9; (with_reducible refine (CX.out _).mono ?_); rintro e w1 ⟨rfl, h1⟩; have H1 := Lib.hid h1; clear h1) | (go_at_call 13; (with_reducible refine (CB.out _ H1.out).mono ?_); rintro e w2 ⟨rfl, h2⟩; have H2 := Lib.hid (H1.out.trans h2); clear h2) | (go_at_call 10; (with_reducible refine (CA.out _ H2.out).mono ?_); rintro e w3 ⟨rfl, h2⟩; have H3 := Lib.hid (H2.out.trans h2); clear h2) | (go_at_call 10; (with_reducible refine (CV.out _ H3.out).mono ?_); rintro e w4 ⟨rfl, h2⟩; have H4 := Lib.hid (H3.out.trans h2); clear h2))
        go_ret
        exact ⟨rfl, H4.out⟩
      · have b4 : ((1 + r) == s) = false := by simp [hq]
        have b5 : decide (1 + r < V) = true := by have := K8.out (by omega); simp; omega
        go_enter Try.func4, Try.ntmps4
        go_wp2_with (first | (go_at_call 9; (with_reducible refine (CX.out _).mono ?_); rintro e w1 ⟨rfl, h1⟩; have H1 := Lib.hid h1; clear h1) | (go_at_call 13; (with_reducible refine (CB.out _ H1.out).mono ?_); rintro e w2 ⟨rfl, h2⟩; have H2 := Lib.hid (H1.out.trans h2); clear h2) | (go_at_call 10; (with_reducible refine (CA.out _ H2.out).mono ?_); rintro e w3 ⟨rfl, h2⟩; have H3 := Lib.hid (H2.out.trans h2); clear h2) | (go_at_call 10; (with_reducible refine (CV.out _ H3.out).mono ?_); rintro e w4 ⟨rfl, h2⟩; have H4 := Lib.hid (H3.out.trans h2); clear h2))
        go_ret
        exact ⟨rfl, H4.out⟩
  · have b1 : (e != 0) = true := by simp [h0]
    have hs := HZ.out h0
    subst hs
    clear HK HZ HE CW
    go_enter Try.func4, Try.ntmps4
    go_wp2_with (first | (go_at_call 9; (with_reducible refine (CX.out _).mono ?_); rintro e w1 ⟨rfl, h1⟩; have H1 := Lib.hid h1; clear h1) | (go_at_call 13; (with_reducible refine (CB.out _ H1.out).mono ?_); rintro e w2 ⟨rfl, h2⟩; have H2 := Lib.hid (H1.out.trans h2); clear h2))
    go_ret
    exact ⟨rfl, H2.out⟩
end responseLeast
end Go.Proofs.Ytnjkgalbbhmgjaa
