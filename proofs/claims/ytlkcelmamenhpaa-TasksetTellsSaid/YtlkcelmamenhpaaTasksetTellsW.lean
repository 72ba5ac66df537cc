/- The walk of TasksetTells. -/
import Derived.Test.YtlkcelmamenhpaaE
namespace Go.Proofs.Ytlkcelmamenhpaa
open Go.ChangeShapes Go.WideShapes Go.ChangeAt Go.RowKit Go.Deep
namespace tasksetTells
theorem enc_inj {s t : Sys} (hs : eErr s = 0) (ht : eErr t = 0) : eOut s = eOut t ↔ nums s = nums t := by
  constructor
  · intro h
    have h1 := dec_enc hs
    rw [h, dec_enc ht] at h1
    have : t = s := congrArg Prod.snd h1
    rw [this]
  · intro h
    rw [nums_inj h]
set_option maxRecDepth 100000 in
set_option maxHeartbeats 4000000 in
theorem walk (s : Sys) (A : Option Addr) (c : Nat) (t : Sys) (B : Option Addr) (d : Nat) (w : World) (h : RSys w A s.ts.length c s) (k : RSys w B t.ts.length d t) : Calls Try.prog 6 #[sysV s A s.ts.length c, sysV t B t.ts.length d] w fun e w' => e = .returned (.bool true) ∧ But No w w' := by
  obtain ⟨a, ha, _⟩ := eOut_str s
  obtain ⟨b, hb, _⟩ := eOut_str t
  have h1 := eErr_cases s
  have h2 := eErr_cases t
  have heq : (a.toList == b.toList) = decide (eOut s = eOut t) := by rw [eqB, ha, hb]
  obtain ⟨E, hE⟩ : ∃ E, eErr s = E := ⟨_, rfl⟩
  obtain ⟨F, hF⟩ : ∃ F, eErr t = F := ⟨_, rfl⟩
  have HIN := Lib.hid (fun (hs : eErr s = 0) (ht : eErr t = 0) => enc_inj hs ht)
  generalize s.ts.length = n at *
  generalize t.ts.length = m at *
  have CX : ∀ W, Hid (Calls Try.prog 8 #[] W fun e w' => e = .returned (.bool true) ∧ But No W w') := fun W => examples_any W
  have CE : Hid (∀ W, But No w W → Calls Try.prog 9 #[sysV s A n c] W fun e w' => e = .returned (.tuple #[.string a, .int .i64 (E : Int)]) ∧ But No W w') := fun W hb => encode_to ha hE W (h.no hb)
  have CF : Hid (∀ W, But No w W → Calls Try.prog 9 #[sysV t B m d] W fun e w' => e = .returned (.tuple #[.string b, .int .i64 (F : Int)]) ∧ But No W w') := fun W hb' => encode_to hb hF W (k.no hb')
  have CS : Hid (∀ W, But No w W → Calls Try.prog 14 #[sysV s A n c, sysV t B m d] W fun e w' => e = .returned (.bool (decide (nums s = nums t))) ∧ But No W w') := fun W hb => same_any s t A B n c m d W (h.no hb) (k.no hb)
  have CQ : Hid (∀ W, But No w W → Calls Try.prog 14 #[sysV s A n c, sysV s A n c] W fun e w' => e = .returned (.bool true) ∧ But No W w') := fun W hb => (same_any s s A A n c n c W (h.no hb) (h.no hb)).mono fun e w' ⟨he, hb⟩ => ⟨by rw [he]; simp, hb⟩
  obtain ⟨w1, hw1, hb1, hs1, ht1⟩ := two_sys w s t A B n c m d
  have HW1 := Lib.hid hw1
  have HB1 := Lib.hid hb1
  have HS1 := Lib.hid hs1
  have HT1 := Lib.hid ht1
  rw [hE] at h1
  rw [hF] at h2
  clear hw1 hb1 hs1 ht1 ha hb h k
  unfold sysV at CE CF CS CQ ⊢
  rcases h1 with rfl | rfl | rfl
  · rcases h2 with rfl | rfl | rfl
    · have hq : decide (eOut s = eOut t) = decide (nums s = nums t) := by rw [decide_eq_decide]; exact HIN.out hE hF
      rw [hq] at heq
      clear hq HIN hE hF
      generalize decide (nums s = nums t) = q at *
      cases q with
      | true =>
        go_enter Try.func6, Try.ntmps6
        go_upto_region 1 with fail
        rw [HW1.out]
        go_wp2_with (first | (go_at_call 8; refine (CX _).out.mono ?_; rintro e w2 ⟨rfl, hb2⟩; have HB2 := Lib.hid (HB1.out.trans hb2); have HS2 := Lib.hid (keepS9 HS1.out hb2); have HT2 := Lib.hid (keepS9 HT1.out hb2); clear hb2; obtain ⟨d0, d1, d2, d3, d4, d5, d6, d7, d8⟩ := HS2.out) | (go_at_call 9; ((with_reducible refine (CE.out _ HB2.out).mono ?_); rintro e w3 ⟨rfl, hb3⟩; have HB3 := Lib.hid (HB2.out.trans hb3); have HS3 := Lib.hid (keepS9 HS2.out hb3); have HT3 := Lib.hid (keepS9 HT2.out hb3); clear hb3 d0 d1 d2 d3 d4 d5 d6 d7 d8; obtain ⟨d0, d1, d2, d3, d4, d5, d6, d7, d8⟩ := HT3.out)) | (go_at_call 9; ((with_reducible refine (CF.out _ HB3.out).mono ?_); rintro e w4 ⟨rfl, hb4⟩; have HB4 := Lib.hid (HB3.out.trans hb4); have HS4 := Lib.hid (keepS9 HS3.out hb4); have HT4 := Lib.hid (keepS9 HT3.out hb4); clear hb4 d0 d1 d2 d3 d4 d5 d6 d7 d8; obtain ⟨d0, d1, d2, d3, d4, d5, d6, d7, d8⟩ := HS4.out; obtain ⟨g0, g1, g2, g3, g4, g5, g6, g7, g8⟩ := HT4.out)) | (go_at_call 14; ((with_reducible refine (CS.out _ HB4.out).mono ?_); rintro e w5 ⟨rfl, hb5⟩; have HB5 := Lib.hid (HB4.out.trans hb5); have HS5 := Lib.hid (keepS9 HS4.out hb5); clear hb5 d0 d1 d2 d3 d4 d5 d6 d7 d8 g0 g1 g2 g3 g4 g5 g6 g7 g8; obtain ⟨d0, d1, d2, d3, d4, d5, d6, d7, d8⟩ := HS5.out)) | (go_at_call 14; ((with_reducible refine (CQ.out _ HB5.out).mono ?_); rintro e w6 ⟨rfl, hb6⟩; have HB6 := Lib.hid (HB5.out.trans hb6); clear hb6)))
        go_ret
        exact ⟨rfl, HB6.out⟩
      | false =>
        go_enter Try.func6, Try.ntmps6
        go_upto_region 1 with fail
        rw [HW1.out]
        go_wp2_with (first | (go_at_call 8; refine (CX _).out.mono ?_; rintro e w2 ⟨rfl, hb2⟩; have HB2 := Lib.hid (HB1.out.trans hb2); have HS2 := Lib.hid (keepS9 HS1.out hb2); have HT2 := Lib.hid (keepS9 HT1.out hb2); clear hb2; obtain ⟨d0, d1, d2, d3, d4, d5, d6, d7, d8⟩ := HS2.out) | (go_at_call 9; ((with_reducible refine (CE.out _ HB2.out).mono ?_); rintro e w3 ⟨rfl, hb3⟩; have HB3 := Lib.hid (HB2.out.trans hb3); have HS3 := Lib.hid (keepS9 HS2.out hb3); have HT3 := Lib.hid (keepS9 HT2.out hb3); clear hb3 d0 d1 d2 d3 d4 d5 d6 d7 d8; obtain ⟨d0, d1, d2, d3, d4, d5, d6, d7, d8⟩ := HT3.out)) | (go_at_call 9; ((with_reducible refine (CF.out _ HB3.out).mono ?_); rintro e w4 ⟨rfl, hb4⟩; have HB4 := Lib.hid (HB3.out.trans hb4); have HS4 := Lib.hid (keepS9 HS3.out hb4); have HT4 := Lib.hid (keepS9 HT3.out hb4); clear hb4 d0 d1 d2 d3 d4 d5 d6 d7 d8; obtain ⟨d0, d1, d2, d3, d4, d5, d6, d7, d8⟩ := HS4.out; obtain ⟨g0, g1, g2, g3, g4, g5, g6, g7, g8⟩ := HT4.out)) | (go_at_call 14; ((with_reducible refine (CS.out _ HB4.out).mono ?_); rintro e w5 ⟨rfl, hb5⟩; have HB5 := Lib.hid (HB4.out.trans hb5); have HS5 := Lib.hid (keepS9 HS4.out hb5); clear hb5 d0 d1 d2 d3 d4 d5 d6 d7 d8 g0 g1 g2 g3 g4 g5 g6 g7 g8; obtain ⟨d0, d1, d2, d3, d4, d5, d6, d7, d8⟩ := HS5.out)) | (go_at_call 14; ((with_reducible refine (CQ.out _ HB5.out).mono ?_); rintro e w6 ⟨rfl, hb6⟩; have HB6 := Lib.hid (HB5.out.trans hb6); clear hb6)))
        go_ret
        exact ⟨rfl, HB6.out⟩
    · clear HIN hE hF heq CS CQ
      go_enter Try.func6, Try.ntmps6
      go_upto_region 1 with fail
      rw [HW1.out]
      go_wp2_with (first | (go_at_call 8; refine (CX _).out.mono ?_; rintro e w2 ⟨rfl, hb2⟩; have HB2 := Lib.hid (HB1.out.trans hb2); have HS2 := Lib.hid (keepS9 HS1.out hb2); have HT2 := Lib.hid (keepS9 HT1.out hb2); clear hb2; obtain ⟨d0, d1, d2, d3, d4, d5, d6, d7, d8⟩ := HS2.out) | (go_at_call 9; ((with_reducible refine (CE.out _ HB2.out).mono ?_); rintro e w3 ⟨rfl, hb3⟩; have HB3 := Lib.hid (HB2.out.trans hb3); have HS3 := Lib.hid (keepS9 HS2.out hb3); have HT3 := Lib.hid (keepS9 HT2.out hb3); clear hb3 d0 d1 d2 d3 d4 d5 d6 d7 d8; obtain ⟨d0, d1, d2, d3, d4, d5, d6, d7, d8⟩ := HT3.out)) | (go_at_call 9; ((with_reducible refine (CF.out _ HB3.out).mono ?_); rintro e w4 ⟨rfl, hb4⟩; have HB4 := Lib.hid (HB3.out.trans hb4); have HS4 := Lib.hid (keepS9 HS3.out hb4); have HT4 := Lib.hid (keepS9 HT3.out hb4); clear hb4 d0 d1 d2 d3 d4 d5 d6 d7 d8; obtain ⟨d0, d1, d2, d3, d4, d5, d6, d7, d8⟩ := HS4.out; obtain ⟨g0, g1, g2, g3, g4, g5, g6, g7, g8⟩ := HT4.out)))
      go_ret
      exact ⟨rfl, HB4.out⟩
    · clear HIN hE hF heq CS CQ
      go_enter Try.func6, Try.ntmps6
      go_upto_region 1 with fail
      rw [HW1.out]
      go_wp2_with (first | (go_at_call 8; refine (CX _).out.mono ?_; rintro e w2 ⟨rfl, hb2⟩; have HB2 := Lib.hid (HB1.out.trans hb2); have HS2 := Lib.hid (keepS9 HS1.out hb2); have HT2 := Lib.hid (keepS9 HT1.out hb2); clear hb2; obtain ⟨d0, d1, d2, d3, d4, d5, d6, d7, d8⟩ := HS2.out) | (go_at_call 9; ((with_reducible refine (CE.out _ HB2.out).mono ?_); rintro e w3 ⟨rfl, hb3⟩; have HB3 := Lib.hid (HB2.out.trans hb3); have HS3 := Lib.hid (keepS9 HS2.out hb3); have HT3 := Lib.hid (keepS9 HT2.out hb3); clear hb3 d0 d1 d2 d3 d4 d5 d6 d7 d8; obtain ⟨d0, d1, d2, d3, d4, d5, d6, d7, d8⟩ := HT3.out)) | (go_at_call 9; ((with_reducible refine (CF.out _ HB3.out).mono ?_); rintro e w4 ⟨rfl, hb4⟩; have HB4 := Lib.hid (HB3.out.trans hb4); have HS4 := Lib.hid (keepS9 HS3.out hb4); have HT4 := Lib.hid (keepS9 HT3.out hb4); clear hb4 d0 d1 d2 d3 d4 d5 d6 d7 d8; obtain ⟨d0, d1, d2, d3, d4, d5, d6, d7, d8⟩ := HS4.out; obtain ⟨g0, g1, g2, g3, g4, g5, g6, g7, g8⟩ := HT4.out)))
      go_ret
      exact ⟨rfl, HB4.out⟩
  · clear HIN hE hF heq CS CQ h2
    go_enter Try.func6, Try.ntmps6
    go_upto_region 1 with fail
    rw [HW1.out]
    go_wp2_with (first | (go_at_call 8; refine (CX _).out.mono ?_; rintro e w2 ⟨rfl, hb2⟩; have HB2 := Lib.hid (HB1.out.trans hb2); have HS2 := Lib.hid (keepS9 HS1.out hb2); have HT2 := Lib.hid (keepS9 HT1.out hb2); clear hb2; obtain ⟨d0, d1, d2, d3, d4, d5, d6, d7, d8⟩ := HS2.out) | (go_at_call 9; ((with_reducible refine (CE.out _ HB2.out).mono ?_); rintro e w3 ⟨rfl, hb3⟩; have HB3 := Lib.hid (HB2.out.trans hb3); have HS3 := Lib.hid (keepS9 HS2.out hb3); have HT3 := Lib.hid (keepS9 HT2.out hb3); clear hb3 d0 d1 d2 d3 d4 d5 d6 d7 d8; obtain ⟨d0, d1, d2, d3, d4, d5, d6, d7, d8⟩ := HT3.out)) | (go_at_call 9; ((with_reducible refine (CF.out _ HB3.out).mono ?_); rintro e w4 ⟨rfl, hb4⟩; have HB4 := Lib.hid (HB3.out.trans hb4); have HS4 := Lib.hid (keepS9 HS3.out hb4); have HT4 := Lib.hid (keepS9 HT3.out hb4); clear hb4 d0 d1 d2 d3 d4 d5 d6 d7 d8; obtain ⟨d0, d1, d2, d3, d4, d5, d6, d7, d8⟩ := HS4.out; obtain ⟨g0, g1, g2, g3, g4, g5, g6, g7, g8⟩ := HT4.out)))
    go_ret
    exact ⟨rfl, HB4.out⟩
  · clear HIN hE hF heq CS CQ h2
    go_enter Try.func6, Try.ntmps6
    go_upto_region 1 with fail
    rw [HW1.out]
    go_wp2_with (first | (go_at_call 8; refine (CX _).out.mono ?_; rintro e w2 ⟨rfl, hb2⟩; have HB2 := Lib.hid (HB1.out.trans hb2); have HS2 := Lib.hid (keepS9 HS1.out hb2); have HT2 := Lib.hid (keepS9 HT1.out hb2); clear hb2; obtain ⟨d0, d1, d2, d3, d4, d5, d6, d7, d8⟩ := HS2.out) | (go_at_call 9; ((with_reducible refine (CE.out _ HB2.out).mono ?_); rintro e w3 ⟨rfl, hb3⟩; have HB3 := Lib.hid (HB2.out.trans hb3); have HS3 := Lib.hid (keepS9 HS2.out hb3); have HT3 := Lib.hid (keepS9 HT2.out hb3); clear hb3 d0 d1 d2 d3 d4 d5 d6 d7 d8; obtain ⟨d0, d1, d2, d3, d4, d5, d6, d7, d8⟩ := HT3.out)) | (go_at_call 9; ((with_reducible refine (CF.out _ HB3.out).mono ?_); rintro e w4 ⟨rfl, hb4⟩; have HB4 := Lib.hid (HB3.out.trans hb4); have HS4 := Lib.hid (keepS9 HS3.out hb4); have HT4 := Lib.hid (keepS9 HT3.out hb4); clear hb4 d0 d1 d2 d3 d4 d5 d6 d7 d8; obtain ⟨d0, d1, d2, d3, d4, d5, d6, d7, d8⟩ := HS4.out; obtain ⟨g0, g1, g2, g3, g4, g5, g6, g7, g8⟩ := HT4.out)))
    go_ret
    exact ⟨rfl, HB4.out⟩
end tasksetTells
end Go.Proofs.Ytlkcelmamenhpaa
