/- The walk of JobCuts. -/
import Derived.Test.YtekgnofmldpifaaE
namespace Go.Proofs.Ytekgnofmldpifaa
open Go.ChangeShapes Go.WideShapes Go.ChangeAt Go.RowKit Go.Deep
namespace jobCuts
theorem sta_no (P W x : Int) (h : 0 ≤ x) : staB (en0 P W) x = false ∧ staE (en0 P W) x = en0 P W := by
  have h1 : staB (en0 P W) x = false := by
    unfold staB nxt; rw [decide_eq_false_iff_not]; rintro ⟨_, h2⟩
    rw [if_neg (by rintro ⟨_, h3, _⟩; exact h3 rfl)] at h2; omega
  exact ⟨h1, by unfold staE; rw [h1]; rfl⟩
def en1 (P W d : Int) : En := ⟨P, W, d, 0, false, 0, 0, 0, false, 0⟩
def en2 (P W d x : Int) : En := ⟨P, W, 0, x + P, true, x, if d < W then d else W, 0, decide (W < d), -1⟩
theorem ask_no (P W d : Int) (h : d < 1) : askB (en0 P W) d = false ∧ askE (en0 P W) d = en0 P W := by
  have h1 : askB (en0 P W) d = false := by unfold askB; rw [decide_eq_false_iff_not]; rintro ⟨h2, _⟩; omega
  exact ⟨h1, by unfold askE; rw [h1]; rfl⟩
theorem ask_yes (P W d : Int) (h : 1 ≤ d) : askB (en0 P W) d = true ∧ askE (en0 P W) d = en1 P W d := by
  have h1 : askB (en0 P W) d = true := by unfold askB; rw [decide_eq_true_iff]; exact ⟨h, Int.le_refl _⟩
  exact ⟨h1, by unfold askE; rw [h1]; rfl⟩
theorem sta_yes (P W d x : Int) (h : 1 ≤ d) (h0 : 0 ≤ x) (h1 : x ≤ 9007199254740991) : staB (en1 P W d) x = true ∧ staE (en1 P W d) x = en2 P W d x := by
  have ht : isT x = true := by unfold isT; rw [decide_eq_true_iff]; exact ⟨h0, h1⟩
  have h2 : staB (en1 P W d) x = true := by
    unfold staB nxt; rw [decide_eq_true_iff]
    refine ⟨ht, ?_⟩
    rw [if_pos ⟨ht, by show d ≠ 0; omega, rfl⟩, if_neg (by show ¬ x < 0; omega)]
  exact ⟨h2, by unfold staE; rw [h2]; rfl⟩
section
variable (a b d t : Int) (w : World)
set_option maxHeartbeats 4000000 in
set_option maxRecDepth 100000 in
theorem walk_no (ha : inR a) (hb : inR b) (ht : inR t) (h : d < 1) : Calls Try.prog 5 #[.int .i64 a, .int .i64 b, .int .i64 d, .int .i64 t] w fun e w' => e = .returned (.bool true) ∧ But No w w' := by
  have CA := Lib.hid (fun W => pick_any a 1000 W ha (by omega) (by omega))
  have CB := Lib.hid (fun W => pick_any b 1000 W hb (by omega) (by omega))
  have CC := Lib.hid (fun W => pick_any t 1099511627776 W ht (by omega) (by omega))
  have ra := pk_lt a 1000 (by omega)
  have rb := pk_lt b 1000 (by omega)
  have rt := pk_lt t 1099511627776 (by omega)
  generalize pk a 1000 = P at CA ra
  generalize pk b 1000 = W at CB rb
  generalize pk t 1099511627776 = x at CC rt
  obtain ⟨P0, P1⟩ := ra
  obtain ⟨W0, W1⟩ := rb
  obtain ⟨x0, x1⟩ := rt
  clear ha hb ht
  have b1 : decide (d < 1) = true := by simpa using h
  have HA := Lib.hid (ask_no (1 + P) (1 + W) d h)
  have HS := Lib.hid (sta_no (1 + P) (1 + W) x x0)
  have HV : Hid (stv (en0 (1 + P) (1 + W)) = .agg #[.bool false, .int .i64 0, .int .i64 0, .int .i64 0, .bool false]) := rfl
  clear h
  go_enter Try.func5, Try.ntmps5
  go_wp2_with fail
  refine (examples_any w).mono ?_
  rintro e w1 ⟨rfl, hb1⟩
  have HB1 := Lib.hid hb1
  clear hb1
  go_wp2_with (first | (go_at_call 7; ((with_reducible refine (CA.out _).mono ?_); rintro e w2 ⟨rfl, rfl⟩)) | (go_at_call 7; ((with_reducible refine (CB.out _).mono ?_); rintro e w2 ⟨rfl, rfl⟩)) | (go_at_call 7; ((with_reducible refine (CC.out _).mono ?_); rintro e w2 ⟨rfl, rfl⟩)))
  refine (made1 (HB1.out.alloc _) (Blk.new w1 _ _) ⟨by omega, by omega⟩ ⟨by omega, by omega⟩).mono ?_
  rintro e w2 ⟨p, S, rfl, h1, _, _⟩
  have H1 := Lib.hid h1
  clear h1 HB1 CA CB CC
  go_wp2_with fail
  refine (ask1 p (en0 (1 + P) (1 + W)) S _ d H1.out.jp).mono ?_
  rintro e w3 ⟨rfl, hm⟩
  rw [HA.out.1]
  rw [HA.out.2] at hm
  have H2 := Lib.hid (H1.out.step hm)
  clear hm H1
  go_wp2_with fail
  refine (start1 p (en0 (1 + P) (1 + W)) S _ x H2.out.jp).mono ?_
  rintro e w4 ⟨rfl, hm⟩
  rw [HS.out.1]
  rw [HS.out.2] at hm
  have H3 := Lib.hid (H2.out.step hm)
  clear hm H2
  go_wp2_with fail
  refine (state1 p (en0 (1 + P) (1 + W)) S _ H3.out.jp).mono ?_
  rintro e w5 ⟨rfl, hm⟩
  rw [HV.out]
  have H4 := Lib.hid (H3.out.no hm)
  clear hm H3 HA HS HV
  go_wp2_with fail
  go_ret
  exact ⟨rfl, H4.out.but.alloc _⟩
set_option maxHeartbeats 4000000 in
set_option maxRecDepth 100000 in
theorem walk_lt (ha : inR a) (hb : inR b) (ht : inR t) (h : 1 ≤ d) (hc : d < 1 + pk b 1000) : Calls Try.prog 5 #[.int .i64 a, .int .i64 b, .int .i64 d, .int .i64 t] w fun e w' => e = .returned (.bool true) ∧ But No w w' := by
  have CA := Lib.hid (fun W => pick_any a 1000 W ha (by omega) (by omega))
  have CB := Lib.hid (fun W => pick_any b 1000 W hb (by omega) (by omega))
  have CC := Lib.hid (fun W => pick_any t 1099511627776 W ht (by omega) (by omega))
  have ra := pk_lt a 1000 (by omega)
  have rb := pk_lt b 1000 (by omega)
  have rt := pk_lt t 1099511627776 (by omega)
  generalize pk a 1000 = P at CA ra
  generalize pk b 1000 = W at CB rb hc
  generalize pk t 1099511627776 = x at CC rt
  obtain ⟨P0, P1⟩ := ra
  obtain ⟨W0, W1⟩ := rb
  obtain ⟨x0, x1⟩ := rt
  clear ha hb ht
  have b1 : decide (d < 1) = false := by simp; omega
  have HA := Lib.hid (ask_yes (1 + P) (1 + W) d h)
  have HS := Lib.hid (sta_yes (1 + P) (1 + W) d x h x0 (by omega))
  have HV : Hid (stv (en2 (1 + P) (1 + W) d x) = .agg #[.bool true, .int .i64 x, .int .i64 d, .int .i64 0, .bool false]) := by
    show Value.agg #[.bool true, .int .i64 x, .int .i64 (if d < 1 + W then d else 1 + W), .int .i64 0, .bool (decide (1 + W < d))] = _
    rw [if_pos hc, decide_eq_false (by omega)]
  have b2 : decide (1 + W < d) = false := by simp; omega
  have b3 : ¬ 1 + W < d := by omega
  go_enter Try.func5, Try.ntmps5
  go_wp2_with fail
  refine (examples_any w).mono ?_
  rintro e w1 ⟨rfl, hb1⟩
  have HB1 := Lib.hid hb1
  clear hb1
  go_wp2_with (first | (go_at_call 7; ((with_reducible refine (CA.out _).mono ?_); rintro e w2 ⟨rfl, rfl⟩)) | (go_at_call 7; ((with_reducible refine (CB.out _).mono ?_); rintro e w2 ⟨rfl, rfl⟩)) | (go_at_call 7; ((with_reducible refine (CC.out _).mono ?_); rintro e w2 ⟨rfl, rfl⟩)))
  refine (made1 (HB1.out.alloc _) (Blk.new w1 _ _) ⟨by omega, by omega⟩ ⟨by omega, by omega⟩).mono ?_
  rintro e w2 ⟨p, S, rfl, h1, _, _⟩
  have H1 := Lib.hid h1
  clear h1 HB1 CA CB CC
  go_wp2_with fail
  refine (ask1 p (en0 (1 + P) (1 + W)) S _ d H1.out.jp).mono ?_
  rintro e w3 ⟨rfl, hm⟩
  rw [HA.out.1]
  rw [HA.out.2] at hm
  have H2 := Lib.hid (H1.out.step hm)
  clear hm H1
  go_wp2_with fail
  refine (start1 p (en1 (1 + P) (1 + W) d) S _ x H2.out.jp).mono ?_
  rintro e w4 ⟨rfl, hm⟩
  rw [HS.out.1]
  rw [HS.out.2] at hm
  have H3 := Lib.hid (H2.out.step hm)
  clear hm H2
  go_wp2_with fail
  refine (state1 p (en2 (1 + P) (1 + W) d x) S _ H3.out.jp).mono ?_
  rintro e w5 ⟨rfl, hm⟩
  rw [HV.out]
  have H4 := Lib.hid (H3.out.no hm)
  clear hm H3 HA HS HV
  go_wp2_with fail
  go_ret
  exact ⟨rfl, H4.out.but.alloc _⟩
set_option maxHeartbeats 4000000 in
set_option maxRecDepth 100000 in
theorem walk_eq (ha : inR a) (hb : inR b) (ht : inR t) (h : 1 ≤ d) (hc : d = 1 + pk b 1000) : Calls Try.prog 5 #[.int .i64 a, .int .i64 b, .int .i64 d, .int .i64 t] w fun e w' => e = .returned (.bool true) ∧ But No w w' := by
  have CA := Lib.hid (fun W => pick_any a 1000 W ha (by omega) (by omega))
  have CB := Lib.hid (fun W => pick_any b 1000 W hb (by omega) (by omega))
  have CC := Lib.hid (fun W => pick_any t 1099511627776 W ht (by omega) (by omega))
  have ra := pk_lt a 1000 (by omega)
  have rb := pk_lt b 1000 (by omega)
  have rt := pk_lt t 1099511627776 (by omega)
  generalize pk a 1000 = P at CA ra
  generalize pk b 1000 = W at CB rb hc
  generalize pk t 1099511627776 = x at CC rt
  obtain ⟨P0, P1⟩ := ra
  obtain ⟨W0, W1⟩ := rb
  obtain ⟨x0, x1⟩ := rt
  clear ha hb ht
  have b1 : decide (d < 1) = false := by simp; omega
  have HA := Lib.hid (ask_yes (1 + P) (1 + W) d h)
  have HS := Lib.hid (sta_yes (1 + P) (1 + W) d x h x0 (by omega))
  have HV : Hid (stv (en2 (1 + P) (1 + W) d x) = .agg #[.bool true, .int .i64 x, .int .i64 d, .int .i64 0, .bool false]) := by
    show Value.agg #[.bool true, .int .i64 x, .int .i64 (if d < 1 + W then d else 1 + W), .int .i64 0, .bool (decide (1 + W < d))] = _
    rw [if_neg (by omega), decide_eq_false (by omega), ← hc]
  have b2 : decide (1 + W < d) = false := by simp; omega
  have b3 : ¬ 1 + W < d := by omega
  have b5 : 1 ≤ d := h
  clear hc h
  go_enter Try.func5, Try.ntmps5
  go_wp2_with fail
  refine (examples_any w).mono ?_
  rintro e w1 ⟨rfl, hb1⟩
  have HB1 := Lib.hid hb1
  clear hb1
  go_wp2_with (first | (go_at_call 7; ((with_reducible refine (CA.out _).mono ?_); rintro e w2 ⟨rfl, rfl⟩)) | (go_at_call 7; ((with_reducible refine (CB.out _).mono ?_); rintro e w2 ⟨rfl, rfl⟩)) | (go_at_call 7; ((with_reducible refine (CC.out _).mono ?_); rintro e w2 ⟨rfl, rfl⟩)))
  refine (made1 (HB1.out.alloc _) (Blk.new w1 _ _) ⟨by omega, by omega⟩ ⟨by omega, by omega⟩).mono ?_
  rintro e w2 ⟨p, S, rfl, h1, _, _⟩
  have H1 := Lib.hid h1
  clear h1 HB1 CA CB CC
  go_wp2_with fail
  refine (ask1 p (en0 (1 + P) (1 + W)) S _ d H1.out.jp).mono ?_
  rintro e w3 ⟨rfl, hm⟩
  rw [HA.out.1]
  rw [HA.out.2] at hm
  have H2 := Lib.hid (H1.out.step hm)
  clear hm H1
  go_wp2_with fail
  refine (start1 p (en1 (1 + P) (1 + W) d) S _ x H2.out.jp).mono ?_
  rintro e w4 ⟨rfl, hm⟩
  rw [HS.out.1]
  rw [HS.out.2] at hm
  have H3 := Lib.hid (H2.out.step hm)
  clear hm H2
  go_wp2_with fail
  refine (state1 p (en2 (1 + P) (1 + W) d x) S _ H3.out.jp).mono ?_
  rintro e w5 ⟨rfl, hm⟩
  rw [HV.out]
  have H4 := Lib.hid (H3.out.no hm)
  clear hm H3 HA HS HV
  go_wp2_with fail
  go_ret
  exact ⟨rfl, H4.out.but.alloc _⟩
set_option maxHeartbeats 4000000 in
set_option maxRecDepth 100000 in
theorem walk_gt (ha : inR a) (hb : inR b) (ht : inR t) (h : 1 ≤ d) (hc : 1 + pk b 1000 < d) : Calls Try.prog 5 #[.int .i64 a, .int .i64 b, .int .i64 d, .int .i64 t] w fun e w' => e = .returned (.bool true) ∧ But No w w' := by
  have CA := Lib.hid (fun W => pick_any a 1000 W ha (by omega) (by omega))
  have CB := Lib.hid (fun W => pick_any b 1000 W hb (by omega) (by omega))
  have CC := Lib.hid (fun W => pick_any t 1099511627776 W ht (by omega) (by omega))
  have ra := pk_lt a 1000 (by omega)
  have rb := pk_lt b 1000 (by omega)
  have rt := pk_lt t 1099511627776 (by omega)
  generalize pk a 1000 = P at CA ra
  generalize pk b 1000 = W at CB rb hc
  generalize pk t 1099511627776 = x at CC rt
  obtain ⟨P0, P1⟩ := ra
  obtain ⟨W0, W1⟩ := rb
  obtain ⟨x0, x1⟩ := rt
  clear ha hb ht
  have b1 : decide (d < 1) = false := by simp; omega
  have HA := Lib.hid (ask_yes (1 + P) (1 + W) d h)
  have HS := Lib.hid (sta_yes (1 + P) (1 + W) d x h x0 (by omega))
  have HV : Hid (stv (en2 (1 + P) (1 + W) d x) = .agg #[.bool true, .int .i64 x, .int .i64 (1 + W), .int .i64 0, .bool true]) := by
    show Value.agg #[.bool true, .int .i64 x, .int .i64 (if d < 1 + W then d else 1 + W), .int .i64 0, .bool (decide (1 + W < d))] = _
    rw [if_neg (by omega), decide_eq_true hc]
  have b2 : decide (1 + W < d) = true := by simpa using hc
  have b3 : ¬ d < 1 + W := by omega
  go_enter Try.func5, Try.ntmps5
  go_wp2_with fail
  refine (examples_any w).mono ?_
  rintro e w1 ⟨rfl, hb1⟩
  have HB1 := Lib.hid hb1
  clear hb1
  go_wp2_with (first | (go_at_call 7; ((with_reducible refine (CA.out _).mono ?_); rintro e w2 ⟨rfl, rfl⟩)) | (go_at_call 7; ((with_reducible refine (CB.out _).mono ?_); rintro e w2 ⟨rfl, rfl⟩)) | (go_at_call 7; ((with_reducible refine (CC.out _).mono ?_); rintro e w2 ⟨rfl, rfl⟩)))
  refine (made1 (HB1.out.alloc _) (Blk.new w1 _ _) ⟨by omega, by omega⟩ ⟨by omega, by omega⟩).mono ?_
  rintro e w2 ⟨p, S, rfl, h1, _, _⟩
  have H1 := Lib.hid h1
  clear h1 HB1 CA CB CC
  go_wp2_with fail
  refine (ask1 p (en0 (1 + P) (1 + W)) S _ d H1.out.jp).mono ?_
  rintro e w3 ⟨rfl, hm⟩
  rw [HA.out.1]
  rw [HA.out.2] at hm
  have H2 := Lib.hid (H1.out.step hm)
  clear hm H1
  go_wp2_with fail
  refine (start1 p (en1 (1 + P) (1 + W) d) S _ x H2.out.jp).mono ?_
  rintro e w4 ⟨rfl, hm⟩
  rw [HS.out.1]
  rw [HS.out.2] at hm
  have H3 := Lib.hid (H2.out.step hm)
  clear hm H2
  go_wp2_with fail
  refine (state1 p (en2 (1 + P) (1 + W) d x) S _ H3.out.jp).mono ?_
  rintro e w5 ⟨rfl, hm⟩
  rw [HV.out]
  have H4 := Lib.hid (H3.out.no hm)
  clear hm H3 HA HS HV
  go_wp2_with fail
  go_ret
  exact ⟨rfl, H4.out.but.alloc _⟩
end
theorem walk (a : Int) (ha : (Lit.int .i64 a).wf = true) (b : Int) (hb : (Lit.int .i64 b).wf = true) (d : Int) (_ : (Lit.int .i64 d).wf = true) (t : Int) (ht : (Lit.int .i64 t).wf = true) (w : World) :
    Calls Try.prog 5 #[.int .i64 a, .int .i64 b, .int .i64 d, .int .i64 t] w fun e w' => e = .returned (.bool true) ∧ But No w w' := by
  by_cases h : d < 1
  · exact walk_no a b d t w (inR_of ha) (inR_of hb) (inR_of ht) h
  · by_cases h1 : d < 1 + pk b 1000
    · exact walk_lt a b d t w (inR_of ha) (inR_of hb) (inR_of ht) (by omega) h1
    · by_cases h2 : d = 1 + pk b 1000
      · exact walk_eq a b d t w (inR_of ha) (inR_of hb) (inR_of ht) (by omega) h2
      · exact walk_gt a b d t w (inR_of ha) (inR_of hb) (inR_of ht) (by omega) (by omega)
end jobCuts
end Go.Proofs.Ytekgnofmldpifaa
