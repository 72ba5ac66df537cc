/- The walk of TasksetBack. -/
import Derived.Test.YtlkcelmamenhpaaE
namespace Go.Proofs.Ytlkcelmamenhpaa
open Go.ChangeShapes Go.WideShapes Go.ChangeAt Go.RowKit Go.Deep
namespace tasksetBack
set_option maxRecDepth 100000 in
set_option maxHeartbeats 4000000 in
theorem walk (s : Sys) (A : Option Addr) (c : Nat) (b : ByteArray) (hbz : b.size ≤ 9223372036854775807) (w : World) (h : RSys w A s.ts.length c s) : Calls Try.prog 5 #[sysV s A s.ts.length c, .string b] w fun e w' => e = .returned (.bool true) ∧ But No w w' := by
  obtain ⟨t, ht, htz⟩ := eOut_str s
  have CX : ∀ W, Hid (Calls Try.prog 8 #[] W fun e w' => e = .returned (.bool true) ∧ But No W w') := fun W => examples_any W
  obtain ⟨E, hE⟩ : ∃ E, eErr s = E := ⟨_, rfl⟩
  obtain ⟨n, hn⟩ : ∃ n, s.ts.length = n := ⟨_, rfl⟩
  rw [hn] at h ⊢
  have CE : Hid (∀ W, But No w W → Calls Try.prog 9 #[sysV s A n c] W fun e w' => e = .returned (.tuple #[.string t, .int .i64 (E : Int)]) ∧ But No W w') := fun W hb => encode_to ht hE W (h.no hb)
  have CD : Hid (E = 0 → ∀ W, Calls Try.prog 12 #[.string t] W fun r w' => ∃ A c, r = .returned (.tuple #[sysV s A n c, .int .i64 0]) ∧ But No W w' ∧ RSys w' A n c s) := fun h0 W => (decode_to t W (by omega)).mono fun r w' ⟨A, m, c, hr, hb, _, hR⟩ => by
    rw [ht, dec_enc (hE.trans h0)] at hr hR
    have hm : m = n := by rw [← hR.ts.len]; exact hn
    subst hm
    exact ⟨A, c, hr, hb, hR⟩
  have CS : Hid (∀ W B d, But No w W → RSys W B n d s → Calls Try.prog 14 #[sysV s B n d, sysV s A n c] W fun e w' => e = .returned (.bool true) ∧ But No W w') := fun W B d hb hr => (same_any s s B A n d n c W hr (h.no hb)).mono fun e w' ⟨he, hb⟩ => ⟨by rw [he]; simp, hb⟩
  have hEN : E = 0 ∨ (((E : Int) == 0) = false) := by
    by_cases q : E = 0
    · exact .inl q
    · exact .inr (by rw [beq_eq_false_iff_ne]; omega)
  clear hE ht h hn
  by_cases hg : (decP (nl b)).1 = 0
  · obtain ⟨e1, e2⟩ := enc_dec hg
    obtain ⟨y, hy⟩ : ∃ y, y = (decP (nl b)).2 := ⟨_, rfl⟩
    obtain ⟨m, hm⟩ : ∃ m, m = y.ts.length := ⟨_, rfl⟩
    have CB : Hid (∀ W, Calls Try.prog 12 #[.string b] W fun r w' => ∃ A c, r = .returned (.tuple #[sysV y A m c, .int .i64 0]) ∧ But No W w' ∧ RSys w' A m c y) := fun W => (decode_to b W hbz).mono fun r w' ⟨A, k, c, hr, hb, _, hR⟩ => by
      rw [hg, ← hy] at hr
      rw [← hy] at hR
      have hk : k = m := by rw [← hR.ts.len, hm]
      subst hk
      exact ⟨A, c, hr, hb, hR⟩
    have CY : Hid (∀ W A c, RSys W A m c y → Calls Try.prog 9 #[sysV y A m c] W fun e w' => e = .returned (.tuple #[.string b, .int .i64 0]) ∧ But No W w') := fun W A c hr => encode_to (by rw [hy, e2]) (by rw [hy]; exact e1) W hr
    have heq : (b.toList == b.toList) = true := by simp
    clear e1 e2 hy hg hm
    rcases hEN with rfl | hEN
    · have CDz := Lib.hid (CD.out rfl)
      clear CD
      unfold sysV at CE CDz CS CB CY ⊢
      go_enter Try.func5, Try.ntmps5
      go_upto_region 5 with (first | (go_at_call 8; refine (CX _).out.mono ?_; rintro e w1 ⟨rfl, hb1⟩; have HB1 := Lib.hid (((But.refl No w).alloc _).trans hb1); have HS1 : Hid (S9 w1 w.heap.size s A n c) := keepS9 (sys_cells (s := s) (Blk.new w _ _)) hb1; clear hb1; obtain ⟨d0, d1, d2, d3, d4, d5, d6, d7, d8⟩ := HS1.out) | (go_at_call 9; ((with_reducible refine (CE.out _ HB1.out).mono ?_); rintro e w2 ⟨rfl, hb2⟩; have HB2 := Lib.hid (HB1.out.trans hb2); have HS2 := Lib.hid (keepS9 HS1.out hb2); clear hb2 d0 d1 d2 d3 d4 d5 d6 d7 d8)) | (go_at_call 12; ((with_reducible refine (CDz.out _).mono ?_); rintro e w3 ⟨AX, cX, rfl, hb3, hr3⟩; have HB3 := Lib.hid (HB2.out.trans hb3); have HS3 := Lib.hid (keepS9 HS2.out hb3); have HR3 := Lib.hid hr3; clear hb3 hr3)))
      obtain ⟨w4, hw4, hb4, hk4⟩ : ∃ w4, w3.alloc (.cells #[.int .i64 s.co, .int .i64 s.po, .int .i64 s.pr, .int .i64 s.re, .int .i64 s.sw, .int .i64 s.fi, .int .i64 s.la, .int .i64 s.rs, .slice AX n cX] 24) = w4 ∧ But No w3 w4 ∧ S9 w4 w3.heap.size s AX n cX := ⟨_, rfl, (But.refl _ _).alloc _, sys_cells (s := s) (Blk.new w3 _ _)⟩
      rw [hw4]
      have HB4 := Lib.hid (HB3.out.trans hb4)
      have HR4 := Lib.hid (HR3.out.no hb4)
      have hs4 := keepS9 HS3.out hb4
      obtain ⟨d0, d1, d2, d3, d4, d5, d6, d7, d8⟩ := hs4
      obtain ⟨g0, g1, g2, g3, g4, g5, g6, g7, g8⟩ := hk4
      clear hw4 hb4
      generalize w3.heap.size = b4 at *
      go_wp2_with (first | (go_at_call 14; ((with_reducible refine (CS.out _ _ _ HB4.out HR4.out).mono ?_); rintro e w5 ⟨rfl, hb5⟩; have HB5 := Lib.hid (HB4.out.trans hb5); clear hb5)) | (go_at_call 12; ((with_reducible refine (CB.out _).mono ?_); rintro e w6 ⟨AY, cY, rfl, hb6, hr6⟩; have HB6 := Lib.hid (HB5.out.trans hb6); have HR6 := Lib.hid hr6; clear hb6 hr6)) | (go_at_call 9; ((with_reducible refine (CY.out _ _ _ (HR6.out.no ((But.refl _ _).alloc _))).mono ?_); rintro e w7 ⟨rfl, hb7⟩; have HB7 := Lib.hid ((HB6.out.alloc _).trans hb7); clear hb7)))
      go_ret
      exact ⟨rfl, HB7.out⟩
    · clear CD CS
      unfold sysV at CE CB CY ⊢
      go_enter Try.func5, Try.ntmps5
      go_wp2_with (first | (go_at_call 8; refine (CX _).out.mono ?_; rintro e w1 ⟨rfl, hb1⟩; have HB1 := Lib.hid (((But.refl No w).alloc _).trans hb1); have HS1 : Hid (S9 w1 w.heap.size s A n c) := keepS9 (sys_cells (s := s) (Blk.new w _ _)) hb1; clear hb1; obtain ⟨d0, d1, d2, d3, d4, d5, d6, d7, d8⟩ := HS1.out) | (go_at_call 9; ((with_reducible refine (CE.out _ HB1.out).mono ?_); rintro e w2 ⟨rfl, hb2⟩; have HB2 := Lib.hid (HB1.out.trans hb2); have HS2 := Lib.hid (keepS9 HS1.out hb2); clear hb2 d0 d1 d2 d3 d4 d5 d6 d7 d8)) | (go_at_call 12; ((with_reducible refine (CB.out _).mono ?_); rintro e w6 ⟨AY, cY, rfl, hb6, hr6⟩; have HB6 := Lib.hid (HB2.out.trans hb6); have HR6 := Lib.hid hr6; clear hb6 hr6)) | (go_at_call 9; ((with_reducible refine (CY.out _ _ _ (HR6.out.no ((But.refl _ _).alloc _))).mono ?_); rintro e w7 ⟨rfl, hb7⟩; have HB7 := Lib.hid ((HB6.out.alloc _).trans hb7); clear hb7)))
      go_ret
      exact ⟨rfl, HB7.out⟩
  · obtain ⟨G, hG⟩ : ∃ G, G = (decP (nl b)).1 := ⟨_, rfl⟩
    have h0 : (decP (nl b)).2 = sys0 := by
      rcases decP_says b with ⟨_, q⟩ | ⟨q, _⟩
      · exact q
      · exact absurd q hg
    have CB : Hid (∀ W, Calls Try.prog 12 #[.string b] W fun r w' => ∃ (A : Option Addr) (c : Nat), r = .returned (.tuple #[.agg #[.int .i64 0, .int .i64 0, .int .i64 0, .int .i64 0, .int .i64 0, .int .i64 0, .int .i64 0, .int .i64 0, .slice A 0 c], .int .i64 (G : Int)]) ∧ But No W w' ∧ True) := fun W => (decode_to b W hbz).mono fun r w' ⟨A, k, c, hr, hb, _, hR⟩ => by
      rw [← hG, h0] at hr
      rw [h0] at hR
      have hk : k = 0 := by rw [← hR.ts.len]; rfl
      subst hk
      exact ⟨A, c, hr, hb, trivial⟩
    rw [← hG] at hg
    have hne : ((G : Int) != 0) = true := by rw [bne_iff_ne]; omega
    clear hG h0
    rcases hEN with rfl | hEN
    · have CDz := Lib.hid (CD.out rfl)
      clear CD
      unfold sysV at CE CDz CS ⊢
      go_enter Try.func5, Try.ntmps5
      go_upto_region 5 with (first | (go_at_call 8; refine (CX _).out.mono ?_; rintro e w1 ⟨rfl, hb1⟩; have HB1 := Lib.hid (((But.refl No w).alloc _).trans hb1); have HS1 : Hid (S9 w1 w.heap.size s A n c) := keepS9 (sys_cells (s := s) (Blk.new w _ _)) hb1; clear hb1; obtain ⟨d0, d1, d2, d3, d4, d5, d6, d7, d8⟩ := HS1.out) | (go_at_call 9; ((with_reducible refine (CE.out _ HB1.out).mono ?_); rintro e w2 ⟨rfl, hb2⟩; have HB2 := Lib.hid (HB1.out.trans hb2); have HS2 := Lib.hid (keepS9 HS1.out hb2); clear hb2 d0 d1 d2 d3 d4 d5 d6 d7 d8)) | (go_at_call 12; ((with_reducible refine (CDz.out _).mono ?_); rintro e w3 ⟨AX, cX, rfl, hb3, hr3⟩; have HB3 := Lib.hid (HB2.out.trans hb3); have HS3 := Lib.hid (keepS9 HS2.out hb3); have HR3 := Lib.hid hr3; clear hb3 hr3)))
      obtain ⟨w4, hw4, hb4, hk4⟩ : ∃ w4, w3.alloc (.cells #[.int .i64 s.co, .int .i64 s.po, .int .i64 s.pr, .int .i64 s.re, .int .i64 s.sw, .int .i64 s.fi, .int .i64 s.la, .int .i64 s.rs, .slice AX n cX] 24) = w4 ∧ But No w3 w4 ∧ S9 w4 w3.heap.size s AX n cX := ⟨_, rfl, (But.refl _ _).alloc _, sys_cells (s := s) (Blk.new w3 _ _)⟩
      rw [hw4]
      have HB4 := Lib.hid (HB3.out.trans hb4)
      have HR4 := Lib.hid (HR3.out.no hb4)
      have hs4 := keepS9 HS3.out hb4
      obtain ⟨d0, d1, d2, d3, d4, d5, d6, d7, d8⟩ := hs4
      obtain ⟨g0, g1, g2, g3, g4, g5, g6, g7, g8⟩ := hk4
      clear hw4 hb4
      generalize w3.heap.size = b4 at *
      go_wp2_with (first | (go_at_call 14; ((with_reducible refine (CS.out _ _ _ HB4.out HR4.out).mono ?_); rintro e w5 ⟨rfl, hb5⟩; have HB5 := Lib.hid (HB4.out.trans hb5); clear hb5)) | (go_at_call 12; ((with_reducible refine (CB.out _).mono ?_); rintro e w6 ⟨AY, cY, rfl, hb6, hr6⟩; have HB6 := Lib.hid (HB5.out.trans hb6); have HR6 := Lib.hid hr6; clear hb6 hr6)))
      go_ret
      exact ⟨rfl, HB6.out.alloc _⟩
    · clear CD CS
      unfold sysV at CE ⊢
      go_enter Try.func5, Try.ntmps5
      go_wp2_with (first | (go_at_call 8; refine (CX _).out.mono ?_; rintro e w1 ⟨rfl, hb1⟩; have HB1 := Lib.hid (((But.refl No w).alloc _).trans hb1); have HS1 : Hid (S9 w1 w.heap.size s A n c) := keepS9 (sys_cells (s := s) (Blk.new w _ _)) hb1; clear hb1; obtain ⟨d0, d1, d2, d3, d4, d5, d6, d7, d8⟩ := HS1.out) | (go_at_call 9; ((with_reducible refine (CE.out _ HB1.out).mono ?_); rintro e w2 ⟨rfl, hb2⟩; have HB2 := Lib.hid (HB1.out.trans hb2); have HS2 := Lib.hid (keepS9 HS1.out hb2); clear hb2 d0 d1 d2 d3 d4 d5 d6 d7 d8)) | (go_at_call 12; ((with_reducible refine (CB.out _).mono ?_); rintro e w6 ⟨AY, cY, rfl, hb6, hr6⟩; have HB6 := Lib.hid (HB2.out.trans hb6); have HR6 := Lib.hid hr6; clear hb6 hr6)))
      go_ret
      exact ⟨rfl, HB6.out.alloc _⟩
end tasksetBack
end Go.Proofs.Ytlkcelmamenhpaa
