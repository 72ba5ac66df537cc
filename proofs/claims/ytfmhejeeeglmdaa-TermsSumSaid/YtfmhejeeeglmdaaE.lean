/- The chapter's system and examples. -/
import Derived.Test.YtfmhejeeeglmdaaTeC6
import Derived.Deep.DeepCutAuto
namespace Go.Proofs.Ytfmhejeeeglmdaa
open Go.ChangeShapes Go.WideShapes Go.ChangeAt Go.RowKit Go.Deep val ter
/-- The chapter's system. -/
def S2 : Sys := ⟨2, 1, 1, 0, 0, 0, 1, 1, [⟨50, 50, 9, [(1, 0, 3)]⟩, ⟨50, 50, 9, [(1, 0, 5)]⟩]⟩
theorem sec_blk {w : World} {b : Nat} {x y z : Int} (h : Blk w b #[.int .i64 x, .int .i64 y, .int .i64 z] 36) (hx : inR x ∧ inR y ∧ inR z) : RSec w (some ⟨b, 0, none⟩) 1 [(x, y, z)] :=
  ⟨rfl, by omega, fun _ => ⟨b, 0, rfl, h.lt, fun k u hu => by
    have hk : k < 1 := (List.getElem?_eq_some_iff.1 hu).1
    obtain rfl : k = 0 := by omega
    have e : (x, y, z) = u := by simpa using hu
    subst e
    exact ⟨h.cell rfl, h.cell rfl, h.cell rfl⟩⟩, fun u hu => by
    have e : u = (x, y, z) := by simpa using hu
    subst e; exact hx⟩
theorem two_sys {w : World} {b1 b2 b3 : Nat} (h1 : Blk w b1 #[.int .i64 1, .int .i64 0, .int .i64 3] 36) (h2 : Blk w b2 #[.int .i64 1, .int .i64 0, .int .i64 5] 36)
    (h3 : Blk w b3 #[.int .i64 50, .int .i64 50, .int .i64 9, .slice (some ⟨b1, 0, none⟩) 1 1, .int .i64 50, .int .i64 50, .int .i64 9, .slice (some ⟨b2, 0, none⟩) 1 1] 34) : RSys w (some ⟨b3, 0, none⟩) 2 2 S2 := by
  have s1 := sec_blk h1 ⟨inR_small (by omega), inR_small (by omega), inR_small (by omega)⟩
  have s2 := sec_blk h2 ⟨inR_small (by omega), inR_small (by omega), inR_small (by omega)⟩
  refine ⟨Nat.le_refl 2, ⟨rfl, by omega, fun _ => ⟨b3, 0, rfl, h3.lt, fun k t ht => ?_⟩, fun t ht => ?_⟩, ?_⟩
  · have hk : k < 2 := (List.getElem?_eq_some_iff.1 ht).1
    have : k = 0 ∨ k = 1 := by omega
    rcases this with rfl | rfl
    · have e : (⟨50, 50, 9, [(1, 0, 3)]⟩ : Tsk) = t := by simpa [S2] using ht
      subst e
      exact ⟨h3.cell rfl, h3.cell rfl, h3.cell rfl, _, 1, h3.cell rfl, Nat.le_refl 1, s1⟩
    · have e : (⟨50, 50, 9, [(1, 0, 5)]⟩ : Tsk) = t := by simpa [S2] using ht
      subst e
      exact ⟨h3.cell rfl, h3.cell rfl, h3.cell rfl, _, 1, h3.cell rfl, Nat.le_refl 1, s2⟩
  · have e : t.p = 50 ∧ t.d = 50 ∧ t.w = 9 := by
      have : t = ⟨50, 50, 9, [(1, 0, 3)]⟩ ∨ t = ⟨50, 50, 9, [(1, 0, 5)]⟩ := by simpa [S2] using ht
      rcases this with rfl | rfl <;> exact ⟨rfl, rfl, rfl⟩
    rw [e.1, e.2.1, e.2.2]
    exact ⟨inR_small (by omega), inR_small (by omega), inR_small (by omega)⟩
  · simp only [S2]
    exact ⟨inR_small (by omega), inR_small (by omega), inR_small (by omega), inR_small (by omega), inR_small (by omega), inR_small (by omega), inR_small (by omega), inR_small (by omega)⟩
set_option maxRecDepth 100000 in
set_option maxHeartbeats 2000000 in
theorem two_any (w : World) : Calls Try.prog 19 #[] w fun e w' => ∃ A, e = .returned (sysV S2 A 2 2) ∧ RSys w' A 2 2 S2 ∧ But No w w' := by
  go_enter Try.func19, Try.ntmps19
  go_wp2_with fail
  have hb : But No w ((((w.alloc (.cells (boxS S2 (some ⟨w.heap.size + 1 + 1 + 1, 0, none⟩) 2 2) 24)).alloc (.cells #[.int .i64 1, .int .i64 0, .int .i64 3] 36)).alloc (.cells #[.int .i64 1, .int .i64 0, .int .i64 5] 36)).alloc (.cells #[.int .i64 50, .int .i64 50, .int .i64 9, .slice (some ⟨w.heap.size + 1, 0, none⟩) 1 1, .int .i64 50, .int .i64 50, .int .i64 9, .slice (some ⟨w.heap.size + 1 + 1, 0, none⟩) 1 1] 34)) := ((((But.refl No w).alloc _).alloc _).alloc _).alloc _
  have h0 := (((Blk.new w (boxS S2 (some ⟨w.heap.size + 1 + 1 + 1, 0, none⟩) 2 2) 24).alloc (.cells #[.int .i64 1, .int .i64 0, .int .i64 3] 36)).alloc (.cells #[.int .i64 1, .int .i64 0, .int .i64 5] 36)).alloc (.cells #[.int .i64 50, .int .i64 50, .int .i64 9, .slice (some ⟨w.heap.size + 1, 0, none⟩) 1 1, .int .i64 50, .int .i64 50, .int .i64 9, .slice (some ⟨w.heap.size + 1 + 1, 0, none⟩) 1 1] 34)
  have h1 := ((blk2 w (.cells (boxS S2 (some ⟨w.heap.size + 1 + 1 + 1, 0, none⟩) 2 2) 24) #[.int .i64 1, .int .i64 0, .int .i64 3] 36).alloc (.cells #[.int .i64 1, .int .i64 0, .int .i64 5] 36)).alloc (.cells #[.int .i64 50, .int .i64 50, .int .i64 9, .slice (some ⟨w.heap.size + 1, 0, none⟩) 1 1, .int .i64 50, .int .i64 50, .int .i64 9, .slice (some ⟨w.heap.size + 1 + 1, 0, none⟩) 1 1] 34)
  have h2 := (blk2 (w.alloc (.cells (boxS S2 (some ⟨w.heap.size + 1 + 1 + 1, 0, none⟩) 2 2) 24)) (.cells #[.int .i64 1, .int .i64 0, .int .i64 3] 36) #[.int .i64 1, .int .i64 0, .int .i64 5] 36).alloc (.cells #[.int .i64 50, .int .i64 50, .int .i64 9, .slice (some ⟨w.heap.size + 1, 0, none⟩) 1 1, .int .i64 50, .int .i64 50, .int .i64 9, .slice (some ⟨w.heap.size + 1 + 1, 0, none⟩) 1 1] 34)
  have h3 := blk2 ((w.alloc (.cells (boxS S2 (some ⟨w.heap.size + 1 + 1 + 1, 0, none⟩) 2 2) 24)).alloc (.cells #[.int .i64 1, .int .i64 0, .int .i64 3] 36)) (.cells #[.int .i64 1, .int .i64 0, .int .i64 5] 36) #[.int .i64 50, .int .i64 50, .int .i64 9, .slice (some ⟨w.heap.size + 1, 0, none⟩) 1 1, .int .i64 50, .int .i64 50, .int .i64 9, .slice (some ⟨w.heap.size + 1 + 1, 0, none⟩) 1 1] 34
  simp only [size_alloc1] at h2 h3
  obtain ⟨c0, c1, c2, c3, c4, c5, c6, c7, c8⟩ := sys_cells h0
  unfold boxS at hb h0 h1 h2 h3 c0 c1 c2 c3 c4 c5 c6 c7 c8
  simp only [S2] at hb h0 h1 h2 h3 c0 c1 c2 c3 c4 c5 c6 c7 c8
  have hs := two_sys h1 h2 h3
  generalize ((((w.alloc (.cells #[.int .i64 2, .int .i64 1, .int .i64 1, .int .i64 0, .int .i64 0, .int .i64 0, .int .i64 1, .int .i64 1, .slice (some ⟨w.heap.size + 1 + 1 + 1, 0, none⟩) 2 2] 24)).alloc (.cells #[.int .i64 1, .int .i64 0, .int .i64 3] 36)).alloc (.cells #[.int .i64 1, .int .i64 0, .int .i64 5] 36)).alloc (.cells #[.int .i64 50, .int .i64 50, .int .i64 9, .slice (some ⟨w.heap.size + 1, 0, none⟩) 1 1, .int .i64 50, .int .i64 50, .int .i64 9, .slice (some ⟨w.heap.size + 1 + 1, 0, none⟩) 1 1] 34)) = W at *
  refine bodyPost_ret (v := sysV S2 (some ⟨w.heap.size + 1 + 1 + 1, 0, none⟩) 2 2) (by simp [results, Try.results19, go_sem, c0, c1, c2, c3, c4, c5, c6, c7, c8, sysV, S2]) rfl ?_
  exact ⟨_, rfl, hs, hb⟩
theorem v1 : longV S2 [0, 1] 1 0 = 5 := by kernel_rfl
theorem v2 : waitV S2 [0, 1] 0 0 = 6 := by kernel_rfl
theorem v3 : holdV S2 [0, 1] 0 0 = 9 := by kernel_rfl
theorem v4 : extraV S2 [0, 1] 1 = 4 := by kernel_rfl
theorem v5 : usesV S2 0 = true := by kernel_rfl
set_option maxRecDepth 100000 in
set_option maxHeartbeats 4000000 in
theorem examples_ok (w : World) : Calls Try.prog 7 #[] w fun e w' => e = .returned (.bool true) ∧ But No w w' := by
  have C2 : Hid (∀ W, Calls Try.prog 19 #[] W fun e w' => ∃ A, e = .returned (.agg #[.int .i64 2, .int .i64 1, .int .i64 1, .int .i64 0, .int .i64 0, .int .i64 0, .int .i64 1, .int .i64 1, .slice A 2 2]) ∧ RSys w' A 2 2 S2 ∧ But No W w') := two_any
  go_enter Try.func7, Try.ntmps7
  go_upto_region 3 with (go_at_call 19; (with_reducible refine (C2.out _).mono ?_); rintro e w1 ⟨A, rfl, hS, hb1⟩; have HB1 := Lib.hid hb1; have HS1 := Lib.hid hS; clear hb1 hS)
  clear C2
  have hbb : But No w1 ((w1.alloc (.cells #[.int .i64 2, .int .i64 1, .int .i64 1, .int .i64 0, .int .i64 0, .int .i64 0, .int .i64 1, .int .i64 1, .slice A 2 2] 24)).alloc (.cells #[.int .i64 0, .int .i64 1] 3)) := ((But.refl No w1).alloc _).alloc _
  have hsb : Blk ((w1.alloc (.cells #[.int .i64 2, .int .i64 1, .int .i64 1, .int .i64 0, .int .i64 0, .int .i64 0, .int .i64 1, .int .i64 1, .slice A 2 2] 24)).alloc (.cells #[.int .i64 0, .int .i64 1] 3)) w1.heap.size (boxS S2 A 2 2) 24 := (Blk.new w1 _ 24).alloc _
  have hwb := blk2 w1 (.cells #[.int .i64 2, .int .i64 1, .int .i64 1, .int .i64 0, .int .i64 0, .int .i64 0, .int .i64 1, .int .i64 1, .slice A 2 2] 24) #[.int .i64 0, .int .i64 1] 3
  generalize (w1.alloc (.cells #[.int .i64 2, .int .i64 1, .int .i64 1, .int .i64 0, .int .i64 0, .int .i64 0, .int .i64 1, .int .i64 1, .slice A 2 2] 24)).alloc (.cells #[.int .i64 0, .int .i64 1] 3) = w5 at hbb hsb hwb ⊢
  generalize w1.heap.size + 1 = b2 at hwb ⊢
  generalize w1.heap.size = b1 at hsb ⊢
  have hz : Rd w5 (some ⟨b2, 0, none⟩) 2 [0, 1] := rd_block (zs := [0, 1]) hwb (by decide) (fun k => by
    rcases k with _ | _ | k <;> exact inR_small (by simp))
  have hs := HS1.out.no hbb
  have HB5 := Lib.hid (HB1.out.trans hbb)
  have KEEP : Hid (∀ W, But No w5 W → Blk W b1 (boxS S2 A 2 2) 24) := Lib.hid (fun W hb => hsb.but hb (fun f => f))
  have CL : Hid (∀ W, But No w5 W → Calls Try.prog 8 #[.agg #[.int .i64 2, .int .i64 1, .int .i64 1, .int .i64 0, .int .i64 0, .int .i64 0, .int .i64 1, .int .i64 1, .slice A 2 2], .slice (some ⟨b2, 0, none⟩) 2 2, .int .i64 1, .int .i64 0] W fun e w' => e = .returned (.int .i64 5) ∧ But No w5 w') := Lib.hid (fun W hb => (longest_any S2 A 2 2 (some ⟨b2, 0, none⟩) 2 2 [0, 1] 1 0 W (hs.no hb) (hz.no hb) (inR_small (by omega)) (inR_small (by omega))).mono (fun e w' ⟨h1, h2⟩ => ⟨h1, hb.trans h2⟩))
  have CW : Hid (∀ W, But No w5 W → Calls Try.prog 10 #[.agg #[.int .i64 2, .int .i64 1, .int .i64 1, .int .i64 0, .int .i64 0, .int .i64 0, .int .i64 1, .int .i64 1, .slice A 2 2], .slice (some ⟨b2, 0, none⟩) 2 2, .int .i64 0, .int .i64 0] W fun e w' => e = .returned (.int .i64 6) ∧ But No w5 w') := Lib.hid (fun W hb => (waits_any S2 A 2 2 (some ⟨b2, 0, none⟩) 2 2 [0, 1] 0 0 W (hs.no hb) (hz.no hb)).mono (fun e w' ⟨h1, h2⟩ => ⟨h1, hb.trans h2⟩))
  have CH : Hid (∀ W, But No w5 W → Calls Try.prog 12 #[.agg #[.int .i64 2, .int .i64 1, .int .i64 1, .int .i64 0, .int .i64 0, .int .i64 0, .int .i64 1, .int .i64 1, .slice A 2 2], .slice (some ⟨b2, 0, none⟩) 2 2, .int .i64 0, .int .i64 0] W fun e w' => e = .returned (.int .i64 9) ∧ But No w5 w') := Lib.hid (fun W hb => (hold_any S2 A 2 2 (some ⟨b2, 0, none⟩) 2 2 [0, 1] 0 0 W (hs.no hb) (hz.no hb)).mono (fun e w' ⟨h1, h2⟩ => ⟨h1, hb.trans h2⟩))
  have CE : Hid (∀ W, But No w5 W → Calls Try.prog 14 #[.agg #[.int .i64 2, .int .i64 1, .int .i64 1, .int .i64 0, .int .i64 0, .int .i64 0, .int .i64 1, .int .i64 1, .slice A 2 2], .slice (some ⟨b2, 0, none⟩) 2 2, .int .i64 1] W fun e w' => e = .returned (.int .i64 4) ∧ But No w5 w') := Lib.hid (fun W hb => (extra_any S2 A 2 2 (some ⟨b2, 0, none⟩) 2 2 [0, 1] 1 W (hs.no hb) (hz.no hb)).mono (fun e w' ⟨h1, h2⟩ => ⟨h1, hb.trans h2⟩))
  have CU : Hid (∀ W, But No w5 W → Calls Try.prog 16 #[.agg #[.int .i64 2, .int .i64 1, .int .i64 1, .int .i64 0, .int .i64 0, .int .i64 0, .int .i64 1, .int .i64 1, .slice A 2 2], .int .i64 0] W fun e w' => e = .returned (.bool true) ∧ But No w5 w') := Lib.hid (fun W hb => (uses_any S2 A 2 2 0 W (hs.no hb)).mono (fun e w' ⟨h1, h2⟩ => ⟨h1, hb.trans h2⟩))
  obtain ⟨d0, d1, d2, d3, d4, d5, d6, d7, d8⟩ := sys_cells (KEEP.out w5 (But.refl No w5))
  simp only [S2] at d0 d1 d2 d3 d4 d5 d6 d7
  clear hbb hsb hwb hz hs HS1 HB1
  go_wp2_with (first | (go_at_call 8; (with_reducible refine (CL.out _ (But.refl No w5)).mono ?_); rintro e wA ⟨rfl, hA⟩; obtain ⟨d0, d1, d2, d3, d4, d5, d6, d7, d8⟩ := sys_cells (KEEP.out _ hA); simp only [S2] at d0 d1 d2 d3 d4 d5 d6 d7) | (go_at_call 10; (with_reducible refine (CW.out _ hA).mono ?_); rintro e wB ⟨rfl, hB⟩; obtain ⟨d0, d1, d2, d3, d4, d5, d6, d7, d8⟩ := sys_cells (KEEP.out _ hB); simp only [S2] at d0 d1 d2 d3 d4 d5 d6 d7) | (go_at_call 12; (with_reducible refine (CH.out _ hB).mono ?_); rintro e wC ⟨rfl, hC⟩; obtain ⟨d0, d1, d2, d3, d4, d5, d6, d7, d8⟩ := sys_cells (KEEP.out _ hC); simp only [S2] at d0 d1 d2 d3 d4 d5 d6 d7) | (go_at_call 14; (with_reducible refine (CE.out _ hC).mono ?_); rintro e wD ⟨rfl, hD⟩; obtain ⟨d0, d1, d2, d3, d4, d5, d6, d7, d8⟩ := sys_cells (KEEP.out _ hD); simp only [S2] at d0 d1 d2 d3 d4 d5 d6 d7) | (go_at_call 16; (with_reducible refine (CU.out _ hD).mono ?_); rintro e wE ⟨rfl, hE⟩; obtain ⟨d0, d1, d2, d3, d4, d5, d6, d7, d8⟩ := sys_cells (KEEP.out _ hE); simp only [S2] at d0 d1 d2 d3 d4 d5 d6 d7))
  go_ret
  exact ⟨rfl, HB5.out.trans hE⟩
end Go.Proofs.Ytfmhejeeeglmdaa
