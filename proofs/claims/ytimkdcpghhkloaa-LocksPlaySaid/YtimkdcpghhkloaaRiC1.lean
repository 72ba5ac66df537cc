/- Contracts of maskFor, position and closeGap. -/
import Derived.Test.YtimkdcpghhkloaaRiW
namespace Go.Proofs.Ytimkdcpghhkloaa.rin
open Go.ChangeShapes Go.WideShapes Go.ChangeAt Go.RowKit Go.Deep
theorem or_step {sz : Nat} (h : 0 < sz) (hl : sz ≤ 256) : bits .or .i64 (((sz - 1 : Nat) : Int) * 2) 1 = ((sz * 2 - 1 : Nat) : Int) := by
  have e : ((sz - 1 : Nat) : Int) * 2 = (((sz - 1) * 2 : Nat) : Int) := by omega
  rw [e]
  have h1 := i64_or_nat ((sz - 1) * 2) 1 (by omega) (by omega)
  rw [show ((1 : Nat) : Int) = 1 from rfl] at h1
  rw [h1]
  congr 1
  have := Nat.two_pow_add_eq_or_of_lt (i := 1) (b := 1) (by omega) (sz - 1)
  rw [show 2 ^ 1 * (sz - 1) = (sz - 1) * 2 by omega] at this
  rw [← this]; omega
set_option maxHeartbeats 1000000 in
theorem maskFor_any (R : Int) (w : World) (h0 : 0 ≤ R) (h1 : R ≤ 256) :
    Calls Try.prog 30 #[.int .i64 R] w fun r w' => ∃ sz : Nat, r = .returned (.int .i64 ((sz - 1 : Nat) : Int)) ∧ Pow sz ∧ R ≤ sz ∧ w = w' := by
  go_enter Try.func30, Try.ntmps30
  go_wp2_with fail
  go_loopw [3] (fun s wr => ∃ sz m : Nat, s = .int .i64 ((sz - 1 : Nat) : Int) ∧ m ≤ 8 ∧ sz ≤ 256 ∧ 0 < sz ∧ Hid (sz = 2 ^ m) ∧ Hid (w = wr)) (fun s _ => 300 - (intOf s).toNat)
  case atStart => exact ⟨1, 0, rfl, by omega, by omega, by omega, show _ = _ from rfl, show _ = _ from rfl⟩
  case round =>
    obtain ⟨sz, m, rfl, hm, hs, hs0, hp, hw⟩ := hrel
    by_cases hlt : (sz : Int) < R
    · have e := or_step hs0 hs
      have hm8 : m < 8 := by
        have : m ≠ 8 := fun e => by have := hp.out; rw [e] at this; omega
        omega
      have HN : Hid (sz * 2 = 2 ^ (m + 1)) := by show _ = _; rw [hp.out, Nat.pow_succ]
      have hsz : sz * 2 ≤ 256 := by
        rw [HN.out]; exact Nat.pow_le_pow_right (by omega) (show m + 1 ≤ 8 by omega)
      have b1 : decide (((sz - 1 : Nat) : Int) + 1 < R) = true := by simp; omega
      have b2 : ((sz - 1 : Nat) : Int) + 1 < R := by omega
      obtain ⟨k, hk⟩ : ∃ k, k = sz - 1 := ⟨_, rfl⟩
      obtain ⟨k2, hk2⟩ : ∃ k2, k2 = sz * 2 - 1 := ⟨_, rfl⟩
      rw [← hk] at b1 b2 e ⊢
      rw [← hk2] at e
      have hk9 : k ≤ 255 := by omega
      have HK : Hid (k = sz - 1 ∧ k2 = sz * 2 - 1) := ⟨hk, hk2⟩
      have HS : Hid (0 < sz) := hs0
      clear hk hk2 hlt hs0
      go_wp2
      go_roundw
      case rel => exact ⟨sz * 2, m + 1, by rw [← HK.out.2], by omega, hsz, by have := HS.out; omega, HN, hw⟩
      case measure => simp [intOf]; have := HK.out; have := HS.out; omega
    · have HE : Hid (Pow sz ∧ R ≤ sz) := ⟨⟨m, hm, hp.out⟩, by omega⟩
      have b1 : decide (((sz - 1 : Nat) : Int) + 1 < R) = false := by simp; omega
      go_wp2
      go_ret
      exact ⟨sz, rfl, HE.out.1, HE.out.2, hw.out⟩
theorem position_any (p F sz i : Nat) (w : World) (h3 : w.cell? ⟨p, 3, none⟩ = some (.int .i64 ((sz - 1 : Nat) : Int))) (h4 : w.cell? ⟨p, 4, none⟩ = some (.int .i64 F)) (hP : Pow sz) (hF : F < sz) (hi : i ≤ sz) :
    Calls Try.prog 32 #[.pointer (some ⟨p, 0, none⟩), .int .i64 i] w fun r w' => r = .returned (.int .i64 (ps F sz i)) ∧ ∃ m, w' = w.drewN m := by
  have e := mask_ps hP hF hi
  have hp := hP.pos
  have hl := hP.le
  have e2 : (sz : Int) - 1 = ((sz - 1 : Nat) : Int) := by omega
  rw [e2] at e
  generalize ps F sz i = k at e
  generalize sz - 1 = m at h3 e
  have hF' : (F : Int) < 256 := by omega
  have hi' : (i : Int) ≤ 256 := by omega
  clear hP hF hi hp hl e2
  go_enter Try.func32, Try.ntmps32
  go_wp2_with fail
  go_quiet (fail)
  go_wp2
  go_ret
  exact ⟨rfl, _, rfl⟩
theorem infoT55 : (Try.prog.info? 63).map (·.size) = some 2 := by kernel_rfl
theorem wr1 {a b : Nat} (h : b = a + 1) (ha : a ≤ 1000) : IntKind.i64.wrap ((a : Int) + 1) = (b : Int) := by rw [IntWalk.i64_in ((a : Int) + 1) (by omega)]; omega
theorem wr0 {a : Nat} (ha : a ≤ 1000) : IntKind.i64.wrap (a : Int) = (a : Int) := IntWalk.i64_in (a : Int) (by omega)
set_option maxHeartbeats 400000 in
set_option maxRecDepth 100000 in
theorem closeGap_in (q sz gap last : Nat) (g : Nat → It) (w : World) (hI : Itm w q sz g) (hg : gap < sz) (hl : last < sz) (hs : sz ≤ 256) (hle : gap ≤ last) :
    Calls Try.prog 34 #[.slice (some ⟨q, 0, none⟩) sz sz, .int .i64 gap, .int .i64 last] w fun r w' => r = .returned (.tuple #[]) ∧ Itm w' q sz (closed g sz gap last) ∧ But (Just q) w w' := by
  have HI : Hid (Itm w.drew q sz g) := hI
  have b1 : decide ((last : Int) < (gap : Int)) = false := by simp; omega
  have b2 : (gap : Int) ≤ (last : Int) := by omega
  have b3 : (last : Int) ≤ (sz : Int) := by omega
  obtain ⟨g1, hg1⟩ : ∃ x, x = gap + 1 := ⟨_, rfl⟩
  obtain ⟨l1, hl1⟩ : ∃ x, x = last + 1 := ⟨_, rfl⟩
  have e1 := wr1 hg1 (by omega)
  have e2 := wr1 hl1 (by omega)
  have e3 := wr0 (a := g1) (by omega)
  have e4 := wr0 (a := l1) (by omega)
  have b4 : (l1 : Int) ≤ (sz : Int) := by omega
  have b5 : (g1 : Int) ≤ (l1 : Int) := by omega
  have b6 : ¬ sz = gap := by omega
  obtain ⟨A', hA'⟩ : ∃ A', (if sz = g1 then some (⟨q, 0, none⟩ : Addr) else some ⟨q, g1 * 2, none⟩) = A' := ⟨_, rfl⟩
  have HP : Hid (0 < last - gap → A' = some ⟨q, (gap + 1) * 2, none⟩) := by
    intro hm
    rw [← hA', if_neg (by omega), hg1]
  have HM : Hid (Nat.min (l1 - g1) (last - gap) = last - gap) := by show _ = _; rw [hg1, hl1, show last + 1 - (gap + 1) = last - gap by omega]; exact Nat.min_self _
  have HF : Hid (gap + 1 + (last - gap) ≤ sz) := by show _ ≤ _; omega
  have HC : Hid (closed g sz gap last = gapA g gap (gap + (last - gap))) := by show _ = _; unfold closed; rw [if_neg (by omega), show gap + (last - gap) = last by omega]
  clear hI hg hl hs hle hg1 hl1
  go_enter Try.func34, Try.ntmps34
  go_wp2_with fail
  go_region_law (refine step_copy_items rfl (.tmp 28) (.tmp 34) 59 59 rfl 63 Try.underlying59 infoT55 (some ⟨q, gap * 2, none⟩) A' (last - gap) (sz - gap) (l1 - g1) (sz - g1) (by simp [Act.eval, Act.put]) (by simp [Act.eval, Act.put]) q sz g HI.out gap (last - gap) HM.out (fun h => ⟨rfl, HP.out h⟩) HF.out ?_; intro w2 hi2 hb2)
  go_wp2
  go_end0
  exact ⟨rfl, by rw [HC.out]; exact hi2.out, ((But.refl (Just q) w).drew).trans hb2.out⟩
set_option maxHeartbeats 1000000 in
set_option maxRecDepth 100000 in
theorem closeGap_round (q sz gap last : Nat) (g : Nat → It) (w : World) (hI : Itm w q sz g) (hg : gap < sz) (hl : last < sz) (hs : sz ≤ 256) (hle : last < gap) :
    Calls Try.prog 34 #[.slice (some ⟨q, 0, none⟩) sz sz, .int .i64 gap, .int .i64 last] w fun r w' => r = .returned (.tuple #[]) ∧ Itm w' q sz (closed g sz gap last) ∧ But (Just q) w w' := by
  have HI : Hid (Itm w.drew q sz g) := hI
  have b1 : decide ((last : Int) < (gap : Int)) = true := by simp; omega
  have b2 : (gap : Int) ≤ (sz : Int) := by omega
  have b3 : (last : Int) ≤ (sz : Int) := by omega
  have b7 : (last : Int) < (gap : Int) := by omega
  obtain ⟨g1, hg1⟩ : ∃ x, x = gap + 1 := ⟨_, rfl⟩
  obtain ⟨l1, hl1⟩ : ∃ x, x = last + 1 := ⟨_, rfl⟩
  obtain ⟨z1, hz1⟩ : ∃ x, x = sz - 1 := ⟨_, rfl⟩
  have e1 := wr1 hg1 (by omega)
  have e2 := wr1 hl1 (by omega)
  have e3 := wr0 (a := g1) (by omega)
  have e4 := wr0 (a := l1) (by omega)
  have e5 : (sz : Int) - 1 = (z1 : Int) := by omega
  have b4 : (l1 : Int) ≤ (sz : Int) := by omega
  have b5 : (1 : Int) ≤ (l1 : Int) := by omega
  have b6 : ¬ sz = gap := by omega
  have b8 : (g1 : Int) ≤ (sz : Int) := by omega
  have b9 : ¬ sz = 0 := by omega
  have b10 : (z1 : Int) < (sz : Int) := by omega
  have b11 : (0 : Int) < (sz : Int) := by omega
  have b12 : ¬ sz = 1 := by omega
  have b14 : IntKind.i64.wrap 1 = 1 := rfl
  obtain ⟨A', hA'⟩ : ∃ A', (if sz = g1 then some (⟨q, 0, none⟩ : Addr) else some ⟨q, g1 * 2, none⟩) = A' := ⟨_, rfl⟩
  have HP : Hid (0 < sz - g1 → A' = some ⟨q, (gap + 1) * 2, none⟩) := by
    intro hm
    rw [← hA', if_neg (by omega), hg1]
  have HM : Hid (Nat.min (sz - g1) (sz - gap) = sz - g1) := by show _ = _; exact Nat.min_eq_left (by omega)
  have HF : Hid (gap + 1 + (sz - g1) ≤ sz) := by show _ ≤ _; omega
  have HM2 : Hid (Nat.min (l1 - 1) last = last) := by show _ = _; rw [hl1]; exact Nat.min_self _
  have HF2 : Hid (0 + 1 + last ≤ sz) := by show _ ≤ _; omega
  have HZ : Hid (z1 < sz ∧ 0 < sz) := by exact ⟨by omega, by omega⟩
  have HC : Hid (closed g sz gap last = gapA (upd (gapA g gap (gap + (sz - g1))) z1 (gapA g gap (gap + (sz - g1)) 0)) 0 (0 + last)) := by
    show _ = _
    unfold closed
    rw [if_pos hle, Nat.zero_add, hz1, show gap + (sz - g1) = sz - 1 by omega]
    rfl
  clear hI hg hl hle hg1 hl1 hz1
  go_enter Try.func34, Try.ntmps34
  go_wp2_with fail
  go_region_law (refine step_copy_items rfl (.tmp 11) (.tmp 15) 59 59 rfl 63 Try.underlying59 infoT55 (some ⟨q, gap * 2, none⟩) A' (sz - gap) (sz - gap) (sz - g1) (sz - g1) (by simp [Act.eval, Act.put]) (by simp [Act.eval, Act.put]) q sz g HI.out gap (sz - g1) HM.out (fun h => ⟨rfl, HP.out h⟩) HF.out ?_; intro w2 hi2 hb2)
  generalize gapA g gap (gap + (sz - g1)) = gb at hi2 HC
  obtain ⟨c0, c1⟩ := hi2.out.cells HZ.out.2
  obtain ⟨d0, d1⟩ := hi2.out.cells HZ.out.1
  have f0 := hi2.out.frozen (z1 * 2)
  have f1 := hi2.out.frozen (z1 * 2 + 1)
  simp only [Nat.zero_mul, Nat.zero_add] at c0 c1
  obtain ⟨x, hx⟩ : ∃ x, gb 0 = x := ⟨_, rfl⟩
  rw [hx] at c0 c1 HC
  have H3 : Hid (Itm (((w2.setCell ⟨q, z1 * 2, none⟩ (.int .i64 x.id)).setCell ⟨q, z1 * 2 + 1, none⟩ (.int .i64 x.tk)).drew) q sz (upd gb z1 x)) := hi2.out.put x
  have HB3 : Hid (But (Just q) w (((w2.setCell ⟨q, z1 * 2, none⟩ (.int .i64 x.id)).setCell ⟨q, z1 * 2 + 1, none⟩ (.int .i64 x.tk)).drew)) := (((((But.refl (Just q) w).drew).trans hb2.out).setCell (p := ⟨q, z1 * 2, none⟩) (just q) _).setCell (p := ⟨q, z1 * 2 + 1, none⟩) (just q) _).drew
  obtain ⟨xa, xb⟩ := x
  dsimp only at c0 c1 H3 HB3
  clear hx
  go_wp2_with fail
  go_region_law (refine step_copy_items rfl (.tmp 28) (.tmp 34) 59 59 rfl 63 Try.underlying59 infoT55 (some ⟨q, 0 * 2, none⟩) (some ⟨q, (0 + 1) * 2, none⟩) last sz (l1 - 1) (sz - 1) (by simp [Act.eval, Act.put]) (by simp [Act.eval, Act.put]) q sz _ H3.out 0 last HM2.out (fun h => ⟨rfl, rfl⟩) HF2.out ?_; intro w4 hi4 hb4)
  go_wp2
  go_end0
  exact ⟨rfl, by rw [HC.out]; exact hi4.out, HB3.out.trans hb4.out⟩
theorem closeGap_any (q sz gap last : Nat) (g : Nat → It) (w : World) (hI : Itm w q sz g) (hg : gap < sz) (hl : last < sz) (hs : sz ≤ 256) :
    Calls Try.prog 34 #[.slice (some ⟨q, 0, none⟩) sz sz, .int .i64 gap, .int .i64 last] w fun r w' => r = .returned (.tuple #[]) ∧ Itm w' q sz (closed g sz gap last) ∧ But (Just q) w w' := by
  by_cases h : last < gap
  · exact closeGap_round q sz gap last g w hI hg hl hs h
  · exact closeGap_in q sz gap last g w hI hg hl hs (by omega)
end Go.Proofs.Ytimkdcpghhkloaa.rin
