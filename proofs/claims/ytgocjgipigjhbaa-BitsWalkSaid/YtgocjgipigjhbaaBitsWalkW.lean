/- From First on, Next after Next, all levels that are taken come, rising, and no other one: BitsWalk returns true. (The walk.) -/
import Derived.Test.YtgocjgipigjhbaaK
namespace Go.Proofs.Ytgocjgipigjhbaa.bitsWalk
open Go.ChangeShapes Go.WideShapes Go.ChangeAt Go.RowKit
theorem next_at (s : Q) (L : Nat) : s.next L = scan s.has (L + 1) (256 - (L + 1)) := by
  unfold Q.next
  rw [if_neg (by omega)]; rfl
set_option maxHeartbeats 8000000 in
set_option maxRecDepth 100000 in
theorem walk (s : Q) (hs : s.ok) (w : World) : Calls Try.prog 7 #[sv s] w fun e w' => e = .returned (.bool true) ∧ But No w w' := by
  have CE : Hid (∀ w, Calls Try.prog 10 #[] w fun e w' => e = .returned (.bool true) ∧ But No w w') := examples_any
  have CF : Hid (∀ w, Calls Try.prog 14 #[sv s] w fun e w' => e = .returned (.int .i64 s.first) ∧ But No w w') := fun w => first_any s w hs
  have CN : Hid (∀ w (L : Nat), Calls Try.prog 16 #[sv s, .int .i64 L] w fun e w' => e = .returned (.int .i64 (scan s.has (L + 1) (256 - (L + 1)))) ∧ But No w w') := fun w L => by rw [← next_at]; exact next_any s L w hs
  have CH : Hid (∀ w (L : Nat), L < 256 → Calls Try.prog 13 #[sv s, .int .i64 L] w fun e w' => e = .returned (.bool (s.has L)) ∧ But No w w') := fun w L hL => has_yes s L w hs hL
  have CC : Hid (∀ w, Calls Try.prog 17 #[sv s] w fun e w' => e = .returned (.int .i64 s.count) ∧ But No w w') := fun w => count_any s w hs
  clear hs
  go_enter Try.func7, Try.ntmps7
  go_wp2_with (first
    | (go_at_call 10; (with_reducible refine (CE.out _).mono ?_); rintro e w1 ⟨rfl, hb1⟩; have HB1 := Lib.hid (((But.refl No w).alloc _).trans hb1); have HA1 := Lib.hid ((Blk.new w (cells4 s) 23).but hb1 (fun f => f)); clear hb1; have a0 := HA1.out.cell (o := 0) rfl; have a1 := HA1.out.cell (o := 1) rfl; have a2 := HA1.out.cell (o := 2) rfl; have a3 := HA1.out.cell (o := 3) rfl)
    | (go_at_call 14; (with_reducible refine (CF.out _).mono ?_); rintro e w2 ⟨rfl, hb2⟩; have HB2 := Lib.hid ((HB1.out.alloc _).trans hb2); have HS2 := Lib.hid ((Blk.new w1 (cells4 s) 26).but hb2 (fun f => f)); clear hb2))
  go_loopw [5, 6, 7] (fun t5 t6 t7 wr => ∃ m n : Nat, m ≤ 256 ∧ n ≤ 256 ∧ t5 = .int .i64 ((m : Int) - 1) ∧ t6 = .int .i64 n ∧ t7 = .int .i64 (scan s.has m (256 - m)) ∧ Hid (n = cnt s.has m) ∧ Hid (Blk wr w1.heap.size (cells4 s) 26) ∧ Hid (But No w wr)) (fun _ t6 _ _ => 257 - (intOf t6).toNat)
  case atStart => exact ⟨0, 0, by omega, by omega, rfl, rfl, rfl, rfl, HS2, HB2⟩
  case round =>
    obtain ⟨m, n, hm, hn, rfl, rfl, rfl, hnc, hq, hb⟩ := hrel
    have c0 := hq.out.cell (o := 0) rfl
    have c1 := hq.out.cell (o := 1) rfl
    have c2 := hq.out.cell (o := 2) rfl
    have c3 := hq.out.cell (o := 3) rfl
    rcases scan_is s.has (256 - m) m with ⟨h1, h2⟩ | ⟨L, h1, h2, h3, h4, h5⟩
    · rw [h1]
      have HE : Hid (((n : Int) == (s.count : Int)) = true) := by
        have : s.count = cnt s.has m := by
          unfold Q.count
          rw [← lst_len, ← lst_len, lst_skip hm (fun j a b => h2 j a (by omega))]
        show _ = _
        rw [this, hnc.out]; simp
      have CC2 : Hid (∀ w, Calls Try.prog 17 #[sv s] w fun e w' => e = .returned (.int .i64 n) ∧ But No w w') := fun w => by
        have := CC.out w
        rw [← beq_iff_eq.1 HE.out] at this
        exact this
      clear h1 h2
      go_wp2_with (first | (go_at_call 17; (with_reducible refine (CC2.out _).mono ?_); rintro e w3 ⟨rfl, hb3⟩; have HB3 := Lib.hid (hb.out.trans hb3); clear hb3))
      go_ret
      exact ⟨rfl, HB3.out⟩
    · rw [h1]
      have hL : L < 256 := by omega
      have CHL : Hid (∀ w, Calls Try.prog 13 #[sv s, .int .i64 L] w fun e w' => e = .returned (.bool true) ∧ But No w w') := fun w => by have := CH.out w L hL; rw [h4] at this; exact this
      have CHk : Hid (∀ w (k : Nat), m ≤ k → k < L → Calls Try.prog 13 #[sv s, .int .i64 k] w fun e w' => e = .returned (.bool false) ∧ But No w w') := fun w k h6 h7 => by have := CH.out w k (by omega); rw [h5 k h6 h7] at this; exact this
      have CN2 : Hid (∀ w, Calls Try.prog 16 #[sv s, .int .i64 L] w fun e w' => e = .returned (.int .i64 (scan s.has (L + 1) (256 - (L + 1)))) ∧ But No w w') := fun w => CN.out w L
      have HN : Hid (n + 1 = cnt s.has (L + 1)) := by show _ = _; rw [cnt_hit h2 h5 h4, hnc.out]
      have hn1 : n + 1 ≤ 256 := by rw [HN.out]; exact Nat.le_trans (cnt_le _ _) (by omega)
      have b1 : decide ((L : Int) ≤ (m : Int) - 1) = false := by simp; omega
      have b2 : decide (255 < (L : Int)) = false := by simp; omega
      have b3 : decide (256 < (n : Int)) = false := by simp; omega
      clear h1 h3 h4 h5
      go_wp2_with (first | (go_at_call 13; (with_reducible refine (CHL.out _).mono ?_); rintro e w3 ⟨rfl, hb3⟩; have HB3 := Lib.hid (hb.out.trans hb3); have HQ3 := Lib.hid (hq.out.but hb3 (fun f => f)); clear hb3))
      go_loopw [8] (fun t8 wr => ∃ k : Nat, t8 = .int .i64 k ∧ m ≤ k ∧ k ≤ L ∧ Hid (Blk wr w1.heap.size (cells4 s) 26) ∧ Hid (But No w wr)) (fun t8 _ => 257 - (intOf t8).toNat)
      case atStart => exact ⟨m, rfl, by omega, by omega, HQ3, HB3⟩
      case round =>
        obtain ⟨k, rfl, hk1, hk2, hqk, hbk⟩ := hrel
        have d0 := hqk.out.cell (o := 0) rfl
        have d1 := hqk.out.cell (o := 1) rfl
        have d2 := hqk.out.cell (o := 2) rfl
        have d3 := hqk.out.cell (o := 3) rfl
        by_cases hlt : k < L
        · have CK : Hid (∀ w, Calls Try.prog 13 #[sv s, .int .i64 k] w fun e w' => e = .returned (.bool false) ∧ But No w w') := fun w => CHk.out w k hk1 hlt
          go_wp2_with (first | (go_at_call 13; (with_reducible refine (CK.out _).mono ?_); rintro e w4 ⟨rfl, hb4⟩; have HB4 := Lib.hid (hbk.out.trans hb4); have HQ4 := Lib.hid (hqk.out.but hb4 (fun f => f)); clear hb4))
          go_roundw
          case rel => exact ⟨k + 1, by go_num, by omega, by omega, HQ4, HB4⟩
          case measure => simp [intOf]; omega
        · obtain rfl : k = L := by omega
          go_wp2_with (first | (go_at_call 16; (with_reducible refine (CN2.out _).mono ?_); rintro e w5 ⟨rfl, hb5⟩; have HB5 := Lib.hid (hbk.out.trans hb5); have HQ5 := Lib.hid (hqk.out.but hb5 (fun f => f)); clear hb5))
          go_roundw
          case rel => exact ⟨k + 1, n + 1, by omega, by omega, congrArg _ (by omega), by go_num, by rw [show 256 - (k + 1) = 255 - k by omega], HN, HQ5, HB5⟩
          case measure => simp [intOf]; omega
end Go.Proofs.Ytgocjgipigjhbaa.bitsWalk
