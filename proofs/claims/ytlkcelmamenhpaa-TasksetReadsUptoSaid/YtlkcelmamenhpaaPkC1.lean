/- The contracts of shifted and Sum. -/
import Derived.Test.YtlkcelmamenhpaaPkS
namespace Go.Proofs.Ytlkcelmamenhpaa
open Go.ChangeShapes Go.WideShapes Go.ChangeAt Go.RowKit Go.Deep
theorem retn {k : IntKind} {a b : Int} (h : a = b) : Ending.returned (.int k a) = .returned (.int k b) := by rw [h]
theorem top_bit (v : Nat) (hv : v < 65536) : bits .and .u16 (v : Int) 32768 = ((32768 * (v / 32768) : Nat) : Int) := by
  have ha := u16_and_nat v 32768 hv (by omega)
  have hb : v &&& 32768 = 32768 * (v / 32768) := by
    apply Nat.eq_of_testBit_eq
    intro j
    have e1 : v &&& 2 ^ 15 = v &&& 32768 := rfl
    rw [← e1, Nat.testBit_and, Nat.testBit_two_pow]
    have e2 : 32768 * (v / 32768) = (v / 2 ^ 15) <<< 15 := by rw [Nat.shiftLeft_eq]; omega
    rw [e2, Nat.testBit_shiftLeft, Nat.testBit_div_two_pow]
    by_cases hj : 15 = j
    · subst hj; simp
    · by_cases hg : 15 ≤ j
      · have : v.testBit j = false := Nat.testBit_lt_two_pow (Nat.lt_of_lt_of_le hv (show 2 ^ 16 ≤ 2 ^ j from Nat.pow_le_pow_right (by omega) (by omega)))
        rw [show j - 15 + 15 = j by omega, this]; simp
      · simp [hj, hg]
  rw [hb] at ha
  exact ha
theorem shifted_any (v : Nat) (w : World) (hv : v < 65536) : Calls Try.prog 39 #[.int .u16 (v : Int)] w fun e w' => e = .returned (.int .u16 (crcBit v 0 : Nat)) ∧ w = w' := by
  have ha := top_bit v hv
  by_cases h : v / 32768 = 0
  · have hf : (bits BinOp.and IntKind.u16 (v : Int) 32768 != 0) = false := by rw [ha, h]; rfl
    have HE : Hid ((v : Int) * 2 = ((crcBit v 0 : Nat) : Int)) := by
      show _ = _
      unfold crcBit
      rw [h, if_pos rfl]; omega
    clear ha
    go_enter Try.func39, Try.ntmps39
    go_wp2
    go_ret
    exact ⟨retn HE.out, rfl⟩
  · have hf : (bits BinOp.and IntKind.u16 (v : Int) 32768 != 0) = true := by rw [ha, bne_iff_ne]; omega
    have HE : Hid (bits BinOp.xor IntKind.u16 (IntKind.u16.wrap ((v : Int) * 2)) 4129 = ((crcBit v 0 : Nat) : Int)) := by
      show _ = _
      unfold crcBit
      rw [if_neg (by omega)]
      have := u16_xor_nat (2 * v % 65536) 4129 (by omega) (by omega)
      rw [IntKind.wrap_u16, show ((v : Int) * 2 % 65536) = ((2 * v % 65536 : Nat) : Int) by omega]
      exact this
    clear ha
    go_enter Try.func39, Try.ntmps39
    go_wp2
    go_ret
    exact ⟨retn HE.out, rfl⟩
set_option maxHeartbeats 400000 in
theorem sum_any (s : ByteArray) (w : World) (hs : s.size ≤ 9223372036854775807) : Calls Try.prog 31 #[.string s] w fun e w' => e = .returned (.int .u16 (crc 65535 (nl s) : Nat)) ∧ w = w' := by
  go_enter Try.func31, Try.ntmps31
  go_wp2
  go_loop [3, 7] (fun v i => ∃ k : Nat, k ≤ s.size ∧ i = .int .i64 k ∧ v = .int .u16 (crc 65535 ((nl s).take k) : Nat)) (fun _ i => s.size - (intOf i).toNat)
  case atStart => exact ⟨0, Nat.zero_le _, rfl, rfl⟩
  case round =>
    obtain ⟨k, hk, rfl, rfl⟩ := hrel
    by_cases hlt : k < s.size
    · have hb : s[k].toNat < 256 := UInt8.toNat_lt _
      have hv : crc 65535 ((nl s).take k) < 65536 := crc_lt _ (by omega)
      have HN : Hid (shN 8 (crc 65535 ((nl s).take k) ^^^ (s[k].toNat * 256)) = crc 65535 ((nl s).take (k + 1))) := by
        show _ = _
        rw [shN_eight hv hb, nl_take_snoc s k hlt, crc_snoc]
      have HX : Hid (bits BinOp.xor IntKind.u16 ((crc 65535 ((nl s).take k) : Nat) : Int) ((s[k].toNat : Int) * 256) = ((crc 65535 ((nl s).take k) ^^^ (s[k].toNat * 256) : Nat) : Int)) := by
        show _ = _
        have := u16_xor_nat (crc 65535 ((nl s).take k)) (s[k].toNat * 256) hv (by omega)
        rw [← this]; simp
      have hy : crc 65535 ((nl s).take k) ^^^ (s[k].toNat * 256) < 65536 := Nat.xor_lt_two_pow (n := 16) hv (by omega)
      generalize crc 65535 ((nl s).take k) ^^^ (s[k].toNat * 256) = y at *
      generalize crc 65535 ((nl s).take k) = v at *
      go_wp2
      go_loop [3, 17] (fun v i => ∃ j : Nat, j ≤ 8 ∧ i = .int .i64 j ∧ v = .int .u16 (shN j y : Nat)) (fun _ i => 8 - (intOf i).toNat)
      case atStart => exact ⟨0, by omega, rfl, by rw [HX.out]; rfl⟩
      case round =>
        obtain ⟨j, hj, rfl, rfl⟩ := hrel
        by_cases hjl : j < 8
        · have hsh := shN_lt j hy
          have HS : Hid (shN (j + 1) y = crcBit (shN j y) 0) := rfl
          generalize shN j y = z at *
          go_wp2_with (go_at_call 39; refine (shifted_any _ _ hsh).mono ?_; rintro e w' ⟨rfl, rfl⟩)
          go_round
          case rel => exact ⟨j + 1, by omega, by go_num, by rw [HS.out]⟩
          case measure => simp [intOf]; omega
        · obtain rfl : j = 8 := by omega
          go_wp2
          go_round
          case rel => exact ⟨k + 1, by omega, by go_num, by rw [← HN.out]⟩
          case measure => simp [intOf]; omega
    · obtain rfl : k = s.size := by omega
      have HE : Hid ((nl s).take s.size = nl s) := List.take_of_length_le (by rw [nl_len]; exact Nat.le_refl _)
      go_wp2
      go_ret
      exact ⟨retn (by rw [HE.out]), rfl⟩
end Go.Proofs.Ytlkcelmamenhpaa
