/- The contract of the document's Sum. -/
import Derived.Test.YtlkcelmamenhpaaPkC1
namespace Go.Proofs.Ytlkcelmamenhpaa
open Go.ChangeShapes Go.WideShapes Go.ChangeAt Go.RowKit Go.Deep
theorem i64_xor_nat (a b : Nat) (ha : a < 9223372036854775808) (hb : b < 9223372036854775808) : bits .xor .i64 (a : Int) (b : Int) = ((a ^^^ b : Nat) : Int) := by
  have hx : a ^^^ b < 2 ^ 63 := Nat.xor_lt_two_pow (by omega) (by omega)
  have oi : ∀ a : Nat, a < 9223372036854775808 → (BitVec.ofInt 64 (a : Int)).toNat = a := fun a ha => by
    rw [BitVec.ofInt_natCast, BitVec.toNat_ofNat]; exact Nat.mod_eq_of_lt (by omega)
  show IntKind.i64.wrap ((BitVec.ofInt 64 (a : Int) ^^^ BitVec.ofInt 64 (b : Int)).toNat : Int) = _
  rw [BitVec.toNat_xor, oi a ha, oi b hb, IntKind.wrap_i64]
  omega
set_option maxHeartbeats 400000 in
theorem rsum_any (s : ByteArray) (w : World) (hs : s.size ≤ 9223372036854775807) : Calls Try.prog 35 #[.string s] w fun e w' => e = .returned (.int .i64 (crc 65535 (nl s) : Nat)) ∧ w = w' := by
  go_enter Try.func35, Try.ntmps35
  go_wp2
  go_loop [3, 4] (fun v i => ∃ k : Nat, k ≤ s.size ∧ i = .int .i64 k ∧ v = .int .i64 (crc 65535 ((nl s).take k) : Nat)) (fun _ i => s.size - (intOf i).toNat)
  case atStart => exact ⟨0, Nat.zero_le _, rfl, rfl⟩
  case round =>
    obtain ⟨k, hk, rfl, rfl⟩ := hrel
    by_cases hlt : k < s.size
    · have hb : s[k].toNat < 256 := UInt8.toNat_lt _
      have hv : crc 65535 ((nl s).take k) < 65536 := crc_lt _ (by omega)
      have HN : Hid (crcBits s[k].toNat 8 (crc 65535 ((nl s).take k)) = crc 65535 ((nl s).take (k + 1))) := by
        show _ = _
        rw [nl_take_snoc s k hlt, crc_snoc]; rfl
      generalize crc 65535 ((nl s).take k) = v at *
      go_wp2
      go_loop [3, 5] (fun v' i => ∃ (j : Nat) (z : Int) (u : Nat), j ≤ 8 ∧ z + 1 = j ∧ i = .int .i64 z ∧ v' = .int .i64 u ∧ u < 65536 ∧ Hid (crcBits s[k].toNat j u = crcBits s[k].toNat 8 v)) (fun _ i => (intOf i + 1).toNat)
      case atStart => exact ⟨8, 7, v, by omega, by omega, rfl, rfl, hv, rfl⟩
      case round =>
        obtain ⟨j, z, u, hj, hz, rfl, rfl, hu, hC⟩ := hrel
        cases j with
        | zero =>
          obtain rfl : z = -1 := by omega
          have HU : Hid (u = crc 65535 ((nl s).take (k + 1))) := by
            show _ = _
            rw [← HN.out, ← hC.out]; rfl
          clear hC
          go_wp2
          go_round
          case rel => exact ⟨k + 1, by omega, by go_num, by rw [HU.out]⟩
          case measure => simp [intOf]; omega
        | succ m =>
          obtain rfl : z = m := by omega
          have hB : ((s[k].toNat : Int) / 2 ^ m).tmod 2 = ((bitAt s[k].toNat m : Nat) : Int) := by
            unfold bitAt
            have e : ((s[k].toNat : Int) / 2 ^ m) = ((s[k].toNat / 2 ^ m : Nat) : Int) := by simp
            rw [e, Int.tmod_eq_emod_of_nonneg (Int.natCast_nonneg _)]
            omega
          clear hz
          by_cases hq : bitAt s[k].toNat m = u / 32768
          · have hf : (((s[k].toNat : Int) / 2 ^ m).tmod 2 != (u : Int) / 32768) = false := by rw [hB, hq]; simp
            have HC : Hid (crcBits s[k].toNat m (2 * u % 65536) = crcBits s[k].toNat 8 v) := by
              show _ = _
              rw [← hC.out]; simp only [crcBits, crcBit]; rw [if_pos hq]
            clear hC hB hq
            go_wp2
            go_round
            case rel => exact ⟨m, (m : Int) - 1, 2 * u % 65536, by omega, by omega, by go_num, by go_num, by omega, HC⟩
            case measure => simp [intOf]
          · have hf : (((s[k].toNat : Int) / 2 ^ m).tmod 2 != (u : Int) / 32768) = true := by rw [hB, bne_iff_ne]; omega
            have HX : Hid (bits BinOp.xor IntKind.i64 (2 * (u : Int) % 65536) 4129 = (((2 * u % 65536) ^^^ 4129 : Nat) : Int)) := by
              show _ = _
              have := i64_xor_nat (2 * u % 65536) 4129 (by omega) (by omega)
              rw [← this]; simp
            have HC : Hid (crcBits s[k].toNat m ((2 * u % 65536) ^^^ 4129) = crcBits s[k].toNat 8 v) := by
              show _ = _
              rw [← hC.out]; simp only [crcBits, crcBit]; rw [if_neg hq]
            have hl : (2 * u % 65536) ^^^ 4129 < 65536 := Nat.xor_lt_two_pow (n := 16) (by omega) (by omega)
            clear hC hB hq
            go_wp2
            go_round
            case rel => exact ⟨m, (m : Int) - 1, (2 * u % 65536) ^^^ 4129, by omega, by omega, by go_num, by rw [HX.out], hl, HC⟩
            case measure => simp [intOf]
    · obtain rfl : k = s.size := by omega
      have HE : Hid ((nl s).take s.size = nl s) := List.take_of_length_le (by rw [nl_len]; exact Nat.le_refl _)
      go_wp2
      go_ret
      exact ⟨retn (by rw [HE.out]), rfl⟩
end Go.Proofs.Ytlkcelmamenhpaa
