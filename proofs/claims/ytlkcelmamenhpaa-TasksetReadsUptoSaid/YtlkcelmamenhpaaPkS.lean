/- Strings as lists of numbers below 256; the checksum's step with a whole byte laid on. -/
import Derived.Test.YtlkcelmamenhpaaV0
import Derived.Test.YtlkcelmamenhpaaPkCrc
import Derived.Test.YtlkcelmamenhpaaPkVar
import Derived.Laws.IdiomStrings
import Derived.Laws.BytesArg
namespace Go.Proofs.Ytlkcelmamenhpaa
open Go.ChangeShapes Go.WideShapes Go.ChangeAt Go.RowKit Go.Deep
def nl (s : ByteArray) : List Nat := s.data.toList.map UInt8.toNat
theorem nl_len (s : ByteArray) : (nl s).length = s.size := by unfold nl; rw [List.length_map, Array.length_toList]; rfl
theorem nl_inj {s t : ByteArray} (h : nl s = nl t) : s = t := by
  unfold nl at h
  have h2 : s.data.toList = t.data.toList := by
    apply List.ext_getElem
    · simpa using congrArg List.length h
    · intro j h1 h2
      have h3 : (s.data.toList.map UInt8.toNat)[j]? = (t.data.toList.map UInt8.toNat)[j]? := by rw [h]
      rw [List.getElem?_map, List.getElem?_map, List.getElem?_eq_getElem h1, List.getElem?_eq_getElem h2] at h3
      simp at h3
      have := UInt8.toNat_inj.1 h3
      simpa using this
  apply ByteArray.ext
  exact Array.ext' h2
theorem nl_lt (s : ByteArray) : ∀ b ∈ nl s, b < 256 := by
  intro b hb
  unfold nl at hb
  obtain ⟨c, _, rfl⟩ := List.mem_map.1 hb
  exact UInt8.toNat_lt c
theorem nl_at (s : ByteArray) (k : Nat) (h : k < s.size) : (nl s).getD k 0 = s[k].toNat := by
  have h1 : k < s.data.toList.length := by rw [Array.length_toList]; exact h
  unfold nl
  rw [List.getD, List.getElem?_map, List.getElem?_eq_getElem h1]
  rfl
theorem nl_extract (s : ByteArray) (a b : Nat) : nl (s.extract a b) = ((nl s).drop a).take (b - a) := by
  unfold nl
  rw [ByteArray.data_extract]
  simp [List.map_take, List.map_drop]
theorem nl_append (s t : ByteArray) : nl (s ++ t) = nl s ++ nl t := by
  unfold nl
  rw [ByteArray.data_append]
  simp
theorem nl_mk (l : List UInt8) : nl ⟨l.toArray⟩ = l.map UInt8.toNat := rfl
theorem eqB (s t : ByteArray) : (s.toList == t.toList) = decide (nl s = nl t) := by
  rw [ByteArray.toList_eq, ByteArray.toList_eq]
  by_cases h : nl s = nl t
  · have := nl_inj h
    subst this
    simp
  · rw [decide_eq_false h]
    rw [beq_eq_false_iff_ne]
    intro e
    exact h (by unfold nl; rw [e])
theorem nl_take_snoc (s : ByteArray) (k : Nat) (h : k < s.size) : (nl s).take (k + 1) = (nl s).take k ++ [s[k].toNat] := by
  rw [List.take_succ_eq_append_getElem (by rw [nl_len]; exact h)]
  have := nl_at s k h
  rw [List.getD, List.getElem?_eq_getElem (by rw [nl_len]; exact h)] at this
  have e : (nl s)[k]'(by rw [nl_len]; exact h) = s[k].toNat := this
  rw [e]
/-- One step of the whole-byte way, with a byte laid on. -/
theorem crcBit_on {v c : Nat} (hv : v < 65536) (hc : c < 65536) : crcBit (v ^^^ c) 0 = crcBit v (c / 32768) ^^^ (2 * c % 65536) := by
  have e1 : 2 * (v ^^^ c) % 65536 = (2 * v % 65536) ^^^ (2 * c % 65536) := by
    have a := Nat.shiftLeft_xor_distrib (a := v) (b := c) (i := 1)
    rw [Nat.shiftLeft_eq, Nat.shiftLeft_eq, Nat.shiftLeft_eq] at a
    have b := Nat.xor_mod_two_pow (a := v * 2 ^ 1) (b := c * 2 ^ 1) (n := 16)
    rw [← a] at b
    rw [show 2 * (v ^^^ c) = (v ^^^ c) * 2 ^ 1 by omega, show 2 * v = v * 2 ^ 1 by omega, show 2 * c = c * 2 ^ 1 by omega, show 65536 = 2 ^ 16 by rfl]
    exact b
  have e2 : (v ^^^ c) / 32768 = (v / 32768) ^^^ (c / 32768) := by
    have := Nat.xor_div_two_pow (a := v) (b := c) (n := 15)
    exact this
  have h1 : v / 32768 = 0 ∨ v / 32768 = 1 := by omega
  have h2 : c / 32768 = 0 ∨ c / 32768 = 1 := by omega
  unfold crcBit
  rw [e1, e2]
  generalize 2 * v % 65536 = a
  generalize 2 * c % 65536 = b
  have sw : a ^^^ b ^^^ 4129 = a ^^^ 4129 ^^^ b := by rw [Nat.xor_assoc, Nat.xor_comm b, Nat.xor_assoc]
  rcases h1 with h1 | h1 <;> rcases h2 with h2 | h2 <;> simp [h1, h2, sw]
def shN : Nat → Nat → Nat
  | 0, v => v
  | k + 1, v => crcBit (shN k v) 0
theorem shN_lt (k : Nat) {v : Nat} (h : v < 65536) : shN k v < 65536 := by
  cases k with
  | zero => exact h
  | succ k => exact crcBit_lt _
theorem shN_eight {v x : Nat} (hv : v < 65536) (hx : x < 256) : shN 8 (v ^^^ (x * 256)) = crcByte v x := by
  have st : ∀ u c b d, u < 65536 → c < 65536 → c / 32768 = b → 2 * c % 65536 = d → crcBit (u ^^^ c) 0 = crcBit u b ^^^ d := by
    intro u c b d h1 h2 h3 h4
    rw [crcBit_on h1 h2, h3, h4]
  have L : ∀ u b, crcBit u b < 65536 := fun u b => crcBit_lt b
  unfold crcByte
  simp only [shN, crcBits]
  rw [st v (x * 256) (bitAt x 7) (x * 512 % 65536) hv (by omega) (by unfold bitAt; omega) (by omega)]
  rw [st _ _ (bitAt x 6) (x * 1024 % 65536) (L _ _) (by omega) (by unfold bitAt; omega) (by omega)]
  rw [st _ _ (bitAt x 5) (x * 2048 % 65536) (L _ _) (by omega) (by unfold bitAt; omega) (by omega)]
  rw [st _ _ (bitAt x 4) (x * 4096 % 65536) (L _ _) (by omega) (by unfold bitAt; omega) (by omega)]
  rw [st _ _ (bitAt x 3) (x * 8192 % 65536) (L _ _) (by omega) (by unfold bitAt; omega) (by omega)]
  rw [st _ _ (bitAt x 2) (x * 16384 % 65536) (L _ _) (by omega) (by unfold bitAt; omega) (by omega)]
  rw [st _ _ (bitAt x 1) (x * 32768 % 65536) (L _ _) (by omega) (by unfold bitAt; omega) (by omega)]
  rw [st _ _ (bitAt x 0) 0 (L _ _) (by omega) (by unfold bitAt; omega) (by omega)]
  rw [Nat.xor_zero]
theorem crc_snoc (v : Nat) (l : List Nat) (x : Nat) : crc v (l ++ [x]) = crcByte (crc v l) x := by rw [crc_append]; rfl
end Go.Proofs.Ytlkcelmamenhpaa
