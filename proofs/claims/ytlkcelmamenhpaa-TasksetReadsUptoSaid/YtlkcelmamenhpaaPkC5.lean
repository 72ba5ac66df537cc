/- The contract of decode. -/
import Derived.Test.YtlkcelmamenhpaaPkC4
namespace Go.Proofs.Ytlkcelmamenhpaa
open Go.ChangeShapes Go.WideShapes Go.ChangeAt Go.RowKit Go.Deep
/-- A number's whole encoding: the error, the number. -/
def dec (l : List Nat) : Nat × Nat :=
  if 1 < l.length ∧ l.getD (l.length - 1) 0 = 0 then (8, 0)
  else if 9 < l.length then (7, 0)
  else if 4611686018427387904 < val7 l then (7, 0)
  else (0, val7 l)
theorem val7_snoc (l : List Nat) (b : Nat) : val7 (l ++ [b]) = val7 l + (b % 128) * 2 ^ (7 * l.length) := by
  induction l with
  | nil => simp [val7]
  | cons a t ih =>
    rw [List.cons_append, val7, val7, ih, List.length_cons, show 7 * (t.length + 1) = 7 + 7 * t.length by omega, Nat.pow_add, Nat.mul_add]
    rw [show b % 128 * (2 ^ 7 * 2 ^ (7 * t.length)) = 128 * (b % 128 * 2 ^ (7 * t.length)) by rw [show (2 : Nat) ^ 7 = 128 by rfl, ← Nat.mul_assoc, Nat.mul_comm _ 128, Nat.mul_assoc]]
    omega
theorem val7_lt (l : List Nat) : val7 l < 2 ^ (7 * l.length) := by
  induction l with
  | nil => simp [val7]
  | cons a t ih =>
    rw [val7, List.length_cons, show 7 * (t.length + 1) = 7 + 7 * t.length by omega, Nat.pow_add, show (2 : Nat) ^ 7 = 128 by rfl]
    omega
theorem val7_or {l : List Nat} {b k : Nat} (hk : l.length = k) : val7 l ||| ((b % 128) * 2 ^ (7 * k)) = val7 (l ++ [b]) := by
  rw [val7_snoc, hk]
  have h := val7_lt l
  rw [hk] at h
  have := Nat.two_pow_add_eq_or_of_lt h (b % 128)
  rw [Nat.or_comm, Nat.mul_comm (b % 128), ← this, Nat.add_comm]
theorem dec_or {v x k : Nat} (hv : v < 2 ^ (7 * k)) (hk : k ≤ 8) : bits BinOp.or IntKind.u64 (v : Int) (IntKind.u64.wrap ((x : Int) % 128 * 2 ^ (7 * k))) = ((v ||| x % 128 * 2 ^ (7 * k) : Nat) : Int) := by
  have h1 : x % 128 * 2 ^ (7 * k) < 2 ^ 63 := by
    have a : x % 128 < 2 ^ 7 := Nat.mod_lt _ (by omega)
    have b : x % 128 * 2 ^ (7 * k) < 2 ^ 7 * 2 ^ (7 * k) := Nat.mul_lt_mul_of_pos_right a (Nat.two_pow_pos _)
    rw [← Nat.pow_add] at b
    exact Nat.lt_of_lt_of_le b (Nat.pow_le_pow_right (by omega) (by omega))
  have h2 : v < 2 ^ 63 := Nat.lt_of_lt_of_le hv (Nat.pow_le_pow_right (by omega) (by omega))
  have e : (x : Int) % 128 * 2 ^ (7 * k) = ((x % 128 * 2 ^ (7 * k) : Nat) : Int) := by simp
  rw [e]
  generalize x % 128 * 2 ^ (7 * k) = y at *
  have hw : IntKind.u64.wrap (y : Int) = (y : Int) := by rw [IntKind.wrap_u64]; omega
  rw [hw]
  exact u64_or_nat v y (by omega) (by omega)
theorem rete {a b c d : Int} (h : a = c) (k : b = d) : Ending.returned (.tuple #[.int .i64 a, .int .i64 b]) = .returned (.tuple #[.int .i64 c, .int .i64 d]) := by rw [h, k]
set_option maxRecDepth 100000 in
set_option maxHeartbeats 1000000 in
theorem decode_any (s : ByteArray) (w : World) (hs : s.size ≤ 9223372036854775807) (h1 : 0 < s.size) :
    Calls Try.prog 41 #[.string s] w fun e w' => e = .returned (.tuple #[.int .i64 ((dec (nl s)).2 : Nat), .int .i64 ((dec (nl s)).1 : Nat)]) ∧ w = w' := by
  have HN := Lib.hid (nl_len s)
  by_cases ha : 1 < s.size ∧ s[s.size - 1].toNat = 0
  · have HE : Hid (dec (nl s) = (8, 0)) := by
      show _ = _
      unfold dec
      rw [HN.out, nl_at s (s.size - 1) (by omega), if_pos ha]
    obtain ⟨ha1, ha2⟩ := ha
    go_enter Try.func41, Try.ntmps41
    go_wp2
    go_ret2
    exact ⟨rete (by rw [HE.out]; rfl) (by rw [HE.out]; rfl), rfl⟩
  · by_cases hb : 9 < s.size
    · have HE : Hid (dec (nl s) = (7, 0)) := by
        show _ = _
        unfold dec
        rw [HN.out, nl_at s (s.size - 1) (by omega), if_neg ha, if_pos hb]
      have ha2 : ¬ s[s.size - 1].toNat = 0 := fun h => ha ⟨by omega, h⟩
      clear ha
      go_enter Try.func41, Try.ntmps41
      go_wp2
      go_ret2
      exact ⟨rete (by rw [HE.out]; rfl) (by rw [HE.out]; rfl), rfl⟩
    · have HD : Hid (dec (nl s) = if 4611686018427387904 < val7 (nl s) then (7, 0) else (0, val7 (nl s))) := by
        show _ = _
        unfold dec
        rw [HN.out, nl_at s (s.size - 1) (by omega), if_neg ha, if_neg hb]
      have ha2 : 1 < s.size → ((s[s.size - 1].toNat : Int) == 0) = false := fun h => by
        rw [beq_eq_false_iff_ne]; intro e; exact ha ⟨h, by omega⟩
      clear ha
      have hc : (1 < s.size ∧ decide ((1 : Int) < (s.size : Int)) = true ∧ ((s[s.size - 1].toNat : Int) == 0) = false) ∨ (decide ((1 : Int) < (s.size : Int)) = false) := by
        by_cases h : 1 < s.size
        · exact .inl ⟨h, by simp; omega, ha2 h⟩
        · exact .inr (by simp; omega)
      clear ha2
      rcases hc with ⟨hc1, hc2, hc3⟩ | hc2
      all_goals
        go_enter Try.func41, Try.ntmps41
        go_wp2
        go_loop [4, 22] (fun v i => ∃ k : Nat, k ≤ s.size ∧ i = .int .i64 (k : Int) ∧ v = .int .u64 (val7 ((nl s).take k) : Nat)) (fun _ i => s.size - (intOf i).toNat)
        case atStart => exact ⟨0, Nat.zero_le _, rfl, rfl⟩
        case round =>
          obtain ⟨k, hk, rfl, rfl⟩ := hrel
          by_cases hlt : k < s.size
          · have hb2 : s[k].toNat < 256 := UInt8.toNat_lt _
            have HV : Hid (val7 ((nl s).take k) ||| ((s[k].toNat % 128) * 2 ^ (7 * k)) = val7 ((nl s).take (k + 1))) := by
              show _ = _
              rw [nl_take_snoc s k hlt]
              exact val7_or (by rw [List.length_take, HN.out]; omega)
            have hvl : val7 ((nl s).take k) < 2 ^ (7 * k) := by
              have := val7_lt ((nl s).take k)
              rw [List.length_take, HN.out, Nat.min_eq_left hk] at this
              exact this
            generalize val7 ((nl s).take k) = v at *
            have HX : Hid (bits BinOp.or IntKind.u64 (v : Int) (IntKind.u64.wrap ((s[k].toNat : Int) % 128 * 2 ^ (7 * k))) = ((v ||| s[k].toNat % 128 * 2 ^ (7 * k) : Nat) : Int)) := dec_or hvl (by omega)
            clear hvl
            go_wp2
            go_round
            case rel => exact ⟨k + 1, by omega, by go_num, by rw [HX.out, HV.out]⟩
            case measure => simp [intOf]; omega
          · obtain rfl : k = s.size := by omega
            have HT : Hid ((nl s).take s.size = nl s) := List.take_of_length_le (by rw [HN.out]; exact Nat.le_refl _)
            rw [HT.out]
            have hvl : val7 (nl s) < 9223372036854775808 := by
              have h := val7_lt (nl s)
              rw [HN.out] at h
              exact Nat.lt_of_lt_of_le h (show 2 ^ (7 * s.size) ≤ 2 ^ 63 from Nat.pow_le_pow_right (by omega) (by omega))
            by_cases hg : 4611686018427387904 < val7 (nl s)
            · have HE : Hid (dec (nl s) = (7, 0)) := by show _ = _; rw [HD.out, if_pos hg]
              generalize val7 (nl s) = V at *
              go_wp2
              go_ret2
              exact ⟨rete (by rw [HE.out]; rfl) (by rw [HE.out]; rfl), rfl⟩
            · have HE : Hid (dec (nl s) = (0, val7 (nl s))) := by show _ = _; rw [HD.out, if_neg hg]
              generalize val7 (nl s) = V at *
              go_wp2
              go_ret2
              exact ⟨rete (by rw [HE.out]) (by rw [HE.out]; rfl), rfl⟩
end Go.Proofs.Ytlkcelmamenhpaa
