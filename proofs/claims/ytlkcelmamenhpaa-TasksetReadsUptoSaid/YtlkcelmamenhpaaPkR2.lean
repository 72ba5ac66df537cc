/- The contract of the document's reading of one number. -/
import Derived.Test.YtlkcelmamenhpaaPkC7
namespace Go.Proofs.Ytlkcelmamenhpaa
open Go.ChangeShapes Go.WideShapes Go.ChangeAt Go.RowKit Go.Deep
theorem ret3 {a b c d e f : Int} (h : a = d) (h2 : b = e) (k : c = f) : Ending.returned (.tuple #[.int .i64 a, .int .i64 b, .int .i64 c]) = .returned (.tuple #[.int .i64 d, .int .i64 e, .int .i64 f]) := by rw [h, k, h2]
theorem val7_drop {l : List Nat} {m z : Nat} (hm : m < z) (hz : z ≤ l.length) : 128 * val7 ((l.take z).drop (m + 1)) + l.getD m 0 % 128 = val7 ((l.take z).drop m) := by
  have h : m < (l.take z).length := by rw [List.length_take]; omega
  rw [List.drop_eq_getElem_cons h, val7]
  have : (l.take z)[m] = l.getD m 0 := by simp [List.getD, List.getElem?_eq_getElem (show m < l.length by omega)]
  rw [this]; omega
theorem val7_dlt {l : List Nat} {m z : Nat} (hz : z ≤ 9) (h0 : 0 < m) : val7 ((l.take z).drop m) < 72057594037927936 := by
  have h := val7_lt ((l.take z).drop m)
  have hl : ((l.take z).drop m).length ≤ 8 := by rw [List.length_drop, List.length_take]; omega
  exact Nat.lt_of_lt_of_le h (show _ ≤ 2 ^ 56 from Nat.pow_le_pow_right (by omega) (by omega))
set_option maxRecDepth 100000 in
set_option maxHeartbeats 1000000 in
theorem rone_any (s : ByteArray) (w : World) (hs : s.size ≤ 9223372036854775807) :
    Calls Try.prog 36 #[.string s] w fun e w' => e = .returned (.tuple #[.int .i64 ((one1 (nl s)).2.1 : Nat), .int .i64 ((one1 (nl s)).2.2 : Nat), .int .i64 ((one1 (nl s)).1 : Nat)]) ∧ w = w' := by
  have HN := Lib.hid (nl_len s)
  go_enter Try.func36, Try.ntmps36
  go_wp2
  go_loop [5] (fun i => ∃ q : Nat, q ≤ s.size ∧ i = .int .i64 (q : Int) ∧ Hid (∀ j, j < q → 128 ≤ (nl s).getD j 0)) (fun i => s.size - (intOf i).toNat)
  case atStart => exact ⟨0, Nat.zero_le _, rfl, fun j hj => absurd hj (by omega)⟩
  case round =>
    obtain ⟨q, hq, rfl, HG⟩ := hrel
    by_cases hlt : q < s.size
    · have ht1 : decide ((q : Int) < (s.size : Int)) = true := by simp; omega
      have ht2 : ((q : Int) == (s.size : Int)) = false := by rw [beq_eq_false_iff_ne]; omega
      by_cases hg : 128 ≤ s[q].toNat
      · have ht3 : decide ((128 : Int) ≤ (s[q].toNat : Int)) = true := by simp; omega
        have HG2 : Hid (∀ j, j < q + 1 → 128 ≤ (nl s).getD j 0) := by
          intro j h2
          by_cases e : j = q
          · subst e; rw [nl_at s j hlt]; exact hg
          · exact HG.out j (by omega)
        go_wp2
        go_round
        case rel => exact ⟨q + 1, by omega, by go_num, HG2⟩
        case measure => simp [intOf]; omega
      · have ht3 : decide ((128 : Int) ≤ (s[q].toNat : Int)) = false := by simp; omega
        have HLD : Hid (lead (nl s) = q) := lead_at (by rw [HN.out]; omega) HG.out (fun _ => by rw [nl_at s q hlt]; omega)
        have HO : Hid (one1 (nl s) = if 0 < q ∧ s[q].toNat = 0 then (8, 0, 0) else if 9 < q + 1 then (7, 0, 0) else if 4611686018427387904 < val7 ((nl s).take (q + 1)) then (7, 0, 0) else (0, val7 ((nl s).take (q + 1)), q + 1)) := by
          show _ = _
          unfold one1
          rw [HLD.out, HN.out, if_neg (by omega), nl_at s q hlt]
        clear HLD HG
        by_cases ha : 0 < q ∧ s[q].toNat = 0
        · have HE : Hid (one1 (nl s) = (8, 0, 0)) := by show _ = _; rw [HO.out, if_pos ha]
          obtain ⟨ha1, ha2⟩ := ha
          have ht4 : ((s[q].toNat : Int) == 0) = true := by rw [beq_iff_eq]; omega
          clear ha2
          go_wp2
          go_ret3
          exact ⟨ret3 (by rw [HE.out]; rfl) (by rw [HE.out]; rfl) (by rw [HE.out]; rfl), rfl⟩
        · by_cases hb : 9 < q + 1
          · have HE : Hid (one1 (nl s) = (7, 0, 0)) := by show _ = _; rw [HO.out, if_neg ha, if_pos hb]
            have ht4 : ((s[q].toNat : Int) == 0) = false := by rw [beq_eq_false_iff_ne]; intro e; exact ha ⟨by omega, by omega⟩
            clear ha
            go_wp2
            go_ret3
            exact ⟨ret3 (by rw [HE.out]; rfl) (by rw [HE.out]; rfl) (by rw [HE.out]; rfl), rfl⟩
          · have HO2 : Hid (one1 (nl s) = if 4611686018427387904 < val7 ((nl s).take (q + 1)) then (7, 0, 0) else (0, val7 ((nl s).take (q + 1)), q + 1)) := by show _ = _; rw [HO.out, if_neg ha, if_neg hb]
            have hc : (decide ((1 : Int) < (q : Int) + 1) = true ∧ ((s[q].toNat : Int) == 0) = false) ∨ decide ((1 : Int) < (q : Int) + 1) = false := by
              by_cases h0 : 0 < q
              · exact .inl ⟨by simp; omega, by rw [beq_eq_false_iff_ne]; intro e; exact ha ⟨by omega, by omega⟩⟩
              · exact .inr (by simp; omega)
            clear HO ha
            rcases hc with ⟨hc1, hc2⟩ | hc1
            all_goals
              go_wp2
              go_loop [6, 7] (fun v i => ∃ (j : Nat) (z : Int), j ≤ q + 1 ∧ z + 1 = j ∧ i = .int .i64 z ∧ v = .int .i64 (val7 (((nl s).take (q + 1)).drop j) : Nat)) (fun _ i => (intOf i + 1).toNat)
              case atStart => exact ⟨q + 1, q, Nat.le_refl _, by omega, rfl, by rw [List.drop_eq_nil_of_le (by rw [List.length_take]; omega)]; rfl⟩
              case round =>
                obtain ⟨j, z, hj, hz, rfl, rfl⟩ := hrel
                cases j with
                | zero =>
                  obtain rfl : z = -1 := by omega
                  rw [List.drop_zero]
                  have hvl : val7 ((nl s).take (q + 1)) < 9223372036854775808 := by
                    have h := val7_lt ((nl s).take (q + 1))
                    have hl : ((nl s).take (q + 1)).length ≤ 9 := by rw [List.length_take]; omega
                    exact Nat.lt_of_lt_of_le h (show _ ≤ 2 ^ 63 from Nat.pow_le_pow_right (by omega) (by omega))
                  by_cases hv : 4611686018427387904 < val7 ((nl s).take (q + 1))
                  · have HE : Hid (one1 (nl s) = (7, 0, 0)) := by show _ = _; rw [HO2.out, if_pos hv]
                    generalize val7 ((nl s).take (q + 1)) = V at *
                    go_wp2
                    go_ret3
                    exact ⟨ret3 (by rw [HE.out]; rfl) (by rw [HE.out]; rfl) (by rw [HE.out]; rfl), rfl⟩
                  · have HE : Hid (one1 (nl s) = (0, val7 ((nl s).take (q + 1)), q + 1)) := by show _ = _; rw [HO2.out, if_neg hv]
                    generalize val7 ((nl s).take (q + 1)) = V at *
                    go_wp2
                    go_ret3
                    exact ⟨ret3 (by rw [HE.out]) (by rw [HE.out]; simp) (by rw [HE.out]; rfl), rfl⟩
                | succ m =>
                  obtain rfl : z = m := by omega
                  have hms : m < s.size := by omega
                  have hvl := val7_dlt (l := nl s) (m := m + 1) (z := q + 1) (by omega) (by omega)
                  have HV : Hid (128 * val7 (((nl s).take (q + 1)).drop (m + 1)) + s[m].toNat % 128 = val7 (((nl s).take (q + 1)).drop m)) := by
                    show _ = _
                    rw [← nl_at s m hms]
                    exact val7_drop (by omega) (by rw [HN.out]; omega)
                  have hb2 : s[m].toNat < 256 := UInt8.toNat_lt _
                  generalize val7 (((nl s).take (q + 1)).drop (m + 1)) = v at *
                  clear hz
                  go_wp2
                  go_round
                  case rel => exact ⟨m, (m : Int) - 1, by omega, by omega, by go_num, by rw [← HV.out]; go_num⟩
                  case measure => simp [intOf]
    · obtain rfl : q = s.size := by omega
      have HE : Hid (one1 (nl s) = (6, 0, 0)) := by
        show _ = _
        unfold one1
        rw [lead_at (l := nl s) (q := s.size) (by rw [HN.out]; exact Nat.le_refl _) HG.out (fun h => by rw [HN.out] at h; omega), HN.out, if_pos rfl]
      go_wp2
      go_ret3
      exact ⟨ret3 (by rw [HE.out]; rfl) (by rw [HE.out]; rfl) (by rw [HE.out]; rfl), rfl⟩
end Go.Proofs.Ytlkcelmamenhpaa
