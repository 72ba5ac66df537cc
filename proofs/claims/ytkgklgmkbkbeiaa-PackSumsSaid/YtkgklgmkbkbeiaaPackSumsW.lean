/- The walk of PackSums: what is told apart stays apart, with the same bytes behind. -/
import Derived.Test.YtkgklgmkbkbeiaaE
namespace Go.Proofs.Ytkgklgmkbkbeiaa.packSums
open Go.ChangeShapes Go.WideShapes Go.ChangeAt Go.RowKit Go.Deep
theorem crc_two (a b m : List Nat) : crc 65535 (a ++ m) = crc 65535 (b ++ m) ↔ crc 65535 a = crc 65535 b := by
  rw [crc_append, crc_append]
  exact ⟨fun h => crc_inj m (crc_small a) (crc_small b) h, fun h => by rw [h]⟩
set_option maxRecDepth 100000 in
set_option maxHeartbeats 1000000 in
theorem walk1 (a b m : ByteArray) (ha : a.size ≤ 140737488355328) (hb : b.size ≤ 140737488355328) (hm : m.size ≤ 140737488355328) (n : Nat) (hna : n ≤ a.size) (hnb : n ≤ b.size) (hn : (n = b.size ∧ b.size < a.size) ∨ (n = a.size ∧ ¬ b.size < a.size)) (w : World) : Calls Try.prog 9 #[.string a, .string b, .string m] w fun e w' => e = .returned (.bool true) ∧ But No w w' := by
  have CE : ∀ W, Hid (Calls Try.prog 10 #[] W fun e w' => e = .returned (.bool true) ∧ But No W w') := fun W => examples_any W
  have sa := to_run a n hna
  have sb := to_run b n hnb
  have hza : (a.extract 0 n).size ≤ 140737488355328 := by rw [← nl_len, nl_extract, List.length_take, List.length_drop, nl_len]; omega
  have hzb : (b.extract 0 n).size ≤ 140737488355328 := by rw [← nl_len, nl_extract, List.length_take, List.length_drop, nl_len]; omega
  generalize a.extract 0 n = ta at *
  generalize b.extract 0 n = tb at *
  have hsz : ∀ x y : ByteArray, (x ++ y).size = x.size + y.size := fun x y => by rw [← nl_len, nl_append, List.length_append, nl_len, nl_len]
  have C1 : ∀ W, Hid (Calls Try.prog 20 #[.string ta] W fun e w' => e = .returned (.int .u16 (crc 65535 (nl ta) : Nat)) ∧ W = w') := fun W => sum_any ta W (by omega)
  have C2 : ∀ W, Hid (Calls Try.prog 20 #[.string tb] W fun e w' => e = .returned (.int .u16 (crc 65535 (nl tb) : Nat)) ∧ W = w') := fun W => sum_any tb W (by omega)
  have C3 : ∀ W, Hid (Calls Try.prog 20 #[.string (ta ++ m)] W fun e w' => e = .returned (.int .u16 (crc 65535 (nl ta ++ nl m) : Nat)) ∧ W = w') := fun W => by have := sum_any (ta ++ m) W (by rw [hsz]; omega); rw [nl_append] at this; exact this
  have C4 : ∀ W, Hid (Calls Try.prog 20 #[.string (tb ++ m)] W fun e w' => e = .returned (.int .u16 (crc 65535 (nl tb ++ nl m) : Nat)) ∧ W = w') := fun W => by have := sum_any (tb ++ m) W (by rw [hsz]; omega); rw [nl_append] at this; exact this
  have hq := crc_two (nl ta) (nl tb) (nl m)
  generalize crc 65535 (nl ta) = v1 at *
  generalize crc 65535 (nl tb) = v2 at *
  generalize crc 65535 (nl ta ++ nl m) = v3 at *
  generalize crc 65535 (nl tb ++ nl m) = v4 at *
  have g1 : ¬ (ta.size + m.size > 9223372036854775807) := by omega
  have g2 : ¬ (tb.size + m.size > 9223372036854775807) := by omega
  clear hsz
  have hbo : (((v1 : Int) == (v2 : Int)) = true ∧ ((v3 : Int) == (v4 : Int)) = true) ∨ (((v1 : Int) == (v2 : Int)) = false ∧ ((v3 : Int) == (v4 : Int)) = false) := by
    by_cases e : v1 = v2
    · exact .inl ⟨by simp [e], by simp [hq.2 e]⟩
    · exact .inr ⟨by rw [beq_eq_false_iff_ne]; omega, by rw [beq_eq_false_iff_ne]; intro h; exact e (hq.1 (by omega))⟩
  clear hq
  rcases hn with ⟨rfl, hlt⟩ | ⟨rfl, hlt⟩
  all_goals
    rcases hbo with ⟨b1, b2⟩ | ⟨b1, b2⟩
    all_goals
      go_enter Try.func9, Try.ntmps9
      go_wp2_with (first | (go_at_call 10; refine (CE _).out.mono ?_; rintro e w1 ⟨rfl, hb1⟩; have HB1 := Lib.hid hb1; clear hb1))
      go_quiet ((first | (go_at_call 20; with_reducible exact quiet_left (C1 _).out) | (go_at_call 20; with_reducible exact quiet_left (C2 _).out)))
      go_wp2
      generalize hwd : w1.drewN nq = wd
      have HWD : Hid (But No w wd) := by rw [← hwd]; exact HB1.out.drewN _
      clear hwd
      go_quiet ((first | (go_at_call 20; with_reducible exact quiet_left (C3 _).out) | (go_at_call 20; with_reducible exact quiet_left (C4 _).out)))
      go_wp2
      go_ret
      exact ⟨rfl, HWD.out.drewN _⟩
theorem walk (a : ByteArray) (ha : a.size ≤ 140737488355328) (b : ByteArray) (hb : b.size ≤ 140737488355328) (m : ByteArray) (hm : m.size ≤ 140737488355328) (w : World) : Calls Try.prog 9 #[.string a, .string b, .string m] w fun e w' => e = .returned (.bool true) ∧ But No w w' := by
  by_cases h : b.size < a.size
  · exact walk1 a b m ha hb hm b.size (by omega) (by omega) (.inl ⟨rfl, h⟩) w
  · exact walk1 a b m ha hb hm a.size (by omega) (by omega) (.inr ⟨rfl, h⟩) w
end Go.Proofs.Ytkgklgmkbkbeiaa.packSums
