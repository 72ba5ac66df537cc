/- The walk of PackSeals: the program's Sum, Seal and Open and the document's give one answer. -/
import Derived.Test.YtkgklgmkbkbeiaaE
import Derived.Test.YtkgklgmkbkbeiaaR4
namespace Go.Proofs.Ytkgklgmkbkbeiaa.packSeals
open Go.ChangeShapes Go.WideShapes Go.ChangeAt Go.RowKit Go.Deep
theorem eqT {s t : ByteArray} {l : List Nat} (h : nl s = l) (k : nl t = l) : (s.toList == t.toList) = true := by rw [eqB, h, k]; simp
set_option maxRecDepth 100000 in
set_option maxHeartbeats 1000000 in
theorem walk (s : ByteArray) (hs : s.size ≤ 9223372036854775807) (w : World) : Calls Try.prog 4 #[.string s] w fun e w' => e = .returned (.bool true) ∧ But No w w' := by
  have CE : ∀ W, Hid (Calls Try.prog 10 #[] W fun e w' => e = .returned (.bool true) ∧ But No W w') := fun W => examples_any W
  have C16 : ∀ W, Hid (Calls Try.prog 16 #[.string s] W (RetStr W (sErr (nl s)) (sAns (nl s)))) := fun W => seal_any s W hs
  have C17 : ∀ W, Hid (Calls Try.prog 17 #[.string s] W (RetStrB W (decide (sErr (nl s) = 0)) (sAns (nl s)))) := fun W => rseal_any s W hs
  have C18 : ∀ W, Hid (Calls Try.prog 18 #[.string s] W (RetStr W (oErr (nl s)) (oAns (nl s)))) := fun W => open_any s W hs
  have C19 : ∀ W, Hid (Calls Try.prog 19 #[.string s] W (RetStr W (oErr (nl s)) (oAns (nl s)))) := fun W => ropen_any s W hs
  have C20 : ∀ W, Hid (Calls Try.prog 20 #[.string s] W fun e w' => e = .returned (.int .u16 (crc 65535 (nl s) : Nat)) ∧ W = w') := fun W => sum_any s W hs
  have C21 : ∀ W, Hid (Calls Try.prog 21 #[.string s] W fun e w' => e = .returned (.int .i64 (crc 65535 (nl s) : Nat)) ∧ W = w') := fun W => rsum_any s W hs
  have hv := crc_small (nl s)
  generalize crc 65535 (nl s) = v at *
  generalize oErr (nl s) = g at *
  generalize oAns (nl s) = gl at *
  have hc : sErr (nl s) = 0 ∨ sErr (nl s) = 7 := by unfold sErr; by_cases h : 100000 < (nl s).length <;> simp [h]
  generalize sErr (nl s) = e at *
  generalize sAns (nl s) = el at *
  rcases hc with rfl | rfl
  all_goals
    go_enter Try.func4, Try.ntmps4
    go_wp2_with (first | (go_at_call 10; refine (CE _).out.mono ?_; rintro e w1 ⟨rfl, hb1⟩; have HB1 := Lib.hid hb1; clear hb1) | (go_at_call 16; refine (C16 _).out.mono ?_; rintro e w2 ⟨t2, rfl, ht2, hb2⟩; have HT2 := Lib.hid ht2; have HB2 := Lib.hid hb2; clear ht2 hb2) | (go_at_call 17; refine (C17 _).out.mono ?_; rintro e w3 ⟨t3, rfl, ht3, hb3⟩; have hq := eqT HT2.out ht3; have HB3 := Lib.hid hb3; clear ht3 hb3) | (go_at_call 18; refine (C18 _).out.mono ?_; rintro e w4 ⟨t4, rfl, ht4, hb4⟩; have HT4 := Lib.hid ht4; have HB4 := Lib.hid hb4; clear ht4 hb4) | (go_at_call 19; refine (C19 _).out.mono ?_; rintro e w5 ⟨t5, rfl, ht5, hb5⟩; have hq5 := eqT HT4.out ht5; have HB5 := Lib.hid hb5; clear ht5 hb5) | (go_at_call 20; refine (C20 _).out.mono ?_; rintro e w6 ⟨rfl, rfl⟩) | (go_at_call 21; refine (C21 _).out.mono ?_; rintro e w7 ⟨rfl, rfl⟩))
    go_ret
    exact ⟨rfl, (((HB1.out.trans HB2.out).trans HB3.out).trans HB4.out).trans HB5.out⟩
end Go.Proofs.Ytkgklgmkbkbeiaa.packSeals
