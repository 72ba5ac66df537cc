/- The walk of PackBack: there and back. -/
import Derived.Test.YtkgklgmkbkbeiaaL
namespace Go.Proofs.Ytkgklgmkbkbeiaa.packBack
open Go.ChangeShapes Go.WideShapes Go.ChangeAt Go.RowKit Go.Deep
set_option maxRecDepth 100000 in
set_option maxHeartbeats 2000000 in
theorem walk1 (A : Option Addr) (n c : Nat) (zs : List Int) (s : ByteArray) (hs : s.size ≤ 9223372036854775807) (w : World) (hz : Rl w A n zs) : Calls Try.prog 5 #[.slice A n c, .string s] w fun e w' => e = .returned (.bool true) ∧ But No w w' := by
  have CE : ∀ W, Hid (Calls Try.prog 10 #[] W fun e w' => e = .returned (.bool true) ∧ But No W w') := fun W => examples_any W
  -- Write(l)
  have ht1 : nl (bl (wOut zs)) = wOut zs := nl_bl (wOut_lt zs)
  have hz1 : (bl (wOut zs)).size ≤ 9223372036854775807 := by
    have := wOut_len zs
    rw [← nl_len, ht1]; omega
  have CW : ∀ W, But No w W → Hid (Calls Try.prog 11 #[.slice A n c] W fun e w' => e = .returned (.tuple #[.string (bl (wOut zs)), .int .i64 (wErr zs : Nat)]) ∧ But No W w') := fun W hb => write_to ht1 rfl W (hz.no hb)
  have hread : wErr zs = 0 → rAll (nl (bl (wOut zs))) = (zs.map Int.toNat, 0) := fun h => by rw [ht1]; exact read_written h
  have hcase1 : (wErr zs = 0 ∧ (∀ W, Hid (Calls Try.prog 14 #[.string (bl (wOut zs))] W (RetNums W 0 (zs.map Int.toNat)))) ∧ ofN (zs.map Int.toNat) = zs ∧ zs.length ≤ 2000) ∨ ((wErr zs : Int) == 0) = false := by
    by_cases h : wErr zs = 0
    · obtain ⟨h1, h2⟩ := wErr_zero h
      exact .inl ⟨h, fun W => read_to (hread h) hz1 W, toNat_ofN (fun z hz => (h2 z hz).1), h1⟩
    · exact .inr (by rw [beq_eq_false_iff_ne]; omega)
  generalize bl (wOut zs) = t1 at *
  generalize wErr zs = E1 at *
  -- Read(s), and back
  obtain ⟨ns, E2, hr⟩ : ∃ ns E2, rAll (nl s) = (ns, E2) := ⟨_, _, rfl⟩
  have CR := fun W => Lib.hid (read_to hr hs W)
  have hcase2 : (E2 = 0 ∧ ns.length ≤ 2000 ∧ ∀ A' n' c' W, Hid (Rl W A' n' (ofN ns) → Calls Try.prog 11 #[.slice A' n' c'] W fun e w' => e = .returned (.tuple #[.string s, .int .i64 0]) ∧ But No W w')) ∨ ((E2 : Int) == 0) = false := by
    by_cases h : E2 = 0
    · subst h
      obtain ⟨h1, h2, h3⟩ := write_read hr
      exact .inl ⟨rfl, h3, fun A' n' c' W => fun hl => write_to (t := s) h2.symm h1 W hl⟩
    · exact .inr (by rw [beq_eq_false_iff_ne]; omega)
  -- Seal(s), Open
  have hcase3 : (s.size ≤ 100000 ∧ ∃ v : ByteArray, (∀ W, Hid (Calls Try.prog 16 #[.string s] W fun e w' => e = .returned (.tuple #[.string v, .int .i64 0]) ∧ But No W w')) ∧ (∀ W, Hid (Calls Try.prog 18 #[.string v] W fun e w' => e = .returned (.tuple #[.string s, .int .i64 0]) ∧ But No W w')) ∧ ((v.size : Int) == (s.size : Int) + 2) = true) ∨ (100000 < s.size ∧ ∀ W, Hid (Calls Try.prog 16 #[.string s] W fun e w' => e = .returned (.tuple #[.string ⟨#[]⟩, .int .i64 7]) ∧ But No W w')) := by
    by_cases h : 100000 < s.size
    · exact .inr ⟨h, fun W => seal_to (E := 7) (t := ⟨#[]⟩) (by unfold sAns; rw [nl_len, if_pos h]; rfl) (by unfold sErr; rw [nl_len, if_pos h]) hs W⟩
    · have hv : nl (bl (sOut (nl s))) = sOut (nl s) := nl_bl (sOut_lt s)
      have hvl : (bl (sOut (nl s))).size = s.size + 2 := by rw [← nl_len, hv]; unfold sOut; rw [List.length_append, nl_len]; rfl
      obtain ⟨o1, o2⟩ := open_sealed (L := nl s) (by rw [nl_len]; omega)
      exact .inl ⟨by omega, bl (sOut (nl s)), fun W => seal_to (E := 0) (by unfold sAns; rw [nl_len, if_neg h, hv]) (by unfold sErr; rw [nl_len, if_neg h]) hs W, fun W => open_to (E := 0) (by rw [hv, o2]) (by rw [hv, o1]) (by omega) W, by rw [hvl, beq_iff_eq]; omega⟩
  clear hread ht1 hz1 hr
  have CN : ∀ A' n' c' ts W, Hid (Rl W A n zs → Rl W A' n' ts → Calls Try.prog 15 #[.slice A n c, .slice A' n' c'] W fun e w' => e = .returned (.bool (decide (zs = ts))) ∧ But No W w') := fun A' n' c' ts W => fun h1 h2 => numbers_any A A' n n' c c' zs ts W h1 h2
  have HZ := Lib.hid hz
  clear hz
  rcases hcase1 with ⟨rfl, CR1, hof, hlz⟩ | hE1
  · have HOF := Lib.hid hof
    have HLZ := Lib.hid hlz
    clear hof hlz
    rcases hcase2 with ⟨rfl, hln, CW2⟩ | hE2
    · have HLN := Lib.hid hln
      clear hln
      rcases hcase3 with ⟨hsz, v, CS, CO, hvl⟩ | ⟨hsz, CS⟩
      · go_enter Try.func5, Try.ntmps5
        go_wp2_with (first | (go_at_call 10; refine (CE _).out.mono ?_; rintro e w1 ⟨rfl, hb1⟩; have HB1 := Lib.hid hb1; clear hb1) | (go_at_call 11; ((with_reducible refine (CW _ HB1.out).out.mono ?_); rintro e w2 ⟨rfl, hb2⟩; have HB2 := Lib.hid (HB1.out.trans hb2); clear hb2)) | (go_at_call 14; ((with_reducible refine (CR1 _).out.mono ?_); rintro e w3 ⟨A3, n3, c3, rfl, hl3, ho3⟩; have HB3 := Lib.hid (HB2.out.trans ho3.but); have HO3 := Lib.hid (ho3.rl (by rw [List.length_map]; have := HLZ.out; omega)); clear hl3 ho3)) | (go_at_call 15; refine ((CN _ _ _ _ _).out (HZ.out.no HB3.out) HO3.out).mono ?_; rw [HOF.out]; rintro e w4 ⟨rfl, hb4⟩; have HB4 := Lib.hid (HB3.out.trans hb4); clear hb4) | (go_at_call 14; ((with_reducible refine (CR _).out.mono ?_); rintro e w5 ⟨A5, n5, c5, rfl, hl5, ho5⟩; have HB5 := Lib.hid (HB4.out.trans ho5.but); have HO5 := Lib.hid (ho5.rl (by have := HLN.out; omega)); clear hl5 ho5)) | (go_at_call 11; ((with_reducible refine ((CW2 _ _ _ _).out HO5.out).mono ?_); rintro e w6 ⟨rfl, hb6⟩; have HB6 := Lib.hid (HB5.out.trans hb6); clear hb6)) | (go_at_call 16; refine (CS _).out.mono ?_; rintro e w7 ⟨rfl, hb7⟩; have HB7 := Lib.hid (HB6.out.trans hb7); clear hb7) | (go_at_call 18; refine (CO _).out.mono ?_; rintro e w8 ⟨rfl, hb8⟩; have HB8 := Lib.hid (HB7.out.trans hb8); clear hb8))
        go_ret
        exact ⟨rfl, HB8.out⟩
      · have hd : decide ((100000 : Int) < (s.size : Int)) = true := by simp; omega
        go_enter Try.func5, Try.ntmps5
        go_wp2_with (first | (go_at_call 10; refine (CE _).out.mono ?_; rintro e w1 ⟨rfl, hb1⟩; have HB1 := Lib.hid hb1; clear hb1) | (go_at_call 11; ((with_reducible refine (CW _ HB1.out).out.mono ?_); rintro e w2 ⟨rfl, hb2⟩; have HB2 := Lib.hid (HB1.out.trans hb2); clear hb2)) | (go_at_call 14; ((with_reducible refine (CR1 _).out.mono ?_); rintro e w3 ⟨A3, n3, c3, rfl, hl3, ho3⟩; have HB3 := Lib.hid (HB2.out.trans ho3.but); have HO3 := Lib.hid (ho3.rl (by rw [List.length_map]; have := HLZ.out; omega)); clear hl3 ho3)) | (go_at_call 15; refine ((CN _ _ _ _ _).out (HZ.out.no HB3.out) HO3.out).mono ?_; rw [HOF.out]; rintro e w4 ⟨rfl, hb4⟩; have HB4 := Lib.hid (HB3.out.trans hb4); clear hb4) | (go_at_call 14; ((with_reducible refine (CR _).out.mono ?_); rintro e w5 ⟨A5, n5, c5, rfl, hl5, ho5⟩; have HB5 := Lib.hid (HB4.out.trans ho5.but); have HO5 := Lib.hid (ho5.rl (by have := HLN.out; omega)); clear hl5 ho5)) | (go_at_call 11; ((with_reducible refine ((CW2 _ _ _ _).out HO5.out).mono ?_); rintro e w6 ⟨rfl, hb6⟩; have HB6 := Lib.hid (HB5.out.trans hb6); clear hb6)) | (go_at_call 16; refine (CS _).out.mono ?_; rintro e w7 ⟨rfl, hb7⟩; have HB8 := Lib.hid (HB6.out.trans hb7); clear hb7))
        go_ret
        exact ⟨rfl, HB8.out⟩
    · skip
      rcases hcase3 with ⟨hsz, v, CS, CO, hvl⟩ | ⟨hsz, CS⟩
      · go_enter Try.func5, Try.ntmps5
        go_wp2_with (first | (go_at_call 10; refine (CE _).out.mono ?_; rintro e w1 ⟨rfl, hb1⟩; have HB1 := Lib.hid hb1; clear hb1) | (go_at_call 11; ((with_reducible refine (CW _ HB1.out).out.mono ?_); rintro e w2 ⟨rfl, hb2⟩; have HB2 := Lib.hid (HB1.out.trans hb2); clear hb2)) | (go_at_call 14; ((with_reducible refine (CR1 _).out.mono ?_); rintro e w3 ⟨A3, n3, c3, rfl, hl3, ho3⟩; have HB3 := Lib.hid (HB2.out.trans ho3.but); have HO3 := Lib.hid (ho3.rl (by rw [List.length_map]; have := HLZ.out; omega)); clear hl3 ho3)) | (go_at_call 15; refine ((CN _ _ _ _ _).out (HZ.out.no HB3.out) HO3.out).mono ?_; rw [HOF.out]; rintro e w4 ⟨rfl, hb4⟩; have HB4 := Lib.hid (HB3.out.trans hb4); clear hb4) | (go_at_call 14; ((with_reducible refine (CR _).out.mono ?_); rintro e w5 ⟨A5, n5, c5, rfl, hl5, ho5⟩; have HB6 := Lib.hid (HB4.out.trans ho5.but); clear hl5 ho5)) | (go_at_call 16; refine (CS _).out.mono ?_; rintro e w7 ⟨rfl, hb7⟩; have HB7 := Lib.hid (HB6.out.trans hb7); clear hb7) | (go_at_call 18; refine (CO _).out.mono ?_; rintro e w8 ⟨rfl, hb8⟩; have HB8 := Lib.hid (HB7.out.trans hb8); clear hb8))
        go_ret
        exact ⟨rfl, HB8.out⟩
      · have hd : decide ((100000 : Int) < (s.size : Int)) = true := by simp; omega
        go_enter Try.func5, Try.ntmps5
        go_wp2_with (first | (go_at_call 10; refine (CE _).out.mono ?_; rintro e w1 ⟨rfl, hb1⟩; have HB1 := Lib.hid hb1; clear hb1) | (go_at_call 11; ((with_reducible refine (CW _ HB1.out).out.mono ?_); rintro e w2 ⟨rfl, hb2⟩; have HB2 := Lib.hid (HB1.out.trans hb2); clear hb2)) | (go_at_call 14; ((with_reducible refine (CR1 _).out.mono ?_); rintro e w3 ⟨A3, n3, c3, rfl, hl3, ho3⟩; have HB3 := Lib.hid (HB2.out.trans ho3.but); have HO3 := Lib.hid (ho3.rl (by rw [List.length_map]; have := HLZ.out; omega)); clear hl3 ho3)) | (go_at_call 15; refine ((CN _ _ _ _ _).out (HZ.out.no HB3.out) HO3.out).mono ?_; rw [HOF.out]; rintro e w4 ⟨rfl, hb4⟩; have HB4 := Lib.hid (HB3.out.trans hb4); clear hb4) | (go_at_call 14; ((with_reducible refine (CR _).out.mono ?_); rintro e w5 ⟨A5, n5, c5, rfl, hl5, ho5⟩; have HB6 := Lib.hid (HB4.out.trans ho5.but); clear hl5 ho5)) | (go_at_call 16; refine (CS _).out.mono ?_; rintro e w7 ⟨rfl, hb7⟩; have HB8 := Lib.hid (HB6.out.trans hb7); clear hb7))
        go_ret
        exact ⟨rfl, HB8.out⟩
  · skip
    rcases hcase2 with ⟨rfl, hln, CW2⟩ | hE2
    · have HLN := Lib.hid hln
      clear hln
      rcases hcase3 with ⟨hsz, v, CS, CO, hvl⟩ | ⟨hsz, CS⟩
      · go_enter Try.func5, Try.ntmps5
        go_wp2_with (first | (go_at_call 10; refine (CE _).out.mono ?_; rintro e w1 ⟨rfl, hb1⟩; have HB1 := Lib.hid hb1; clear hb1) | (go_at_call 11; ((with_reducible refine (CW _ HB1.out).out.mono ?_); rintro e w2 ⟨rfl, hb2⟩; have HB4 := Lib.hid (HB1.out.trans hb2); clear hb2)) | (go_at_call 14; ((with_reducible refine (CR _).out.mono ?_); rintro e w5 ⟨A5, n5, c5, rfl, hl5, ho5⟩; have HB5 := Lib.hid (HB4.out.trans ho5.but); have HO5 := Lib.hid (ho5.rl (by have := HLN.out; omega)); clear hl5 ho5)) | (go_at_call 11; ((with_reducible refine ((CW2 _ _ _ _).out HO5.out).mono ?_); rintro e w6 ⟨rfl, hb6⟩; have HB6 := Lib.hid (HB5.out.trans hb6); clear hb6)) | (go_at_call 16; refine (CS _).out.mono ?_; rintro e w7 ⟨rfl, hb7⟩; have HB7 := Lib.hid (HB6.out.trans hb7); clear hb7) | (go_at_call 18; refine (CO _).out.mono ?_; rintro e w8 ⟨rfl, hb8⟩; have HB8 := Lib.hid (HB7.out.trans hb8); clear hb8))
        go_ret
        exact ⟨rfl, HB8.out⟩
      · have hd : decide ((100000 : Int) < (s.size : Int)) = true := by simp; omega
        go_enter Try.func5, Try.ntmps5
        go_wp2_with (first | (go_at_call 10; refine (CE _).out.mono ?_; rintro e w1 ⟨rfl, hb1⟩; have HB1 := Lib.hid hb1; clear hb1) | (go_at_call 11; ((with_reducible refine (CW _ HB1.out).out.mono ?_); rintro e w2 ⟨rfl, hb2⟩; have HB4 := Lib.hid (HB1.out.trans hb2); clear hb2)) | (go_at_call 14; ((with_reducible refine (CR _).out.mono ?_); rintro e w5 ⟨A5, n5, c5, rfl, hl5, ho5⟩; have HB5 := Lib.hid (HB4.out.trans ho5.but); have HO5 := Lib.hid (ho5.rl (by have := HLN.out; omega)); clear hl5 ho5)) | (go_at_call 11; ((with_reducible refine ((CW2 _ _ _ _).out HO5.out).mono ?_); rintro e w6 ⟨rfl, hb6⟩; have HB6 := Lib.hid (HB5.out.trans hb6); clear hb6)) | (go_at_call 16; refine (CS _).out.mono ?_; rintro e w7 ⟨rfl, hb7⟩; have HB8 := Lib.hid (HB6.out.trans hb7); clear hb7))
        go_ret
        exact ⟨rfl, HB8.out⟩
    · skip
      rcases hcase3 with ⟨hsz, v, CS, CO, hvl⟩ | ⟨hsz, CS⟩
      · go_enter Try.func5, Try.ntmps5
        go_wp2_with (first | (go_at_call 10; refine (CE _).out.mono ?_; rintro e w1 ⟨rfl, hb1⟩; have HB1 := Lib.hid hb1; clear hb1) | (go_at_call 11; ((with_reducible refine (CW _ HB1.out).out.mono ?_); rintro e w2 ⟨rfl, hb2⟩; have HB4 := Lib.hid (HB1.out.trans hb2); clear hb2)) | (go_at_call 14; ((with_reducible refine (CR _).out.mono ?_); rintro e w5 ⟨A5, n5, c5, rfl, hl5, ho5⟩; have HB6 := Lib.hid (HB4.out.trans ho5.but); clear hl5 ho5)) | (go_at_call 16; refine (CS _).out.mono ?_; rintro e w7 ⟨rfl, hb7⟩; have HB7 := Lib.hid (HB6.out.trans hb7); clear hb7) | (go_at_call 18; refine (CO _).out.mono ?_; rintro e w8 ⟨rfl, hb8⟩; have HB8 := Lib.hid (HB7.out.trans hb8); clear hb8))
        go_ret
        exact ⟨rfl, HB8.out⟩
      · have hd : decide ((100000 : Int) < (s.size : Int)) = true := by simp; omega
        go_enter Try.func5, Try.ntmps5
        go_wp2_with (first | (go_at_call 10; refine (CE _).out.mono ?_; rintro e w1 ⟨rfl, hb1⟩; have HB1 := Lib.hid hb1; clear hb1) | (go_at_call 11; ((with_reducible refine (CW _ HB1.out).out.mono ?_); rintro e w2 ⟨rfl, hb2⟩; have HB4 := Lib.hid (HB1.out.trans hb2); clear hb2)) | (go_at_call 14; ((with_reducible refine (CR _).out.mono ?_); rintro e w5 ⟨A5, n5, c5, rfl, hl5, ho5⟩; have HB6 := Lib.hid (HB4.out.trans ho5.but); clear hl5 ho5)) | (go_at_call 16; refine (CS _).out.mono ?_; rintro e w7 ⟨rfl, hb7⟩; have HB8 := Lib.hid (HB6.out.trans hb7); clear hb7))
        go_ret
        exact ⟨rfl, HB8.out⟩
theorem walk (A : Option Addr) (n c : Nat) (zs : List Int) (_ : n ≤ c) (s : ByteArray) (hs : s.size ≤ 9223372036854775807) (w : World) (hz : Rd w A n zs) : Calls Try.prog 5 #[.slice A n c, .string s] w fun e w' => e = .returned (.bool true) ∧ But No w w' :=
  walk1 A n c zs s hs w ⟨hz.len, hz.max, hz.at_⟩
end Go.Proofs.Ytkgklgmkbkbeiaa.packBack
