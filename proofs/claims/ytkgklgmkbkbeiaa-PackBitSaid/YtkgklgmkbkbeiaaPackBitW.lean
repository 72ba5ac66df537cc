/- The walk of PackBit: one bit turned is told. -/
import Derived.Test.YtkgklgmkbkbeiaaE
import Derived.RegionTactic
namespace Go.Proofs.Ytkgklgmkbkbeiaa.packBit
open Go.ChangeShapes Go.WideShapes Go.ChangeAt Go.RowKit Go.Deep
theorem xor_ne (x j : Nat) : x ^^^ 2 ^ j ≠ x := by
  intro h
  have h2 := congrArg (fun n => Nat.testBit n j) h
  simp only [Nat.testBit_xor, Nat.testBit_two_pow_self] at h2
  cases hx : x.testBit j <;> simp [hx] at h2
theorem xor_lt {x j : Nat} (hx : x < 256) (hj : j < 8) : x ^^^ 2 ^ j < 256 :=
  Nat.xor_lt_two_pow (n := 8) hx (show 2 ^ j < 2 ^ 8 from Nat.pow_lt_pow_right (by omega) hj)
theorem flip_err (s : ByteArray) (hs : s.size ≤ 4000) {i j : Nat} (hi : i < s.size + 2) (hj : j < 8) : oErr ((sOut (nl s)).set i ((sOut (nl s)).getD i 0 ^^^ 2 ^ j)) = 9 := by
  have hl := nl_len s
  have hc := crc_small (nl s)
  have hlt := nl_lt s
  generalize hL : nl s = L at *
  generalize hn : L.length = n at *
  have hlen : (sOut L).length = n + 2 := by unfold sOut; rw [List.length_append, hn]; rfl
  have e0 : (sOut L).take n = L := by unfold sOut; exact List.take_left' hn
  have e1 : (sOut L).getD n 0 = crc 65535 L / 256 := by unfold sOut; simp [List.getD, hn]
  have e2 : (sOut L).getD (n + 1) 0 = crc 65535 L % 256 := by unfold sOut; simp [List.getD, hn]
  unfold oErr
  rw [List.length_set, hlen, if_neg (by omega), if_neg (by omega), Nat.add_sub_cancel, show n + 2 - 1 = n + 1 by omega, if_neg]
  have gs : ∀ k x, ((sOut L).set i x).getD k 0 = if i = k then (if i < (sOut L).length then x else 0) else (sOut L).getD k 0 := fun k x => by
    simp only [List.getD, List.getElem?_set]
    by_cases h : i = k
    · subst h
      simp
      by_cases h2 : i < (sOut L).length <;> simp [h2]
    · simp [h]
  have hil : i < (sOut L).length := by omega
  rcases Nat.lt_or_ge i n with h | h
  · rw [gs, gs, if_neg (by omega), if_neg (by omega), e1, e2]
    have hdm : crc 65535 L / 256 * 256 + crc 65535 L % 256 = crc 65535 L := by omega
    rw [hdm, List.take_set, e0]
    have hg : (sOut L).getD i 0 = L.getD i 0 := by
      rw [← e0, List.getD, List.getD, List.getElem?_take_of_lt h]
      rw [e0]
    rw [hg]
    have hiL : i < L.length := by omega
    have hd : L = L.take i ++ L.getD i 0 :: L.drop (i + 1) := by
      have : L.getD i 0 = L[i] := by simp [List.getD, List.getElem?_eq_getElem hiL]
      rw [this, ← List.drop_eq_getElem_cons hiL, List.take_append_drop]
    have hs' : L.set i (L.getD i 0 ^^^ 2 ^ j) = L.take i ++ (L.getD i 0 ^^^ 2 ^ j) :: L.drop (i + 1) := by
      rw [List.set_eq_take_append_cons_drop, if_pos hiL]
    intro hh
    rw [hs'] at hh
    have hf := crc_flip (v := 65535) (k := j) (x := L.getD i 0) (L.take i) (L.drop (i + 1)) (by omega) hj
    exact hf (hh.trans (congrArg (crc 65535) hd))
  · rw [List.take_set, e0, List.set_eq_of_length_le (by omega)]
    have hcase : i = n ∨ i = n + 1 := by omega
    rcases hcase with rfl | rfl
    · rw [gs, gs, if_pos rfl, if_pos hil, if_neg (by omega), e1, e2]
      have h1 := xor_ne (crc 65535 L / 256) j
      omega
    · rw [gs, gs, if_neg (by omega), if_pos rfl, if_pos hil, e1, e2]
      have h1 := xor_ne (crc 65535 L % 256) j
      omega
theorem open_seal {s : ByteArray} {L : List Nat} (h : nl s = L) (h9 : oErr L = 9) : oErr (nl s) = 9 ∧ oAns (nl s) = [] := by
  rw [h]
  exact ⟨h9, by unfold oAns; rw [h9]; rfl⟩
theorem turned {W1 : World} {g c i j : Nat} {u : ByteArray} (hcell : ∀ k, k < u.size → W1.cell? ⟨g, k, none⟩ = some (.int .u8 ((nl u).getD k 0 : Nat))) (hi : i < u.size) (hj : j < 8) :
    ∃ x : ByteArray, (convert 43 9 (.slice (some ⟨g, 0, none⟩) u.size c)).run Try.prog (W1.setCell ⟨g, i, none⟩ (.int .u8 (bits BinOp.xor IntKind.u8 ((nl u).getD i 0 : Nat) (2 ^ j % 256)))).drew = .ok (.string x) (W1.setCell ⟨g, i, none⟩ (.int .u8 (bits BinOp.xor IntKind.u8 ((nl u).getD i 0 : Nat) (2 ^ j % 256)))).drew ∧ nl x = (nl u).set i ((nl u).getD i 0 ^^^ 2 ^ j) := by
  have hy := getD_lt u i
  have hp : 2 ^ j < 2 ^ 8 := Nat.pow_lt_pow_right (by omega) hj
  have hz : bits BinOp.xor IntKind.u8 ((nl u).getD i 0 : Nat) (2 ^ j % 256) = (((nl u).getD i 0 ^^^ 2 ^ j : Nat) : Int) := by
    have h := u8_xor_nat ((nl u).getD i 0) (2 ^ j) hy (by omega)
    rw [← h]
    congr 1
    have e : ((2 : Int) ^ j) = ((2 ^ j : Nat) : Int) := by simp
    rw [e]
    generalize 2 ^ j = p at hp ⊢
    omega
  rw [hz]
  have hl : ((nl u).set i ((nl u).getD i 0 ^^^ 2 ^ j)).length = u.size := by rw [List.length_set, nl_len]
  have h := conv_cells (w := (W1.setCell ⟨g, i, none⟩ (.int .u8 (((nl u).getD i 0 ^^^ 2 ^ j : Nat) : Int))).drew) (b := g) (c := c) (ns := (nl u).set i ((nl u).getD i 0 ^^^ 2 ^ j)) (fun k hk => by
    rw [hl] at hk
    have hkl : k < (nl u).length := by rw [nl_len]; exact hk
    show (W1.setCell ⟨g, i, none⟩ _).cell? ⟨g, k, none⟩ = _
    by_cases e : k = i
    · subst e
      rw [World.cell?_setCell_same W1 _ _ (by rw [hcell k hk])]
      simp [List.getD, hkl]
    · rw [World.cell?_setCell_other W1 ⟨g, i, none⟩ ⟨g, k, none⟩ _ (fun h => e (by cases h; rfl)), hcell k hk]
      simp [List.getD, Ne.symm e])
  rw [hl] at h
  refine ⟨_, h, nl_bl (fun b hb => ?_)⟩
  rcases List.mem_or_eq_of_mem_set hb with h | rfl
  · exact nl_lt u b h
  · exact xor_lt hy hj
set_option maxRecDepth 100000 in
set_option maxHeartbeats 1000000 in
theorem walk1 (s : ByteArray) (bit : Int) (hbit : inR bit) (t u : ByteArray) (k : Nat) (ht : t.size = k) (hk : k ≤ 4000) (hu : nl u = sOut (nl t)) (hq : (4000 < s.size ∧ t = s.extract 0 4000) ∨ (¬ 4000 < s.size ∧ t = s.extract 0 s.size)) (w : World) :
    Calls Try.prog 6 #[.string s, .int .i64 bit] w fun e w' => e = .returned (.bool true) ∧ But No w w' := by
  have CE : ∀ W, Hid (Calls Try.prog 10 #[] W fun e w' => e = .returned (.bool true) ∧ But No W w') := fun W => examples_any W
  have hzu : u.size = k + 2 := by rw [← nl_len, hu]; unfold sOut; rw [List.length_append, nl_len, ht]; rfl
  have CS : ∀ W, Hid (Calls Try.prog 16 #[.string t] W fun e w' => e = .returned (.tuple #[.string u, .int .i64 0]) ∧ But No W w') := fun W => (seal_any t W (by omega)).mono fun e w' ⟨t', he, hn, hb⟩ => by
    have h1 : sErr (nl t) = 0 := by unfold sErr; rw [nl_len, if_neg (by omega)]
    have h2 : sAns (nl t) = sOut (nl t) := by unfold sAns; rw [nl_len, if_neg (by omega)]
    have : t' = u := nl_inj (by rw [hn, h2, hu])
    subst this
    exact ⟨by rw [he, h1]; rfl, hb⟩
  have hsl : (4000 < s.size ∧ ∀ W, (Instr.slice 9 (.string s) none (some (.int .i64 4000)) none).run Try.prog W = .ok (.string t) W) ∨ (¬ 4000 < s.size ∧ ∀ W, (Instr.slice 9 (.string s) none (some (.int .i64 (s.size : Int))) none).run Try.prog W = .ok (.string t) W) := by
    rcases hq with ⟨h1, rfl⟩ | ⟨h1, rfl⟩
    · exact .inl ⟨h1, fun W => to_run s 4000 (by omega) W⟩
    · exact .inr ⟨h1, fun W => to_run s s.size (by omega) W⟩
  clear hq
  have hne : ((u.size : Int) != (t.size : Int) + 2) = false := by rw [hzu, ht]; simp
  unfold inR at hbit
  have HU := Lib.hid hu
  have HZ := Lib.hid hzu
  have HT := Lib.hid ht
  have hz1 : 2 ≤ u.size := by omega
  have hz2 : u.size ≤ 4002 := by omega
  have ht4 : t.size ≤ 4000 := by omega
  clear hu hzu ht
  obtain ⟨B, hBlt, hB⟩ : ∃ B : Nat, B < 8 * u.size ∧ ((bit < 0 ∧ -((bit + 1).tmod (8 * (u.size : Int))) = (B : Int)) ∨ (¬ bit < 0 ∧ bit % (8 * (u.size : Int)) = (B : Int))) := by
    by_cases hneg : bit < 0
    · refine ⟨((-(bit + 1)) % (8 * (u.size : Int))).toNat, ?_, .inl ⟨hneg, ?_⟩⟩
      · have h1 := Int.emod_nonneg (-(bit + 1)) (show (8 * (u.size : Int)) ≠ 0 by omega)
        have h2 := Int.emod_lt_of_pos (-(bit + 1)) (show (0 : Int) < 8 * (u.size : Int) by omega)
        omega
      · have h1 := Int.emod_nonneg (-(bit + 1)) (show (8 * (u.size : Int)) ≠ 0 by omega)
        rw [← Int.neg_tmod, Int.tmod_eq_emod_of_nonneg (by omega)]
        omega
    · refine ⟨(bit % (8 * (u.size : Int))).toNat, ?_, .inr ⟨hneg, ?_⟩⟩
      · have h1 := Int.emod_nonneg bit (show (8 * (u.size : Int)) ≠ 0 by omega)
        have h2 := Int.emod_lt_of_pos bit (show (0 : Int) < 8 * (u.size : Int) by omega)
        omega
      · have h1 := Int.emod_nonneg bit (show (8 * (u.size : Int)) ≠ 0 by omega)
        omega
  obtain ⟨i, hi⟩ : ∃ i, B / 8 = i := ⟨_, rfl⟩
  obtain ⟨j, hj⟩ : ∃ j, B % 8 = j := ⟨_, rfl⟩
  have hi1 : i < u.size := by omega
  have hi2 : (i : Int) < (u.size : Int) := by omega
  have hj1 : j < 8 := by omega
  have e1 : (B : Int) / 8 = (i : Int) := by omega
  have e2 : (B : Int).tdiv 8 = (i : Int) := by rw [Int.tdiv_eq_ediv_of_nonneg (by omega)]; omega
  have e3 : (B : Int) % 8 = (j : Int) := by omega
  have e4 : (B : Int).tmod 8 = (j : Int) := by rw [Int.tmod_eq_emod_of_nonneg (by omega)]; omega
  have e5 : IntKind.i64.wrap (i : Int) = (i : Int) := by rw [IntKind.wrap_i64]; omega
  have e6 : IntKind.i64.wrap (j : Int) = (j : Int) := by rw [IntKind.wrap_i64]; omega
  clear hi hj
  have HI := Lib.hid hi1
  rcases hsl with ⟨hc, hsl⟩ | ⟨hc, hsl⟩
  all_goals
    rcases hB with ⟨hneg, hB⟩ | ⟨hneg, hB⟩
    all_goals
      go_enter Try.func6, Try.ntmps6
      go_wp2_with (first | (go_at_call 10; refine (CE _).out.mono ?_; rintro e w1 ⟨rfl, hb1⟩; have HB1 := Lib.hid hb1; clear hb1) | (go_at_call 16; refine (CS _).out.mono ?_; rintro e w2 ⟨rfl, hb2⟩; have HB2 := Lib.hid hb2; obtain ⟨A, c, W1, hcv, hbw, hbk, ⟨g, hA, hg1, hg2, hcell⟩, hj2⟩ := bytes_two u w2 (by omega); have HBW := Lib.hid hbw; have HC := Lib.hid hcell; have HG := Lib.hid (And.intro hg1 hg2); subst hA; clear hbw hbk hg1 hg2 hcell hj2 hb2))
      obtain ⟨hc1, hc2⟩ := HC.out i HI.out
      obtain ⟨y, hy⟩ : ∃ y, y = (nl u).getD i 0 := ⟨_, rfl⟩
      rw [← hy] at hc1
      have HY := Lib.hid hy
      clear hy
      go_region
      obtain ⟨x, hx, hnx⟩ := turned (c := c) (fun k hk => (HC.out k hk).1) HI.out hj1
      rw [← HY.out] at hx hnx
      obtain ⟨W3, hW3⟩ : ∃ W3, W3 = (W1.setCell ⟨g, i, none⟩ (.int .u8 (bits BinOp.xor IntKind.u8 (y : Int) (2 ^ j % 256)))).drew := ⟨_, rfl⟩
      have HBT : Hid (But No w W3) := by
        rw [hW3]
        exact ((((HB1.out.trans HB2.out).trans HBW.out).setNew (p := ⟨g, i, none⟩) (Nat.le_trans (HB1.out.trans HB2.out).size HG.out.1) _)).drew
      have HEX := Lib.hid (open_seal (L := (nl u).set i (y ^^^ 2 ^ j)) hnx (by rw [HY.out, HU.out]; exact flip_err t (by rw [HT.out]; exact hk) (by rw [HT.out, ← HZ.out]; exact HI.out) hj1))
      have hxs : x.size ≤ 9223372036854775807 := by rw [← nl_len, hnx, List.length_set, nl_len]; omega
      rw [← hW3] at hx ⊢
      clear hW3 hnx hc1 hc2
      have C18 : ∀ W, Hid (Calls Try.prog 18 #[.string x] W (RetStr W 9 [])) := fun W => by have := open_any x W hxs; rw [HEX.out.1, HEX.out.2] at this; exact this
      go_wp2_with (go_at_call 18; refine (C18 _).out.mono ?_; rintro e w5 ⟨t5, rfl, ht5, hb5⟩; have hq5 : (t5.toList == []) = true := eq_list ht5; have HB5 := Lib.hid hb5; clear ht5 hb5)
      go_ret
      exact ⟨rfl, HBT.out.trans HB5.out⟩
theorem walk (s : ByteArray) (_ : s.size ≤ 9223372036854775807) (bit : Int) (hb : (Lit.int .i64 bit).wf = true) (w : World) : Calls Try.prog 6 #[.string s, .int .i64 bit] w fun e w' => e = .returned (.bool true) ∧ But No w w' := by
  have hlen : ∀ k, k ≤ s.size → (s.extract 0 k).size = k := fun k hk => by
    rw [← nl_len, nl_extract, List.length_take, List.length_drop, nl_len]; omega
  by_cases h : 4000 < s.size
  · exact walk1 s bit (inR_of hb) (s.extract 0 4000) (bl (sOut (nl (s.extract 0 4000)))) 4000 (hlen _ (by omega)) (by omega) (nl_bl (sOut_lt _)) (.inl ⟨h, rfl⟩) w
  · exact walk1 s bit (inR_of hb) (s.extract 0 s.size) (bl (sOut (nl (s.extract 0 s.size)))) s.size (hlen _ (by omega)) (by omega) (nl_bl (sOut_lt _)) (.inr ⟨h, rfl⟩) w
end Go.Proofs.Ytkgklgmkbkbeiaa.packBit
