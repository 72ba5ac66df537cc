/- The walk of PackSizes: a number's bytes are its sevens of bits. -/
import Derived.Test.YtkgklgmkbkbeiaaE
namespace Go.Proofs.Ytkgklgmkbkbeiaa.packSizes
open Go.ChangeShapes Go.WideShapes Go.ChangeAt Go.RowKit Go.Deep
def sev (k : Nat) : Nat := if k = 0 then 0 else (enc7 k).length
theorem len_sev (m : Nat) : (enc7 m).length = 1 + sev (m / 128) := by
  by_cases h : m < 128
  · rw [enc7_small h, show m / 128 = 0 by omega]; rfl
  · rw [enc7_great h, List.length_cons]; unfold sev; rw [if_neg (by omega)]; omega
theorem sev_step {k : Nat} (h : 0 < k) : sev k = 1 + sev (k / 128) := by
  rw [← len_sev]; unfold sev; rw [if_neg (by omega)]
theorem enc7_hi {m i : Nat} (h : i + 1 < (enc7 m).length) : 128 ≤ (enc7 m).getD i 0 := by
  obtain ⟨l, z, e, hm⟩ := enc7_num m
  rw [e] at h ⊢
  simp at h
  rw [List.getD, List.getElem?_append_left h, List.getElem?_eq_getElem h]
  exact (hm.hi _ (List.getElem_mem h)).1
theorem enc7_lo {m i : Nat} (h : i + 1 = (enc7 m).length) : (enc7 m).getD i 0 < 128 := by
  obtain ⟨l, z, e, hm⟩ := enc7_num m
  rw [e] at h ⊢
  simp at h
  subst h
  have := hm.lo
  simpa [List.getD] using this
theorem one_rl (w : World) (x : Int) : Rl (w.alloc (.cells #[.int .i64 x] 3)) (some ⟨w.heap.size, 0, none⟩) 1 [x] := by
  have hB := Blk.new w #[.int .i64 x] 3
  refine ⟨rfl, by omega, fun _ => ⟨w.heap.size, 0, rfl, hB.lt, fun k hk => ?_⟩⟩
  rw [Nat.zero_add]
  refine hB.cell ?_
  have : k = 0 := by omega
  subst this; rfl
set_option maxRecDepth 100000 in
set_option maxHeartbeats 1000000 in
theorem walk (n : Int) (_ : (Lit.int .i64 n).wf = true) (w : World) : Calls Try.prog 8 #[.int .i64 n] w fun e w' => e = .returned (.bool true) ∧ But No w w' := by
  have CE : ∀ W, Hid (Calls Try.prog 10 #[] W fun e w' => e = .returned (.bool true) ∧ But No W w') := fun W => examples_any W
  have CW : ∀ W : World, Hid (Calls Try.prog 11 #[.slice (some ⟨W.heap.size, 0, none⟩) 1 1] (W.alloc (.cells #[.int .i64 n] 3)) (RetStr (W.alloc (.cells #[.int .i64 n] 3)) (wErr [n]) (wOut [n]))) := fun W => write_any (some ⟨W.heap.size, 0, none⟩) 1 1 [n] (W.alloc (.cells #[.int .i64 n] 3)) (one_rl W n)
  by_cases h0 : n < 0
  · have hE : wErr [n] = 1 := by unfold wErr good; simp; omega
    rw [hE] at CW
    clear hE
    go_enter Try.func8, Try.ntmps8
    go_wp2_with (first | (go_at_call 10; refine (CE _).out.mono ?_; rintro e w1 ⟨rfl, hb1⟩; have HB1 := Lib.hid hb1; clear hb1) | (go_at_call 11; refine (CW _).out.mono ?_; rintro e w2 ⟨t2, rfl, ht2, hb2⟩; have HT2 := Lib.hid ht2; have HB2 := Lib.hid hb2; clear ht2 hb2))
    go_ret
    exact ⟨rfl, (HB1.out.alloc _).trans HB2.out⟩
  · by_cases h1 : 4611686018427387904 < n
    · have hE : wErr [n] = 1 := by unfold wErr good; simp; omega
      rw [hE] at CW
      clear hE
      go_enter Try.func8, Try.ntmps8
      go_wp2_with (first | (go_at_call 10; refine (CE _).out.mono ?_; rintro e w1 ⟨rfl, hb1⟩; have HB1 := Lib.hid hb1; clear hb1) | (go_at_call 11; refine (CW _).out.mono ?_; rintro e w2 ⟨t2, rfl, ht2, hb2⟩; have HT2 := Lib.hid ht2; have HB2 := Lib.hid hb2; clear ht2 hb2))
      go_ret
      exact ⟨rfl, (HB1.out.alloc _).trans HB2.out⟩
    · obtain ⟨m, rfl⟩ : ∃ m : Nat, n = (m : Int) := ⟨n.toNat, by omega⟩
      have hE : wErr [(m : Int)] = 0 := by unfold wErr good; simp; omega
      have hO : wOut [(m : Int)] = enc7 m := by unfold wOut; rw [hE, if_pos rfl]; simp [wrt]
      rw [hE, hO] at CW
      clear hE hO
      have h9 := enc7_len_le (n := m) (by omega)
      have HLS := Lib.hid (len_sev m)
      go_enter Try.func8, Try.ntmps8
      go_wp2_with (first | (go_at_call 10; refine (CE _).out.mono ?_; rintro e w1 ⟨rfl, hb1⟩; have HB1 := Lib.hid hb1; clear hb1) | (go_at_call 11; refine (CW _).out.mono ?_; rintro e w2 ⟨t2, rfl, ht2, hb2⟩; have HT2 := Lib.hid ht2; have HB2 := Lib.hid hb2; clear ht2 hb2))
      have HSZ : Hid (t2.size = (enc7 m).length) := by show _ = _; rw [← nl_len, HT2.out]
      go_loop [6, 7] (fun z k => ∃ a b : Nat, z = .int .i64 (a : Int) ∧ k = .int .i64 (b : Int) ∧ a ≤ 9 ∧ b ≤ 4611686018427387904 ∧ Hid ((enc7 m).length = a + sev b)) (fun _ k => (intOf k).toNat)
      case atStart => exact ⟨1, m / 128, rfl, by go_num, by omega, by omega, HLS⟩
      case round =>
        obtain ⟨a, b, rfl, rfl, ha, hb, HL⟩ := hrel
        by_cases hb0 : 0 < b
        · have HS := Lib.hid (sev_step hb0)
          have hb1 : (0 : Int) < (b : Int) := by omega
          go_wp2
          go_round
          case rel => exact ⟨a + 1, b / 128, by go_num, by go_num, by have h1 := HL.out; have h2 := HS.out; omega, by omega, by show _ = _; rw [HL.out, HS.out]; omega⟩
          case measure => simp [intOf]; omega
        · obtain rfl : b = 0 := by omega
          have hta : t2.size = a := by rw [HSZ.out, HL.out]; simp [sev]
          have hap : 0 < a := by rw [← hta, HSZ.out]; exact enc7_pos m
          have HTA := Lib.hid hta
          have hx : ∀ W : World, ∀ i : Nat, i < a → (Instr.index 9 (.string t2) (.int .i64 (i : Int))).run Try.prog W = .ok (.int .u8 ((enc7 m).getD i 0 : Nat)) W := fun W i hi => by
            have := index_run t2 i (by omega) W
            rw [HT2.out] at this; exact this
          have HX := Lib.hid hx
          have htt : (t2.size : Int) = (a : Int) := by omega
          clear hx hta
          go_wp2
          clear htt
          go_loop [8] (fun i => ∃ j : Nat, j ≤ a ∧ i = .int .i64 (j : Int)) (fun i => a - (intOf i).toNat)
          case atStart => exact ⟨0, by omega, rfl⟩
          case round =>
            obtain ⟨j, hj, rfl⟩ := hrel
            by_cases hlt : j < a
            · have hxj := fun W => HX.out W j hlt
              by_cases hl : j + 1 < a
              · have hg := enc7_hi (m := m) (i := j) (by rw [HL.out]; simpa [sev] using hl)
                have hbd := enc7_lt m
                generalize (enc7 m).getD j 0 = y at *
                have d1 : decide ((128 : Int) ≤ (y : Int)) = true := by simp; omega
                have d2 : decide ((j : Int) < (a : Int) - 1) = true := by simp; omega
                clear hbd
                go_wp2
                go_round
                case rel => exact ⟨j + 1, by omega, by go_num⟩
                case measure => simp [intOf]; omega
              · have hg := enc7_lo (m := m) (i := j) (by rw [HL.out]; simp [sev]; omega)
                generalize (enc7 m).getD j 0 = y at *
                have d1 : decide ((128 : Int) ≤ (y : Int)) = false := by simp; omega
                have d2 : decide ((j : Int) < (a : Int) - 1) = false := by simp; omega
                go_wp2
                go_round
                case rel => exact ⟨j + 1, by omega, by go_num⟩
                case measure => simp [intOf]; omega
            · go_wp2
              go_ret
              exact ⟨rfl, (HB1.out.alloc _).trans HB2.out⟩
end Go.Proofs.Ytkgklgmkbkbeiaa.packSizes
