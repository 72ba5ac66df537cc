/- The contract of the document's Write. -/
import Derived.Test.YtlkcelmamenhpaaPkC4
namespace Go.Proofs.Ytlkcelmamenhpaa
open Go.ChangeShapes Go.WideShapes Go.ChangeAt Go.RowKit Go.Deep
set_option maxRecDepth 100000 in
set_option maxHeartbeats 1000000 in
theorem rwrite_any (A : Option Addr) (n c : Nat) (zs : List Int) (w : World) (hz : Rl w A n zs) : Calls Try.prog 21 #[.slice A n c] w (RetStr w (wErr zs) (wOut zs)) := by
  have hlz := hz.len
  have hmx := hz.max
  have HL := Lib.hid hlz
  have HZ := Lib.hid hz
  clear hlz hz
  obtain ⟨i0, hi0, hi1, hi2, hi3⟩ := info_parts info5
  have I0 : Hid (Try.prog.info? 5 = some i0 ∧ i0.zero = some (.int .u8 0) ∧ i0.size = 1 ∧ i0.bytes = 1) := ⟨hi0, hi1, hi2, hi3⟩
  clear hi0 hi1 hi2 hi3
  by_cases hn : 2000 < n
  · have HE : Hid (wErr zs = 7) := by show _ = _; unfold wErr; rw [HL.out, if_pos hn]
    go_enter Try.func21, Try.ntmps21
    go_wp2
    go_ret2
    exact ⟨⟨#[]⟩, retse (by rw [HE.out]; rfl), by unfold wOut; rw [HE.out]; rfl, But.refl _ _⟩
  · go_enter Try.func21, Try.ntmps21
    go_wp2
    go_loopw [4, 5] (fun u i wr => ∃ (A' : Option Addr) (n' c' : Nat) (k : Nat), u = .slice A' n' c' ∧ i = .int .i64 (k : Int) ∧ k ≤ n ∧ n' ≤ 9 * k ∧ Hid ((wrt ((zs.take k).map Int.toNat)).length = n') ∧ Hid (Oc 5 .u8 w wr (.slice A' n' c') (wrt ((zs.take k).map Int.toNat))) ∧ Hid (∀ j, j < k → good (zs.getD j 0) = true)) (fun _ i _ => n - (intOf i).toNat)
    case atStart => exact ⟨none, 0, 0, 0, rfl, rfl, by omega, by omega, rfl, Oc.nil (But.refl _ _), fun j hj => absurd hj (by omega)⟩
    case round =>
      obtain ⟨A', n', c', k, rfl, rfl, hk, hn', HN, HO, HG⟩ := hrel
      by_cases hlt : k < n
      · obtain ⟨b, off, rfl, hb, hc⟩ := (HZ.out.no HO.out.but).at_ (by omega)
        have hck := hc k hlt
        clear hc
        obtain ⟨z, hze⟩ : ∃ z, z = zs.getD k 0 := ⟨_, rfl⟩
        rw [← hze] at hck
        by_cases h0 : z < 0
        · have HE : Hid (wErr zs = 1) := wErr_bad (by rw [HL.out]; omega) (by rw [HL.out]; exact hlt) (by rw [← hze]; unfold good; simp; omega)
          clear hze
          go_wp2
          go_ret2
          exact ⟨⟨#[]⟩, retse (by rw [HE.out]; rfl), by unfold wOut; rw [HE.out]; rfl, HO.out.but⟩
        · by_cases h1 : 4611686018427387904 < z
          · have HE : Hid (wErr zs = 1) := wErr_bad (by rw [HL.out]; omega) (by rw [HL.out]; exact hlt) (by rw [← hze]; unfold good; simp; omega)
            clear hze
            go_wp2
            go_ret2
            exact ⟨⟨#[]⟩, retse (by rw [HE.out]; rfl), by unfold wOut; rw [HE.out]; rfl, HO.out.but⟩
          · obtain ⟨m, rfl⟩ : ∃ m : Nat, z = (m : Int) := ⟨z.toNat, by omega⟩
            have hm : m ≤ 4611686018427387904 := by omega
            have HW : Hid (wrt ((zs.take k).map Int.toNat) ++ enc7 m = wrt ((zs.take (k + 1)).map Int.toNat)) := wrt_take (by rw [HL.out]; exact hlt) hze.symm
            have HG' : Hid (∀ j, j < k + 1 → good (zs.getD j 0) = true) := by
              intro j hj
              by_cases e : j = k
              · subst e; rw [← hze]; unfold good; simp; omega
              · exact HG.out j (by omega)
            have h9 := enc7_len_le hm
            have HN2 : Hid ((wrt ((zs.take (k + 1)).map Int.toNat)).length = n' + (enc7 m).length) := by show _ = _; rw [← HW.out, List.length_append, HN.out]
            clear hze
            generalize wrt ((zs.take k).map Int.toNat) = ns at *
            go_wp2
            go_loopw [4, 6] (fun u x wr => ∃ (A2 : Option Addr) (n2 c2 : Nat) (ns2 : List Nat) (m2 : Nat), u = .slice A2 n2 c2 ∧ x = .int .i64 (m2 : Int) ∧ m2 ≤ 4611686018427387904 ∧ n2 ≤ 100010 ∧ Hid (ns2.length = n2) ∧ Hid (Oc 5 .u8 w wr (.slice A2 n2 c2) ns2) ∧ Hid (ns2 ++ enc7 m2 = ns ++ enc7 m)) (fun _ x _ => (intOf x).toNat)
            case atStart => exact ⟨A', n', c', ns, m, rfl, rfl, hm, by omega, HN, HO, rfl⟩
            case round =>
              obtain ⟨A2, n2, c2, ns2, m2, rfl, rfl, hm2, hn2, HL2, HO2, HE2⟩ := hrel
              have hlen : n2 + (enc7 m2).length = n' + (enc7 m).length := by
                have := congrArg List.length HE2.out
                rw [List.length_append, List.length_append, HL2.out, HN.out] at this
                exact this
              have hp := enc7_pos m2
              have ROW := Lib.hid (HO2.out.row HL2.out)
              by_cases hg : m2 < 128
              · have HQ : Hid (ns2 ++ [m2] = wrt ((zs.take (k + 1)).map Int.toNat)) := by show _ = _; rw [← HW.out, ← HE2.out, enc7_small hg]
                clear HE2
                have hge : decide ((128 : Int) ≤ (m2 : Int)) = false := by simp; omega
                have hx : (m2 : Int) % 256 = (m2 : Int) := by omega
                go_wp2_with (at_builtin; refine wpList_append_sh _ rfl _ _ 69 rfl 5 i0 _ 1 1 Try.underlying69 I0.out.1 I0.out.2.1 I0.out.2.2.1 I0.out.2.2.2 rfl (by omega) (.slice A2 n2 c2) n2 _ rfl (ROW.out.alloc _) (wr.heap.size + 1) (some ⟨wr.heap.size, 0, none⟩) 1 1 [.int .u8 (m2 : Int)] rfl (one_reads8 wr 5 .u8 _) (one_cell8 .u8 _) (by unfold maxLen; omega) (by omega) ?_; intro A3 c3 w3 hown hgrow hat; have HF := Lib.hid (HO2.out.app HL2.out m2 _ hown hgrow hat); clear hown hgrow hat)
                go_roundw
                case rel => exact ⟨A3, n2 + 1, c3, k + 1, rfl, by go_num, by omega, by (have := HN2.out; rw [← HQ.out, List.length_append, HL2.out] at this; simp at this; omega), by show _ = _; rw [← HQ.out, List.length_append, HL2.out]; rfl, by rw [← HQ.out]; exact HF, HG'⟩
                case measure => simp [intOf]; omega
              · have hx : (m2 : Int) % 128 = ((m2 % 128 : Nat) : Int) := by omega
                have HQ : Hid ((ns2 ++ [128 + m2 % 128]) ++ enc7 (m2 / 128) = ns ++ enc7 m) := by show _ = _; rw [← HE2.out, enc7_great hg, List.append_assoc]; rfl
                clear HE2
                have hge : decide ((128 : Int) ≤ (m2 : Int)) = true := by simp; omega
                have hr : m2 % 128 < 128 := by omega
                generalize m2 % 128 = y at *
                have hy : (128 : Int) + (y : Int) = ((128 + y : Nat) : Int) := by omega
                have hy2 : ((128 + y : Nat) : Int) % 256 = ((128 + y : Nat) : Int) := by omega
                have hy3 : 128 + y < 256 := by omega
                generalize 128 + y = q at *
                go_wp2_with (at_builtin; refine wpList_append_sh _ rfl _ _ 69 rfl 5 i0 _ 1 1 Try.underlying69 I0.out.1 I0.out.2.1 I0.out.2.2.1 I0.out.2.2.2 rfl (by omega) (.slice A2 n2 c2) n2 _ rfl (ROW.out.alloc _) (wr.heap.size + 1) (some ⟨wr.heap.size, 0, none⟩) 1 1 [.int .u8 (q : Int)] rfl (one_reads8 wr 5 .u8 _) (one_cell8 .u8 _) (by unfold maxLen; omega) (by omega) ?_; intro A3 c3 w3 hown hgrow hat; have HF := Lib.hid (HO2.out.app HL2.out q _ hown hgrow hat); clear hown hgrow hat)
                go_roundw
                case rel => exact ⟨A3, n2 + 1, c3, ns2 ++ [q], m2 / 128, rfl, by go_num, by omega, by omega, by show _ = _; rw [List.length_append, HL2.out]; rfl, HF, HQ⟩
                case measure => simp [intOf]; omega
      · obtain rfl : k = n := by omega
        have HT : Hid (zs.take k = zs) := List.take_of_length_le (by rw [HL.out]; exact Nat.le_refl _)
        have HE : Hid (wErr zs = 0) := wErr_good (by rw [HL.out]; omega) (by rw [HL.out]; exact HG.out)
        have HC := conv_row HO.out HN.out
        have HT2 : Hid (nl (bl (wrt ((zs.take k).map Int.toNat))) = wOut zs) := by show _ = _; rw [nl_bl (wrt_lt _), HT.out]; unfold wOut; rw [HE.out]; rfl
        generalize bl (wrt ((zs.take k).map Int.toNat)) = t at *
        go_wp2
        go_ret2
        exact ⟨t, retse (by rw [HE.out]; rfl), HT2.out, HO.out.but⟩
end Go.Proofs.Ytlkcelmamenhpaa
