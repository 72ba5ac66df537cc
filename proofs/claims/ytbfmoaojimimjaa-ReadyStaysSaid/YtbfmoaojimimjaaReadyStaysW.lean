/- ReadyStays: the walk. -/
import Derived.Test.YtbfmoaojimimjaaO
namespace Go.Proofs.Ytbfmoaojimimjaa.readyStays
open Go.ChangeShapes Go.WideShapes Go.ChangeAt Go.RowKit Go.Deep Go.Proofs.Ytbfmoaojimimjaa
set_option maxHeartbeats 4000000 in
set_option maxRecDepth 100000 in
theorem walk (A : Option Addr) (n c : Nat) (zs : List Int) (_ : n ≤ c) (x : Int) (hx : (Lit.int .i64 x).wf = true) (l : Int) (hl : (Lit.int .i64 l).wf = true) (w : World) (hd : Rd w A n zs) :
    Calls Try.prog 6 #[.slice A n c, .int .i64 x, .int .i64 l] w fun e w' => e = .returned (.bool true) ∧ But No w w' := by
  have HX := Lib.hid (inR_of hx)
  have HL := Lib.hid (inR_of hl)
  have HD := Lib.hid hd
  have hmx := hd.max
  clear hd hx hl
  obtain ⟨i0, hi0, hi1, hi2, hi3⟩ := info_parts info3
  have I0 : Hid (Try.prog.info? 3 = some i0 ∧ i0.zero = some (.int .i64 0) ∧ i0.size = 1 ∧ i0.bytes = 8) := ⟨hi0, hi1, hi2, hi3⟩
  clear hi0 hi1 hi2 hi3
  obtain ⟨m, hmin, hm0, hm1, hm2⟩ : ∃ m : Nat, (if (24 : Int) < (n : Int) then (24 : Int) else (n : Int)) = (m : Int) ∧ m ≤ 24 ∧ m ≤ n ∧ (m = 0 → n = 0) := by
    by_cases h : (24 : Int) < (n : Int)
    · exact ⟨24, by rw [if_pos h]; rfl, by omega, by omega, by omega⟩
    · exact ⟨n, by rw [if_neg h], by omega, by omega, by omega⟩
  obtain ⟨v, hv⟩ : ∃ v : Nat → Int, v = fun i => pk (zs.getD i 0) 9 := ⟨_, rfl⟩
  have HV : Hid (∀ i, v i = pk (zs.getD i 0) 9) := by rw [hv]; exact fun i => rfl
  have HVR : Hid (∀ i, 0 ≤ v i ∧ v i ≤ big) := fun i => by rw [HV.out i]; have := pk_lt (zs.getD i 0) 9 (by omega); unfold big; omega
  clear hv
  go_enter Try.func6, Try.ntmps6
  go_wp2_with fail
  refine (examples_any w).mono ?_
  rintro e w1 ⟨rfl, hb1⟩
  go_wp2_with fail
  refine (new_any 1 w1 (.inl rfl)).mono ?_
  rintro e w2 ⟨q, S, rfl, h1, hb, hs⟩
  have H1 := Lib.hid (Hw.made h1 hb1 hb hs)
  clear h1 hb hs hb1
  by_cases m0 : m = 0
  · have hm3 : ((m : Int) == 0) = true := by simp [m0]
    go_wp2_with (go_at_call 24; ((with_reducible refine (first_any q 1 0 [] S _ H1.out.qp).mono ?_); rintro e w3 ⟨rfl, hb⟩; have H2 := Lib.hid (H1.out.no hb); clear hb))
    go_ret
    exact ⟨rfl, H2.out.but⟩
  have hm3 : ((m : Int) == 0) = false := by simp [m0]
  go_wp2_with fail
  go_loopw [11] (fun i wr => ∃ (k : Nat) (S' : Nat → Prop), i = .int .i64 (k : Int) ∧ k ≤ m ∧ Hid (Hw w wr S' q 1 k (fill v k))) (fun i _ => m - (intOf i).toNat)
  case atStart => exact ⟨0, S, rfl, by omega, H1⟩
  case round =>
    clear H1
    obtain ⟨k, S', rfl, hk, HW⟩ := hrel
    by_cases hlt : k < m
    · obtain ⟨b, off, rfl, hb, hc⟩ := (HD.out.no HW.out.but).at_ (by omega)
      have hck := hc k (by omega)
      have kn : (k : Int) < (m : Int) := by omega
      have kn2 : (k : Int) < (n : Int) := by omega
      have FZ := Lib.hid (HD.out.fit k)
      have HVK := Lib.hid (HV.out k)
      clear hc
      generalize zs.getD k 0 = z at hck FZ HVK
      go_wp2_with (first | (go_at_call 10; ((with_reducible refine (pick_any z 9 _ FZ.out (by omega) (by omega)).mono ?_); rintro e w3 ⟨rfl, rfl⟩)) | (go_at_call 11; ((with_reducible refine (add_any q 1 k _ S' _ k (pk z 9) HW.out.qp (by omega)).mono ?_); rintro e w3 ⟨rfl, hm⟩; obtain ⟨S2, hs2⟩ := HW.out.step hm; have H2 := Lib.hid hs2; clear hm hs2)))
      go_roundw
      case rel => exact ⟨k + 1, S2, by go_num, by omega, fill_next HVK.out H2.out⟩
      case measure => simp [intOf]; omega
    · obtain rfl : k = m := by omega
      have HF := Lib.hid (fill_mem v k hm0 HVR.out)
      have HN := Lib.hid (fill_len (v := v) hm0 HVR.out)
      clear HV HVR HD hlt
      generalize fill v k = L at *
      have HT0 := Lib.hid (pk_lt x (k : Int) (by omega))
      go_wp2_with (first | (go_at_call 10; ((with_reducible refine (pick_any x (k : Int) _ HX.out (by omega) (by omega)).mono ?_); rintro e w3 ⟨rfl, rfl⟩)))
      generalize pk x (k : Int) = t at *
      have HTR : Hid (inR t) := by have := HT0.out; show inR _; unfold inR; omega
      refine (all_any q 1 k L S' _ HW.out.qp).mono ?_
      rintro e w5 ⟨b1, rfl, hbk, hb, hlt⟩
      rw [HN.out]
      have H5 := Lib.hid (HW.out.no hb)
      obtain ⟨z1, hz1⟩ : ∃ z1, z1 = L.map E.t := ⟨_, rfl⟩
      rw [← hz1] at hbk
      have HZ1 : Hid (Blk w5 b1 (z1.map (Value.int .i64)).toArray 3 ∧ z1.length = k) := ⟨hbk, by rw [hz1, List.length_map, HN.out]⟩
      have HE1 := Lib.hid hz1
      clear hbk hb hlt hz1 HW
      go_wp2_with fail
      go_loopw [13, 15] (fun u i wr => ∃ (Ar : Option Addr) (nr cr j : Nat) (rs : List Int), u = .slice Ar nr cr ∧ i = .int .i64 (j : Int) ∧ j ≤ k ∧ nr ≤ j ∧ Hid (rs.length = nr) ∧ Hid (Oz w5 wr (.slice Ar nr cr) rs) ∧ Hid (rs = oth t (z1.take j))) (fun _ i _ => k - (intOf i).toNat)
      case atStart => exact ⟨none, 0, 0, 0, [], rfl, rfl, by omega, by omega, rfl, Oz.nil (But.refl _ _), rfl⟩
      case round =>
        obtain ⟨Ar, nr, cr, j, rs, rfl, rfl, hj, hnj, HLY, HO, HY⟩ := hrel
        by_cases hlt : j < k
        · have hck := blk_at (HZ1.out.1.but HO.out.but (fun f => f)) (k := j) (by rw [HZ1.out.2]; exact hlt)
          have kn : (j : Int) < (k : Int) := by omega
          have HT := Lib.hid (take_snoc (zs := z1) (k := j) (by rw [HZ1.out.2]; exact hlt))
          generalize z1.getD j 0 = z at hck HT
          by_cases hzt : z = t
          · subst hzt
            have HY2 : Hid (rs = oth z (z1.take (j + 1))) := by show _ = _; rw [HT.out, oth_snoc_eq]; exact HY.out
            clear HT HY
            go_wp2_with fail
            go_roundw
            case rel => exact ⟨Ar, nr, cr, j + 1, rs, rfl, by go_num, by omega, by omega, HLY, HO, HY2⟩
            case measure => simp [intOf]; omega
          · have hb : (z != t) = true := by simp [hzt]
            have HY2 : Hid (rs ++ [z] = oth t (z1.take (j + 1))) := by show _ = _; rw [HT.out, oth_snoc_ne hzt, ← HY.out]
            clear HT HY hzt
            go_wp2_with (at_builtin; refine wpList_append_sh _ rfl _ _ 39 rfl 3 i0 _ 1 8 Try.underlying39 I0.out.1 I0.out.2.1 I0.out.2.2.1 I0.out.2.2.2 rfl (by omega) (.slice Ar nr cr) nr _ rfl (HO.out.row HLY.out ((But.refl _ _).alloc _)) (wr.heap.size + 1) (some ⟨wr.heap.size, 0, none⟩) 1 1 [.int .i64 z] rfl (one_reads wr z) (one_cell z) (by unfold maxLen; omega) (by omega) ?_; intro A3 c3 w3 hown hgrow hat; have HF := Lib.hid (HO.out.app HLY.out ((But.refl _ _).alloc _) (ys := [z]) rfl hown rfl hgrow hat); clear hown hgrow hat)
            go_roundw
            case rel => exact ⟨A3, nr + 1, c3, j + 1, rs ++ [z], rfl, by go_num, by omega, by omega, by show _ = _; rw [List.length_append, HLY.out]; rfl, HF, HY2⟩
            case measure => simp [intOf]; omega
        · have ejk : k = j := by omega
          subst ejk
          have HR : Hid (rs = oth t z1) := by
            have := HY.out
            rw [List.take_of_length_le (by rw [HZ1.out.2]; exact Nat.le_refl _)] at this
            exact this
          have HA := Lib.hid (ap_of H5.out HO.out)
          have H6 := Lib.hid (H5.out.no HO.out.but)
          clear HY HZ1 H5 HO hlt
          have HLYr := HLY
          go_wp2_with (first | (go_at_call 10; ((with_reducible refine (pick_any l 9 _ HL.out (by omega) (by omega)).mono ?_); rintro e w6 ⟨rfl, rfl⟩)))
          refine (raise_any q 1 k L S' _ t (pk l 9) H6.out.qp (by omega)).mono ?_
          rintro e w7 ⟨rfl, hm⟩
          obtain ⟨S7, hs7, ha7⟩ := ap_step H6.out HA.out hm
          have H7 := Lib.hid hs7
          have A7 := Lib.hid ha7
          clear hm hs7 ha7 H6 HA
          go_wp2_with fail
          obtain ⟨z2, hz2⟩ : ∃ z2, z2 = (raiL 1 L t (pk l 9)).map E.t := ⟨_, rfl⟩
          obtain ⟨m2, hm2, hm24⟩ : ∃ m2, m2 = (raiL 1 L t (pk l 9)).length ∧ m2 ≤ 24 := ⟨_, rfl, H7.out.qp.ok.len⟩
          refine (all_any q 1 _ _ S7 _ H7.out.qp).mono ?_
          rintro e w8 ⟨b2, rfl, hbk, hb, hlt⟩
          rw [← hm2]
          have H8 := Lib.hid (H7.out.no hb)
          have A8 := Lib.hid (A7.out.stay hb)
          rw [← hz2] at hbk
          have HZ2 : Hid (Blk w8 b2 (z2.map (Value.int .i64)).toArray 3 ∧ z2.length = m2) := ⟨hbk, by rw [hz2, List.length_map, hm2]⟩
          have HE2 := Lib.hid hz2
          clear hbk hb hlt hz2 H7 A7 hm2
          have hj24 : k ≤ 24 := hm0
          go_wp2_with fail
          go_loopw [16, 17] (fun u i wr => ∃ (A' : Option Addr) (n' c' j : Nat) (ys : List Int), u = .slice A' n' c' ∧ i = .int .i64 (j : Int) ∧ j ≤ m2 ∧ n' ≤ j ∧ Hid (ys.length = n') ∧ Hid (Oz w8 wr (.slice A' n' c') ys) ∧ Hid (ys = oth t (z2.take j))) (fun _ i _ => m2 - (intOf i).toNat)
          case atStart => exact ⟨none, 0, 0, 0, [], rfl, rfl, by omega, by omega, rfl, Oz.nil (But.refl _ _), rfl⟩
          case round =>
            obtain ⟨A', n', c', j, ys, rfl, rfl, hj, hnj, HLY, HO, HY⟩ := hrel
            by_cases hlt : j < m2
            · have hck := blk_at (HZ2.out.1.but HO.out.but (fun f => f)) (k := j) (by rw [HZ2.out.2]; exact hlt)
              have kn : (j : Int) < (m2 : Int) := by omega
              have HT := Lib.hid (take_snoc (zs := z2) (k := j) (by rw [HZ2.out.2]; exact hlt))
              generalize z2.getD j 0 = z at hck HT
              by_cases hzt : z = t
              · subst hzt
                have HY2 : Hid (ys = oth z (z2.take (j + 1))) := by show _ = _; rw [HT.out, oth_snoc_eq]; exact HY.out
                clear HT HY
                go_wp2_with fail
                go_roundw
                case rel => exact ⟨A', n', c', j + 1, ys, rfl, by go_num, by omega, by omega, HLY, HO, HY2⟩
                case measure => simp [intOf]; omega
              · have hb : (z != t) = true := by simp [hzt]
                have HY2 : Hid (ys ++ [z] = oth t (z2.take (j + 1))) := by show _ = _; rw [HT.out, oth_snoc_ne hzt, ← HY.out]
                clear HT HY hzt
                go_wp2_with (at_builtin; refine wpList_append_sh _ rfl _ _ 39 rfl 3 i0 _ 1 8 Try.underlying39 I0.out.1 I0.out.2.1 I0.out.2.2.1 I0.out.2.2.2 rfl (by omega) (.slice A' n' c') n' _ rfl (HO.out.row HLY.out ((But.refl _ _).alloc _)) (wr.heap.size + 1) (some ⟨wr.heap.size, 0, none⟩) 1 1 [.int .i64 z] rfl (one_reads wr z) (one_cell z) (by unfold maxLen; omega) (by omega) ?_; intro A3 c3 w3 hown hgrow hat; have HF := Lib.hid (HO.out.app HLY.out ((But.refl _ _).alloc _) (ys := [z]) rfl hown rfl hgrow hat); clear hown hgrow hat)
                go_roundw
                case rel => exact ⟨A3, n' + 1, c3, j + 1, ys ++ [z], rfl, by go_num, by omega, by omega, by show _ = _; rw [List.length_append, HLY.out]; rfl, HF, HY2⟩
                case measure => simp [intOf]; omega
            · have ejm : m2 = j := by omega
              subst ejm
              have HR2 : Hid (ys = oth t z2) := by
                have := HY.out
                rw [List.take_of_length_le (by rw [HZ2.out.2]; exact Nat.le_refl _)] at this
                exact this
              have A9 := Lib.hid (A8.out.stay HO.out.but)
              have H9 := Lib.hid (H8.out.no HO.out.but)
              have RR := Lib.hid ((A9.out.own).rl (by rw [HLYr.out]; omega)).1
              have RY := Lib.hid (HO.out.own.rl (by rw [HLY.out]; omega)).1
              have EQ : Hid (rs = ys) := by
                show _ = _
                rw [HR.out, HE1.out, oth_all HF.out.1, HR2.out, HE2.out, oth_rai HF.out.1]
              have CN := Lib.hid (numbers_any Ar A' nr n' cr c' rs ys wr RR.out RY.out)
              rw [decide_eq_true EQ.out] at CN
              clear RR RY A8 H8 HY HZ2 hlt
              go_wp2_with fail
              refine CN.out.mono ?_
              rintro e w10 ⟨rfl, hb10⟩
              have H10 := Lib.hid (H9.out.no hb10)
              have A10 := Lib.hid (A9.out.stay hb10)
              clear hb10 H9 A9 CN HO
              go_wp2_with fail
              refine (remove_any q 1 _ _ S7 _ t HTR.out H10.out.qp).mono ?_
              rintro e w11 ⟨rfl, hm⟩
              obtain ⟨S11, hs11, ha11⟩ := ap_step H10.out A10.out hm
              have H11 := Lib.hid hs11
              have A11 := Lib.hid ha11
              clear hm hs11 ha11 H10 A10
              have hm3 := H11.out.qp.ok.len
              have CA := Lib.hid (all_any q 1 _ _ S11 _ H11.out.qp)
              have E3 : Hid (rs = (delE t (raiL 1 L t (pk l 9))).map E.t) := by
                show _ = _
                rw [HR.out, HE1.out, oth_all HF.out.1, del_rai HF.out.1]
              obtain ⟨L3, hL3⟩ : ∃ L3, L3 = delE t (raiL 1 L t (pk l 9)) := ⟨_, rfl⟩
              rw [← hL3] at CA E3 hm3
              clear hL3
              have CF : Hid (∀ w12 b3, Blk w12 b3 ((L3.map E.t).map (Value.int .i64)).toArray 3 → But No w11 w12 → Calls Try.prog 21 #[.slice Ar nr cr, .slice (some ⟨b3, 0, none⟩) L3.length L3.length] w12 fun e w' => e = .returned (.bool true) ∧ But No w12 w') := by
                intro w12 b3 hb3 hb
                have r1 := ((A11.out.stay hb).own.rl (by rw [HLYr.out]; omega)).1
                have r2 := blk_rl hb3 (by rw [List.length_map]; omega)
                rw [List.length_map] at r2
                have := numbers_any Ar (some ⟨b3, 0, none⟩) nr L3.length cr L3.length rs (L3.map E.t) w12 r1 r2
                rw [decide_eq_true E3.out] at this
                exact this
              go_wp2_with (first | (go_at_call 22; ((with_reducible refine CA.out.mono ?_); rintro e w12 ⟨b3, rfl, hbk, hb, hlt⟩; have HB12 := Lib.hid hb; have CF2 := Lib.hid (CF.out _ _ hbk hb); clear hbk hb hlt)) | (go_at_call 21; ((with_reducible refine CF2.out.mono ?_); rintro e w13 ⟨rfl, hb13⟩; have HB13 := Lib.hid hb13; clear hb13)))
              go_ret
              exact ⟨rfl, (H11.out.but.trans HB12.out).trans HB13.out⟩
end Go.Proofs.Ytbfmoaojimimjaa.readyStays
