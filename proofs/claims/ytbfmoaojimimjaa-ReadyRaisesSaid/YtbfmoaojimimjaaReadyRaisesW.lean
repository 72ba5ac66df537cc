/- ReadyRaises: the walk. -/
import Derived.Test.YtbfmoaojimimjaaO
namespace Go.Proofs.Ytbfmoaojimimjaa.readyRaises
open Go.ChangeShapes Go.WideShapes Go.ChangeAt Go.RowKit Go.Deep Go.Proofs.Ytbfmoaojimimjaa
set_option maxHeartbeats 4000000 in
set_option maxRecDepth 100000 in
theorem walk (A : Option Addr) (n c : Nat) (zs : List Int) (_ : n ≤ c) (x : Int) (hx : (Lit.int .i64 x).wf = true) (l : Int) (hl : (Lit.int .i64 l).wf = true) (w : World) (hd : Rd w A n zs) :
    Calls Try.prog 4 #[.slice A n c, .int .i64 x, .int .i64 l] w fun e w' => e = .returned (.bool true) ∧ But No w w' := by
  have HX := Lib.hid (inR_of hx)
  have HL := Lib.hid (inR_of hl)
  have HD := Lib.hid hd
  have hmx := hd.max
  clear hd hx hl
  by_cases n0 : n = 0
  · have hn3 : ((n : Int) == 0) = true := by simp [n0]
    go_enter Try.func4, Try.ntmps4
    go_wp2_with fail
    refine (examples_any w).mono ?_
    rintro e w1 ⟨rfl, hb1⟩
    go_wp2_with fail
    refine (new_any 1 w1 (.inl rfl)).mono ?_
    rintro e w2 ⟨q, S, rfl, h1, hb, hs⟩
    have H1 := Lib.hid (Hw.made h1 hb1 hb hs)
    clear h1 hb hs hb1
    go_wp2
    go_ret
    exact ⟨rfl, H1.out.but⟩
  have hn3 : ((n : Int) == 0) = false := by simp [n0]
  obtain ⟨m, hmin, hm0, hm1, hm2⟩ : ∃ m : Nat, (if (24 : Int) < (n : Int) then (24 : Int) else (n : Int)) = (m : Int) ∧ m ≤ 24 ∧ m ≤ n ∧ (m = 0 → n = 0) := by
    by_cases h : (24 : Int) < (n : Int)
    · exact ⟨24, by rw [if_pos h]; rfl, by omega, by omega, by omega⟩
    · exact ⟨n, by rw [if_neg h], by omega, by omega, by omega⟩
  obtain ⟨v, hv⟩ : ∃ v : Nat → Int, v = fun i => pk (zs.getD i 0) 6 := ⟨_, rfl⟩
  have HV : Hid (∀ i, v i = pk (zs.getD i 0) 6) := by rw [hv]; exact fun i => rfl
  have HVR : Hid (∀ i, 0 ≤ v i ∧ v i ≤ big) := fun i => by rw [HV.out i]; have := pk_lt (zs.getD i 0) 6 (by omega); unfold big; omega
  clear hv
  go_enter Try.func4, Try.ntmps4
  go_wp2_with fail
  refine (examples_any w).mono ?_
  rintro e w1 ⟨rfl, hb1⟩
  go_wp2_with fail
  refine (new_any 1 w1 (.inl rfl)).mono ?_
  rintro e w2 ⟨q, S, rfl, h1, hb, hs⟩
  have H1 := Lib.hid (Hw.made h1 hb1 hb hs)
  clear h1 hb hs hb1
  go_wp2_with fail
  go_loopw [11] (fun i wr => ∃ (k : Nat) (S' : Nat → Prop), i = .int .i64 (k : Int) ∧ k ≤ m ∧ Hid (Hw w wr S' q 1 k (fill v k))) (fun i _ => m - (intOf i).toNat)
  case atStart => exact ⟨0, S, rfl, by omega, H1⟩
  case round =>
    clear H1
    obtain ⟨k, S', rfl, hk, HW⟩ := hrel
    by_cases hlt : k < m
    · obtain ⟨b, off, rfl, hb, hc⟩ := (HD.out.no HW.out.but).at_ (by omega)
      have hck := hc k (by omega)
      have kn : (k : Int) < (m : Int) := by omega
      have kn2 : (k : Int) < (n : Int) := by omega
      have FZ := Lib.hid (HD.out.fit k)
      have HVK := Lib.hid (HV.out k)
      clear hc
      generalize zs.getD k 0 = z at hck FZ HVK
      go_wp2_with (first | (go_at_call 10; ((with_reducible refine (pick_any z 6 _ FZ.out (by omega) (by omega)).mono ?_); rintro e w3 ⟨rfl, rfl⟩)) | (go_at_call 11; ((with_reducible refine (add_any q 1 k _ S' _ k (pk z 6) HW.out.qp (by omega)).mono ?_); rintro e w3 ⟨rfl, hm⟩; obtain ⟨S2, hs2⟩ := HW.out.step hm; have H2 := Lib.hid hs2; clear hm hs2)))
      go_roundw
      case rel => exact ⟨k + 1, S2, by go_num, by omega, fill_next HVK.out H2.out⟩
      case measure => simp [intOf]; omega
    · have ekm : m = k := by omega
      subst ekm
      have HF := Lib.hid (fill_mem v m hm0 HVR.out)
      have HN := Lib.hid (fill_len (v := v) hm0 HVR.out)
      clear hlt
      generalize fill v m = L at *
      have HT0 := Lib.hid (pk_lt x (m : Int) (by omega))
      have HT1 := Lib.hid (pk_lt l 6 (by omega))
      go_wp2_with (first | (go_at_call 10; ((with_reducible refine (pick_any x (m : Int) _ HX.out (by omega) (by omega)).mono ?_); rintro e w3 ⟨rfl, rfl⟩)))
      refine (pick_any l 6 _ HL.out (by omega) (by omega)).mono ?_
      rintro e w3 ⟨rfl, rfl⟩
      generalize pk x (m : Int) = t at *
      generalize pk l 6 = tl at *
      have HTR : Hid (inR t) := by have := HT0.out; show inR _; unfold inR; omega
      have HTL : Hid (levB tl = true) := levB_iff.2 (by have := HT1.out; unfold big; omega)
      have HTH : Hid (hasT t L = true) := by
        show _ = _
        have := HT0.out
        refine hasT_of ((HF.out.2 ⟨t, v t.toNat, none⟩).2 ⟨t.toNat, by omega, ?_⟩) rfl
        have e : ((t.toNat : Nat) : Int) = t := by omega
        rw [e]
      have HU : Hid (∀ e ∈ L, e.up = none) := fun e he => by obtain ⟨i, _, rfl⟩ := (HF.out.2 e).1 he; rfl
      go_wp2_with fail
      refine (all_any q 1 m L S' _ HW.out.qp).mono ?_
      rintro e w5 ⟨b1, rfl, hbk, hb, hlt⟩
      rw [HN.out]
      have H5 := Lib.hid (HW.out.no hb)
      have B5 := Lib.hid (bk_of HW.out hbk hlt)
      clear hbk hb hlt HW
      have CR := Lib.hid (raise_any q 1 m L S' w5 t tl H5.out.qp (by omega))
      obtain ⟨hr0, hr1, hr2⟩ := rai_mem HF.out.1 HTH.out HTL.out
      rw [hr0] at CR
      have HL2 : Hid ((raiL 1 L t tl).length = m) := by show _ = _; rw [hr2, HN.out]
      clear hr0 hr1 hr2
      go_wp2_with fail
      refine CR.out.mono ?_
      rintro e w6 ⟨rfl, hm⟩
      obtain ⟨S6, hs6, ha6⟩ := bk_step H5.out B5.out hm
      have H6 := Lib.hid hs6
      have B6 := Lib.hid ha6
      clear hm hs6 ha6 H5 B5 CR
      go_wp2_with fail
      refine (all_any q 1 _ _ S6 _ H6.out.qp).mono ?_
      rintro e w7 ⟨b2, rfl, hbk, hb, hlt⟩
      rw [HL2.out]
      have H7 := Lib.hid (H6.out.no hb)
      have B7 := Lib.hid (B6.out.stay hb)
      have Z7 := Lib.hid (bk_of H6.out hbk hlt)
      clear hbk hb hlt H6 B6
      go_wp2_with fail
      go_loopw [14, 15] (fun u i wr => ∃ (ah : Bool) (j : Nat), u = .bool ah ∧ i = .int .i64 (j : Int) ∧ j ≤ m ∧ Hid (ah = true ↔ t ∉ ((raiL 1 L t tl).map E.t).take j) ∧ Hid (But No w7 wr)) (fun _ i _ => m - (intOf i).toNat)
      case atStart => exact ⟨true, 0, rfl, rfl, by omega, (⟨fun _ h => (List.not_mem_nil h).elim, fun _ => rfl⟩ : _ ↔ _), But.refl _ _⟩
      case round =>
        obtain ⟨ah, j, rfl, rfl, hj, HA, HB⟩ := hrel
        by_cases hlt : j < m
        · have hck := blk_at (Z7.out.blk.but HB.out (fun f => f)) (k := j) (by rw [List.length_map, HL2.out]; exact hlt)
          have jn : (j : Int) < (m : Int) := by omega
          obtain ⟨e, he⟩ : ∃ e, (raiL 1 L t tl)[j]? = some e := ⟨_, List.getElem?_eq_getElem (by rw [HL2.out]; exact hlt)⟩
          have hz : ((raiL 1 L t tl).map E.t).getD j 0 = e.t := by simp [List.getD, he]
          have hsn := take_snoc (zs := (raiL 1 L t tl).map E.t) (k := j) (by rw [List.length_map, HL2.out]; exact hlt)
          rw [hz] at hck hsn
          by_cases et : e.t = t
          · have HA2 : Hid (false = true ↔ t ∉ ((raiL 1 L t tl).map E.t).take (j + 1)) := by
              show _ ↔ _
              rw [hsn, et]; simp
            rw [et] at hck
            clear hsn hz he HA
            have eb : (t == t) = true := by simp
            go_wp2_with fail
            go_roundw
            case rel => exact ⟨false, j + 1, rfl, by go_num, by omega, HA2, HB⟩
            case measure => simp [intOf]; omega
          · obtain ⟨heL, hlo, hhi⟩ := rai_ahead HF.out.1 HTH.out HTL.out HU.out he et
            obtain ⟨i, hi, hei⟩ := (HF.out.2 e).1 heL
            have het : e.t = (i : Int) := by rw [hei]
            have heo : e.own = v i := by rw [hei]
            have HA2 : Hid (ah = true ↔ t ∉ ((raiL 1 L t tl).map E.t).take (j + 1)) := by
              show _ ↔ _
              rw [hsn, HA.out, List.mem_append]
              have : t ∉ [e.t] := by simp; exact fun h => et h.symm
              simp [this]
            rw [het] at hck
            have eb : ((i : Int) == t) = false := by rw [← het]; simp [et]
            obtain ⟨b, off, rfl, hb, hc⟩ := (HD.out.no (H7.out.but.trans HB.out)).at_ (by omega)
            have hci := hc i (by omega)
            have iN : (i : Int) < (n : Int) := by omega
            have FZ := Lib.hid (HD.out.fit i)
            have HVK := HV.out i
            rw [heo] at hlo hhi
            rw [HVK] at hlo hhi
            have HLO := Lib.hid hlo
            have HHI := Lib.hid hhi
            clear hc hlo hhi hsn hz he hei het heo et HVK heL
            generalize zs.getD i 0 = z at hci FZ HLO HHI
            generalize hp : pk z 6 = o at HLO HHI
            have CPk := Lib.hid (pick_any z 6 wr FZ.out (by omega) (by omega))
            rw [hp] at CPk
            clear hp
            cases ah with
            | true =>
              have h1 : decide (tl ≤ o) = false := by have := HLO.out (HA.out.1 rfl); simp; omega
              go_wp2_with (first | (go_at_call 10; ((with_reducible refine CPk.out.mono ?_); rintro e w3 ⟨rfl, rfl⟩)))
              go_roundw
              case rel => exact ⟨true, j + 1, rfl, by go_num, by omega, (by have := HA2.out; show _ ↔ _; simpa using this), HB⟩
              case measure => simp [intOf]; omega
            | false =>
              have h1 : decide (o < tl) = false := by
                have hin : t ∈ ((raiL 1 L t tl).map E.t).take j := Classical.byContradiction (fun g => by have := HA.out.2 g; cases this)
                have := HHI.out hin; simp; omega
              go_wp2_with (first | (go_at_call 10; ((with_reducible refine CPk.out.mono ?_); rintro e w3 ⟨rfl, rfl⟩)))
              go_roundw
              case rel => exact ⟨false, j + 1, rfl, by go_num, by omega, HA2, HB⟩
              case measure => simp [intOf]; omega
        · have ejm : m = j := by omega
          subst ejm
          obtain ⟨hv1, hv2, hv3⟩ := rai_lev HF.out.1 HTH.out HTL.out
          have hah : ah = false := by
            cases ah with
            | false => rfl
            | true =>
              obtain ⟨e, he, het⟩ := hasT_true hv2
              have := HA.out.1 rfl
              rw [List.take_of_length_le (by rw [List.length_map, HL2.out]; exact Nat.le_refl _)] at this
              exact absurd (List.mem_map.2 ⟨e, he, het⟩) this
          subst hah
          have H8 := Lib.hid (H7.out.no HB.out)
          have B8 := Lib.hid (B7.out.stay HB.out)
          have CL := Lib.hid (level_any q 1 _ _ S6 wr t HTR.out H8.out.qp)
          rw [hv1, hv2] at CL
          have HFR := Lib.hid (fal_rai HF.out.1 HTH.out HTL.out HU.out)
          have HFN : Hid (∀ W (hb : But No wr W), Calls Try.prog 15 #[.pointer (some ⟨q, 0, none⟩), .int .i64 t] W fun r w' => ∃ k, r = .returned (.int .i64 k) ∧ QMv W S6 q 1 (m + 1 + 1) L w') := by
            intro W hb
            have := fall_any q 1 _ _ S6 W t HTR.out (H8.out.no hb).qp (by omega)
            rw [HFR.out] at this
            exact this.mono fun _ _ h => ⟨_, h.1, h.2⟩
          clear hv1 hv2 hv3 HA HB H7 B7 hlt Z7
          go_wp2_with fail
          refine CL.out.mono ?_
          rintro e w9 ⟨rfl, hb9⟩
          have HB9 := Lib.hid hb9
          clear hb9 CL
          go_wp2_with fail
          refine (HFN.out w9 HB9.out).mono ?_
          rintro e w10 ⟨kk, rfl, hm⟩
          obtain ⟨S10, hs10, ha10⟩ := bk_step (H8.out.no HB9.out) (B8.out.stay HB9.out) hm
          have H10 := Lib.hid hs10
          have B10 := Lib.hid ha10
          clear hm hs10 ha10 H8 B8 HFN
          have CA := Lib.hid (all_any q 1 _ _ S10 _ H10.out.qp)
          have CF : Hid (∀ w12 b3, Blk w12 b3 ((L.map E.t).map (Value.int .i64)).toArray 3 → But No w10 w12 → Calls Try.prog 21 #[.slice (some ⟨b1, 0, none⟩) m m, .slice (some ⟨b3, 0, none⟩) m m] w12 fun e w' => e = .returned (.bool true) ∧ But No w12 w') := by
            intro w12 b3 hb3 hb
            have r1 := blk_rl (B10.out.stay hb).blk (by rw [List.length_map, HN.out]; omega)
            have r2 := blk_rl hb3 (by rw [List.length_map, HN.out]; omega)
            rw [List.length_map, HN.out] at r1 r2
            have := numbers_any (some ⟨b1, 0, none⟩) (some ⟨b3, 0, none⟩) m m m m (L.map E.t) (L.map E.t) w12 r1 r2
            rw [decide_eq_true rfl] at this
            exact this
          have e1 : (tl == tl) = true := by simp
          have e2 : ((m : Int) == (m : Int)) = true := by simp
          go_wp2_with (first | (go_at_call 22; ((with_reducible refine CA.out.mono ?_); rintro e w12 ⟨b3, rfl, hbk, hb, hlt⟩; rw [HN.out]; have HB12 := Lib.hid hb; have CF2 := Lib.hid (CF.out _ _ hbk hb); clear hbk hb hlt)) | (go_at_call 21; ((with_reducible refine CF2.out.mono ?_); rintro e w13 ⟨rfl, hb13⟩; have HB13 := Lib.hid hb13; clear hb13)))
          go_ret
          exact ⟨rfl, (H10.out.but.trans HB12.out).trans HB13.out⟩
end Go.Proofs.Ytbfmoaojimimjaa.readyRaises
