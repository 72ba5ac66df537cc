/- The contract of the document's Busy (chapter 15). -/
import Derived.Test.YtfpcnilcbaiojaaDeR4
import Derived.StillTailTactics
namespace Go.Proofs.Ytfpcnilcbaiojaa.dem
open Go.ChangeShapes Go.WideShapes Go.ChangeAt Go.RowKit Go.Deep
theorem busy_fst (l : List Wk) (bl rl : Int) : ∀ (k : Nat) (n : Int), 1 ≤ n → n ≤ 9223372036854775807 → (busyGo l bl rl k n).2 = 0 → 1 ≤ (busyGo l bl rl k n).1 ∧ (busyGo l bl rl k n).1 ≤ 9223372036854775807
  | 0, _, _, _, h => by rw [busyGo] at h; cases h
  | k + 1, n, h1, h2, h => by
    rw [busyGo] at h ⊢
    cases ho : comO l bl rl n with
    | true => rw [ho, if_pos rfl] at h; cases h
    | false =>
      rw [ho, if_neg (by simp)] at h
      rw [if_neg (by simp)]
      by_cases hc : comS l bl rl n ≤ n
      · rw [if_pos hc]; exact ⟨h1, h2⟩
      · rw [if_neg hc] at h ⊢
        exact busy_fst l bl rl k _ (by omega) (ov_not ho).1 h
theorem fit_rd {zs : List Int} (h : ∀ z ∈ zs, inR z) : ∀ k, inR (zs.getD k 0) := fun k => by
  by_cases hk : k < zs.length
  · have e : zs.getD k 0 = zs[k] := by simp [List.getD, hk]
    rw [e]; exact h _ (List.getElem_mem hk)
  · have e : zs.getD k 0 = 0 := by simp [List.getD, hk]
    rw [e]; exact inR_small (by omega)
theorem Ov.rdv {w : World} {v : Value} {zs : List Int} (h : Ov w v zs) (hm : zs.length ≤ 100000) (hf : ∀ z ∈ zs, inR z) : ∃ A c, v = .slice A zs.length c ∧ Rd w A zs.length zs := by
  obtain ⟨A, c, e, _⟩ := Ov.slice h
  subst e
  obtain ⟨hl, _⟩ := h.rl hm
  exact ⟨A, c, rfl, hl.len, hl.max, hl.at_, fit_rd hf⟩
set_option maxRecDepth 100000 in
set_option maxHeartbeats 8000000 in
theorem rbusy_any (A : Option Addr) (n c : Nat) (l : List Wk) (bl rl : Int) (w : World) (h : RWk w A n l) : Calls Try.prog 15 #[.slice A n c, .int .i64 bl, .int .i64 rl] w fun e w' => e = .returned (.tuple #[.int .i64 (busyP l bl rl).1, .int .i64 (busyP l bl rl).2]) ∧ But No w w' := by
  have HN := Lib.hid h.len
  have HL := Lib.hid h
  have CR : Hid (∀ W, But No w W → Calls Try.prog 22 #[.slice A n c, .int .i64 bl, .int .i64 rl] W fun e w' => e = .returned (.bool (right l bl rl)) ∧ But No W w') := fun W hb => rright_any A n c l bl rl W (h.no hb)
  clear h
  cases hrt : right l bl rl with
  | false =>
    have HE : Hid (busyP l bl rl = (0, 1)) := Lib.hid (by unfold busyP; rw [hrt, if_neg (by simp)])
    rw [hrt] at CR
    clear hrt
    go_enter Try.func15, Try.ntmps15
    go_wp2_with (go_at_call 22; (with_reducible refine (CR.out _ (But.refl No w)).mono ?_); rintro e w1 ⟨rfl, hb1⟩; have HB1 := Lib.hid hb1; clear hb1)
    go_ret2
    exact ⟨retp (by rw [HE.out]) (by rw [HE.out]), HB1.out⟩
  | true =>
    have HRT := Lib.hid hrt
    obtain ⟨hn72, ⟨hb0, hb1⟩, ⟨hr0, hr1⟩, hok⟩ := right_iff.1 hrt
    have hn72' : n ≤ 72 := by have := HN.out; omega
    have HOK := Lib.hid hok
    obtain ⟨i3, hi0, hz0, hz1, hz2⟩ := info_parts info3
    have I3 : Hid (Try.prog.info? 3 = some i3 ∧ i3.zero = some (.int .i64 0) ∧ i3.size = 1 ∧ i3.bytes = 8) := ⟨hi0, hz0, hz1, hz2⟩
    rw [hrt] at CR
    clear hrt hok hn72 hi0 hz0 hz1 hz2
    go_enter Try.func15, Try.ntmps15
    go_upto_region 6 with (go_at_call 22; (with_reducible refine (CR.out _ (But.refl No w)).mono ?_); rintro e w1 ⟨rfl, hb1⟩; have HB1 := Lib.hid hb1; clear hb1)
    have HLW := Lib.hid (HL.out.no HB1.out)
    clear HL CR
    go_wp2_with fail
    go_loopw [9, 10, 11] (fun v u i wr => ∃ (vv uu : Value) (q : Nat), v = vv ∧ u = uu ∧ i = .int .i64 (q : Int) ∧ q ≤ n ∧ Hid (Two w1 wr vv uu (wz rl (l.take q)) (pz (l.take q)))) (fun _ _ i _ => n - (intOf i).toNat)
    case atStart => exact ⟨_, _, 0, rfl, rfl, rfl, by omega, Two.start w1⟩
    case round =>
      obtain ⟨v, u, i, hv, hu, rfl, hi, HT⟩ := hrel
      have hv' := hv.symm
      have hu' := hu.symm
      subst hv'
      subst hu'
      clear hv hu
      by_cases hin : i < n
      · have hin2 : (i : Int) < (n : Int) := by omega
        have hi0 : (0 : Int) ≤ (i : Int) := Int.natCast_nonneg i
        obtain ⟨x, hx⟩ : ∃ x, l[i]? = some x := ⟨_, List.getElem?_eq_getElem (by rw [HN.out]; exact hin)⟩
        obtain ⟨b, off, rfl, hbl, e0, e1, e2, e3⟩ := HLW.out.at1 hx
        have E0 := Lib.hid e0
        have E1 := Lib.hid e1
        have WS := Lib.hid (wz_snoc (rl := rl) hx)
        have PS := Lib.hid (pz_snoc hx)
        have hlt : (l.take i).length = i := by rw [List.length_take, HN.out]; omega
        have HWL := Lib.hid (show (wz rl (l.take i)).length = 2 * i by rw [wz_len, hlt])
        have HPL := Lib.hid (show (pz (l.take i)).length = 2 * i by rw [pz_len, hlt])
        clear hx e0 e1 e2 e3 hbl hlt
        obtain ⟨x0, x1, x2, x3⟩ := x
        dsimp only at E0 E1 WS PS
        have e0 := cell_keep E0.out HT.out.but
        have HTa := Lib.hid (HT.out.no ((But.refl No wr).alloc (.cells #[.int .i64 x0, .int .i64 rl] 3)))
        go_upto_region 10 with (at_builtin; refine wpList_append_sh _ rfl _ _ 52 rfl 3 i3 _ 1 8 Try.underlying52 I3.out.1 I3.out.2.1 I3.out.2.2.1 I3.out.2.2.2 rfl (by omega) v (wz rl (l.take i)).length ((wz rl (l.take i)).map (Value.int .i64)) rfl HTa.out.o1 (wr.heap.size + 1) (some ⟨wr.heap.size, 0, none⟩) 2 2 [.int .i64 x0, .int .i64 rl] rfl (two_reads wr x0 rl) (two_cell x0 rl) (by have := HWL.out; unfold maxLen; omega) (by have := HWL.out; omega) ?_; intro A3 c3 w3 hown3 hgrow3 hat3; have HT3 := Lib.hid (HTa.out.app (ns := [x0, rl]) rfl hown3 hgrow3 hat3); clear hown3 hgrow3 hat3)
        clear e0 HTa
        have e1 := cell_keep E1.out HT3.out.but
        have KEEP : Hid (∀ w', But No w1 w' → w'.cell? ⟨b, off + i * 4 + 1, none⟩ = some (.int .i64 x1) ∧ But No w1 w') := Lib.hid (fun w' hb => ⟨cell_keep E1.out hb, hb⟩)
        have HTb := Lib.hid ((HT3.out.no (((But.refl No w3).drew).alloc (.cells #[.int .i64 x1, .int .i64 x1] 3))).swap)
        go_region_held3 (fun w' => w'.cell? ⟨b, off + i * 4 + 1, none⟩ = some (.int .i64 x1) ∧ But No w1 w')
          (first | exact KEEP.out _ HT3.out.but.drew | exact KEEP.out _ (HT3.out.but.drew.alloc _) | exact KEEP.out _ HT5.out.but)
          (first | (refine step_append_sh rfl _ _ 52 rfl 3 i3 _ 1 8 Try.underlying52 I3.out.1 I3.out.2.1 I3.out.2.2.1 I3.out.2.2.2 rfl (by omega) u (pz (l.take i)).length ((pz (l.take i)).map (Value.int .i64)) (by simp [Act.eval]) HTb.out.o1 (w3.drew.heap.size + 1) (some ⟨w3.drew.heap.size, 0, none⟩) 2 2 [.int .i64 x1, .int .i64 x1] (by simp [Act.eval]) (two_reads w3.drew x1 x1) (two_cell x1 x1) (by have := HPL.out; unfold maxLen; omega) (by have := HPL.out; omega) ?_; intro A5 c5 w5 hown5 hgrow5 hat5; have HT5 := Lib.hid ((HTb.out.app (ns := [x1, x1]) rfl hown5.out hgrow5.out hat5.out).swap)))
        rename_i hHeld
        clear hHeld e1 KEEP HTb HT3 HT
        go_wp2
        go_roundw
        case rel => exact ⟨_, _, i + 1, rfl, rfl, by go_num, by omega, by rw [WS.out, PS.out]; exact HT5.out⟩
        case measure => simp [intOf]; omega
      · have HI : Hid (i = n) := Lib.hid (by omega)
        have b3 : decide ((i : Int) < (n : Int)) = false := by simp; omega
        have htk : l.take i = l := List.take_of_length_le (by rw [HN.out]; omega)
        rw [htk] at HT
        have hwl : (wz rl l).length = 2 * n := by rw [wz_len, HN.out]
        have hpl : (pz l).length = 2 * n := by rw [pz_len, HN.out]
        have hfw : ∀ z ∈ wz rl l, inR z := fun z hz => by
          obtain ⟨x, hx, hm⟩ := List.mem_flatMap.1 hz
          have := okW_iff.1 (HOK.out x hx)
          simp only [List.mem_cons, List.not_mem_nil, or_false] at hm
          unfold inR; rcases hm with rfl | rfl <;> omega
        have hfp : ∀ z ∈ pz l, inR z := fun z hz => by
          obtain ⟨x, hx, hm⟩ := List.mem_flatMap.1 hz
          have := okW_iff.1 (HOK.out x hx)
          simp only [List.mem_cons, List.not_mem_nil, or_false] at hm
          unfold inR; rcases hm with rfl | rfl <;> omega
        obtain ⟨A7, c7, hv7, hr7⟩ := Ov.rdv HT.out.o1 (by omega) hfw
        obtain ⟨A8, c8, hv8, hr8⟩ := Ov.rdv HT.out.o2 (by omega) hfp
        subst hv7 hv8
        have CL : Hid (Calls Try.prog 27 #[.slice A7 (wz rl l).length c7, .slice A8 (pz l).length c8] wr fun e w' => e = .returned (.tuple #[.int .i64 (qar.ldV (wz rl l) (pz l)), .int .i64 (qar.ldE (wz rl l) (pz l))]) ∧ But No wr w') := Lib.hid ((qar.rload_any A7 A8 (wz rl l).length (pz l).length c7 c8 (wz rl l) (pz l) wr hr7 hr8).mono (fun e w' ⟨h1, h2⟩ => ⟨h1, h2.butNo⟩))
        have HBT := Lib.hid HT.out.but
        have HLD := Lib.hid (ld_is HRT.out)
        generalize (wz rl l).length = nz at CL ⊢
        generalize (pz l).length = np at CL ⊢
        generalize qar.ldV (wz rl l) (pz l) = V at CL HLD
        generalize qar.ldE (wz rl l) (pz l) = E at CL HLD
        clear htk hwl hpl hfw hfp hr7 hr8 HT
        rcases HLD.out with ⟨rfl, hV, h0, h1⟩ | ⟨rfl, hV, h1⟩
        · by_cases hmi : 4294967296 < V
          · have HE : Hid (busyP l bl rl = (0, 12)) := Lib.hid (by unfold busyP; rw [HRT.out, if_pos rfl, if_pos (by omega)])
            have b4 : decide (4294967296 < V) = true := by simp [hmi]
            clear HLD hV h0 h1
            go_wp2_with (go_at_call 27; (with_reducible refine CL.out.mono ?_); rintro e w9 ⟨rfl, hb9⟩; have HB9 := Lib.hid (HBT.out.trans hb9); clear hb9)
            go_ret2
            exact ⟨retp (by rw [HE.out]) (by rw [HE.out]), HB1.out.trans HB9.out⟩
          · have HE : Hid (busyP l bl rl = busyGo l bl rl 5000 1) := Lib.hid (by unfold busyP; rw [HRT.out, if_pos rfl, if_neg (by omega)])
            have b4 : decide (4294967296 < V) = false := by simp; omega
            clear HLD hV h0 h1
            go_upto_region 15 with (go_at_call 27; (with_reducible refine CL.out.mono ?_); rintro e w9 ⟨rfl, hb9⟩; have HB9 := Lib.hid (HBT.out.trans hb9); clear hb9)
            have HL9 := Lib.hid (HLW.out.no HB9.out)
            clear CL HLW HBT
            go_wp2_with fail
            go_loopw [14, 15] (fun m s wr => ∃ (mv : Int) (q : Nat), m = .int .i64 mv ∧ s = .int .i64 (q : Int) ∧ q ≤ 5000 ∧ 1 ≤ mv ∧ mv ≤ 9223372036854775807 ∧ Hid (busyGo l bl rl (5000 - q) mv = busyP l bl rl) ∧ Hid (wr = w9)) (fun _ s _ => 5000 - (intOf s).toNat)
            case atStart => exact ⟨1, 0, rfl, rfl, by omega, by omega, by omega, HE.out.symm, rfl⟩
            case round =>
              obtain ⟨m, q, rfl, rfl, hq, hm1, hm2, HG, HW⟩ := hrel
              obtain rfl := HW.out
              clear HW
              by_cases hq5 : q < 5000
              · have hq5' : (q : Int) < 5000 := by omega
                have CC := Lib.hid (rcomes_any A n c l bl rl m wr HL9.out HRT.out hm1 hm2)
                have HG' : Hid ((if comO l bl rl m = true then (0, 2) else if comS l bl rl m ≤ m then (m, 0) else busyGo l bl rl (5000 - (q + 1)) (comS l bl rl m)) = busyP l bl rl) := Lib.hid (by
                  have h9 := HG.out
                  rw [show 5000 - q = (5000 - (q + 1)) + 1 by omega, busyGo] at h9
                  exact h9)
                cases ho : comO l bl rl m with
                | true =>
                  obtain ⟨v1, v2⟩ := com_out ho
                  rw [v1, v2] at CC
                  rw [ho, if_pos rfl] at HG'
                  clear ho v1 v2 HG
                  go_wp2_with (go_at_call 28; (with_reducible refine CC.out.mono ?_); rintro e w5 ⟨rfl, rfl⟩)
                  go_ret2
                  exact ⟨retp (by rw [← HG'.out]) (by rw [← HG'.out]), HB1.out.trans HB9.out⟩
                | false =>
                  obtain ⟨v1, v2⟩ := com_in ho
                  have hc2 : comS l bl rl m ≤ 9223372036854775807 := (ov_not ho).1
                  rw [v1, v2] at CC
                  rw [ho, if_neg (by simp)] at HG'
                  clear ho v1 v2 HG
                  generalize comS l bl rl m = cv at CC HG' hc2
                  by_cases hc : cv ≤ m
                  · have b5 : decide (cv ≤ m) = true := by simp [hc]
                    rw [if_pos hc] at HG'
                    go_wp2_with (go_at_call 28; (with_reducible refine CC.out.mono ?_); rintro e w5 ⟨rfl, rfl⟩)
                    go_ret2
                    exact ⟨retp (by rw [← HG'.out]) (by rw [← HG'.out]), HB1.out.trans HB9.out⟩
                  · have b5 : decide (cv ≤ m) = false := by simp; omega
                    rw [if_neg hc] at HG'
                    go_wp2_with (go_at_call 28; (with_reducible refine CC.out.mono ?_); rintro e w5 ⟨rfl, rfl⟩)
                    go_roundw
                    case rel => exact ⟨cv, q + 1, rfl, by go_num, by omega, by omega, by omega, HG', by first | exact rfl | exact trivial⟩
                    case measure => simp [intOf]; omega
              · have HE2 : Hid (busyP l bl rl = (0, 11)) := Lib.hid (by rw [← HG.out, show 5000 - q = 0 by omega]; rfl)
                have b6 : decide ((q : Int) < 5000) = false := by simp; omega
                clear HG
                go_wp2
                go_ret2
                exact ⟨retp (by rw [HE2.out]) (by rw [HE2.out]), HB1.out.trans HB9.out⟩
        · have HE : Hid (busyP l bl rl = (0, 12)) := Lib.hid (by unfold busyP; rw [HRT.out, if_pos rfl, if_pos h1])
          clear HLD hV h1
          go_wp2_with (go_at_call 27; (with_reducible refine CL.out.mono ?_); rintro e w9 ⟨rfl, hb9⟩; have HB9 := Lib.hid (HBT.out.trans hb9); clear hb9)
          go_ret2
          exact ⟨retp (by rw [HE.out]) (by rw [HE.out]), HB1.out.trans HB9.out⟩
end Go.Proofs.Ytfpcnilcbaiojaa.dem
