/- What is changed to the key that it has goes behind all that have this key; nothing else moves: HeapTurns returns true. (The walk.) -/
import Derived.Test.YtlnoelahlbbgkaaHeapKeepsW
namespace Go.Proofs.Ytlnoelahlbbgkaa.heapTurns
open Go.ChangeShapes Go.WideShapes Go.ChangeAt Go.RowKit
/-- What the law asks of the two lists. -/
structure Facts (z : Nat → Int) (nn x : Nat) (IB IA : List Int) (M : List Int) (k0 : Nat) : Prop where
  f1 : IB.filter (fun a => a != (x : Int)) = M
  f2 : IA.filter (fun a => a != (x : Int)) = M
  f3 : IA.getD k0 0 = (x : Int)
  f3' : ∀ j, j < nn → j ≠ k0 → IA.getD j 0 ≠ (x : Int)
  f4 : k0 < nn
  f5 : k0 + 1 = nn ∨ (k0 + 1 < nn ∧ ∃ j : Nat, j < nn ∧ IA.getD (k0 + 1) 0 = (j : Int) ∧ z x < z j)
  lb : IB.length = nn
  la : IA.length = nn
theorem filter_map_id (L : List It) (x : Int) : (L.map It.id).filter (fun a => a != x) = (L.filter (fun y => y.id != x)).map It.id := by
  rw [List.filter_map]; rfl
theorem facts {z : Nat → Int} {nn x : Nat} {T : Int} (hx : x < nn) (hs : (Ls z nn).Pairwise Ah) (hn : (Ls z nn).Pairwise (fun a b => a.id ≠ b.id)) :
    ∃ M k0, Facts z nn x ((Ls z nn).map It.id) ((ins ⟨x, z x, T⟩ (rmv x (Ls z nn))).map It.id) M k0 := by
  have hm : ∃ y ∈ Ls z nn, y.id = (x : Int) := ⟨gz z x, mem_Ls.2 ⟨x, hx, rfl⟩, rfl⟩
  have hmem := mem_rmv hn hm
  have hM : ∀ y ∈ rmv x (Ls z nn), y.id ≠ (x : Int) := fun y hy => ((hmem y).1 hy).2
  have hMs := hs.sublist (rmv_sub (x : Int) (Ls z nn))
  have hself : (rmv x (Ls z nn)).filter (fun y => y.id != (x : Int)) = rmv x (Ls z nn) := by
    rw [List.filter_eq_self]; intro y hy; simpa using hM y hy
  have hlen : (rmv x (Ls z nn)).length + 1 = nn := by rw [length_rmv hm, len_Ls]
  refine ⟨(rmv x (Ls z nn)).map It.id, ((rmv x (Ls z nn)).takeWhile (fun y => decide (y.key ≤ z x))).length, ?_, ?_, ?_, ?_, ?_, ?_, ?_, ?_⟩
  · rw [filter_map_id]
    congr 1
    obtain ⟨l1, e, l2, he, hL, hr, h1⟩ := rmv_split hm
    rw [hr]
    rw [hr] at hself
    have : (Ls z nn).filter (fun y => y.id != (x : Int)) = (l1 ++ l2).filter (fun y => y.id != (x : Int)) := by
      rw [hL, List.filter_append, List.filter_append, List.filter_cons_of_neg (by simp [he])]
    rw [this, hself]
  · rw [filter_map_id, ins_flt (by simp), hself]
  all_goals
    generalize hMM : rmv (x : Int) (Ls z nn) = MM at hM hMs hlen
    obtain ⟨tw, htw⟩ : ∃ tw, tw = MM.takeWhile (fun y => decide (y.key ≤ z x)) := ⟨_, rfl⟩
    obtain ⟨dw, hdw⟩ : ∃ dw, dw = MM.dropWhile (fun y => decide (y.key ≤ z x)) := ⟨_, rfl⟩
    have happ : MM = tw ++ dw := by rw [htw, hdw, List.takeWhile_append_dropWhile]
    have hins : ins ⟨x, z x, T⟩ MM = tw ++ ⟨x, z x, T⟩ :: dw := by unfold ins; rw [htw, hdw]
  · rw [hins, ← htw]
    simp [List.getD]
  · intro j hj hne
    rw [hins, ← htw] at *
    have htl : tw.length + dw.length + 1 = nn := by rw [← hlen, happ]; simp
    rw [List.map_append, List.map_cons]
    by_cases h1 : j < tw.length
    · have : ((tw.map It.id) ++ (x : Int) :: dw.map It.id).getD j 0 = (tw[j]'h1).id := by
        simp [List.getD, List.getElem?_append_left, h1]
      rw [this]
      exact hM _ (by rw [happ]; exact List.mem_append_left _ (List.getElem_mem h1))
    · have h2 : j - tw.length - 1 < dw.length := by omega
      have : ((tw.map It.id) ++ (x : Int) :: dw.map It.id).getD j 0 = (dw[j - tw.length - 1]'h2).id := by
        rw [List.getD, List.getElem?_append_right (by simp; omega)]
        rw [show j - (tw.map It.id).length = (j - tw.length - 1) + 1 by simp; omega, List.getElem?_cons_succ]
        simp [h2]
      rw [this]
      exact hM _ (by rw [happ]; exact List.mem_append_right _ (List.getElem_mem h2))
  · rw [← htw]
    have htl : tw.length + dw.length + 1 = nn := by rw [← hlen, happ]; simp
    omega
  · rw [hins, ← htw]
    have htl : tw.length + dw.length + 1 = nn := by rw [← hlen, happ]; simp
    cases hd : dw with
    | nil => rw [hd] at htl; simp at htl; exact .inl (by omega)
    | cons e r =>
      rw [hd] at htl
      simp at htl
      refine .inr ⟨by omega, ?_⟩
      have heM : e ∈ MM := by rw [happ, hd]; simp
      have heL : e ∈ Ls z nn := by rw [← hMM] at heM; exact (rmv_sub _ _).subset heM
      obtain ⟨j, hj, rfl⟩ := mem_Ls.1 heL
      refine ⟨j, hj, ?_, ?_⟩
      · rw [List.map_append, List.map_cons, List.map_cons, List.getD, List.getElem?_append_right (by simp)]
        simp [gz]
      · have := dropWhile_gt (x := ⟨x, z x, T⟩) hMs (gz z j) (by show gz z j ∈ MM.dropWhile _; rw [← hdw, hd]; simp)
        exact this
  · rw [List.length_map, len_Ls]
  · rw [List.length_map, length_ins]; exact hlen
/-- Where x was seen among the first i. -/
def atI (k0 i : Nat) : Int := if k0 < i then (k0 : Int) else -1
set_option maxHeartbeats 8000000 in
set_option maxRecDepth 100000 in
theorem walkS (A : Option Addr) (nn c : Nat) (zs : List Int) (n : Nat) (hnn : n = nn) (nn2 : nn ≤ 100) (n0 : 0 < n) (a1 : Int) (w1 : (Lit.int .i64 a1).wf = true) (w : World) (hz : Rd w A n zs) :
    Calls Try.prog 6 #[.slice A n c, .int .i64 a1] w fun e w' => e = .returned (.bool true) ∧ But No w w' := by
  obtain ⟨z, hzz⟩ : ∃ z : Nat → Int, z = fun j => zs.getD j 0 := ⟨_, rfl⟩
  have nsm : (n : Int) ≤ 100 := by omega
  have nle : nn ≤ n := by omega
  have nn0 : 0 < nn := by omega
  have HNN := Lib.hid hnn
  have HZ : Hid (∀ w', But No w w' → ∀ j, j < nn → ∃ b off, A = some ⟨b, off, none⟩ ∧ w'.cell? ⟨b, off + j, none⟩ = some (.int .i64 (z j))) := by
    intro w' hb j hj
    obtain ⟨b, off, e, _, hc⟩ := (hz.no hb).at_ (by omega)
    exact ⟨b, off, e, by rw [hzz]; exact hc j (by omega)⟩
  obtain ⟨i0, hi0, hz0, hz1, hz2⟩ := info_parts info3
  have I0 : Hid (Try.prog.info? 3 = some i0 ∧ i0.zero = some (.int .i64 0) ∧ i0.size = 1 ∧ i0.bytes = 8) := ⟨hi0, hz0, hz1, hz2⟩
  have R1 := Lib.hid (inR_of w1)
  have nz : ((n : Int) == 0) = false := by simp; omega
  clear hi0 hz0 hz1 hz2 hz hzz hnn w1
  go_enter Try.func6, Try.ntmps6
  go_wp2_with (first
    | (go_at_call 9; refine (examples_any _).mono ?_; rintro e we ⟨rfl, hbe⟩; have HE := Lib.hid hbe; clear hbe)
    | (go_at_call 10; refine (new_ok 256 _ (by omega) (by omega)).mono ?_; rintro e w1 ⟨rfl, hne⟩; have HN1 := Lib.hid hne; clear hne))
  simp only [show Value.int .i64 (n : Int) = Value.int .i64 (nn : Int) from by rw [HNN.out]]
  clear HNN
  have H1 : Hid (∃ S, Hw w w1 S (we.heap.size + 1) 256 ((0 : Nat) : Int) (Ls z 0)) := by
    obtain ⟨S, hp, hb, hs⟩ := HN1.out
    exact ⟨S, hp, HE.out.trans hb, fun k hk => Nat.le_trans HE.out.size (hs k hk)⟩
  clear HN1
  generalize hp : we.heap.size + 1 = p at H1 ⊢
  clear hp
  go_loopw [9] (fun s wr => ∃ i : Nat, s = .int .i64 i ∧ i ≤ nn ∧ Hid (∃ S, Hw w wr S p 256 i (Ls z i))) (fun s _ => nn - (intOf s).toNat)
  case atStart => exact ⟨0, rfl, by omega, H1⟩
  case round =>
    obtain ⟨i, rfl, hin, hex⟩ := hrel
    clear H1
    by_cases hlt : i < nn
    · obtain ⟨S, hs⟩ := hex.out
      have HS := Lib.hid hs
      obtain ⟨b, off, rfl, hcell⟩ := HZ.out _ hs.but i hlt
      clear hs hex
      have hi' : (i : Int) < (n : Int) := by omega
      have hi2 : (i : Int) < (nn : Int) := by omega
      obtain ⟨zi, hzi⟩ : ∃ zi, zi = z i := ⟨_, rfl⟩
      rw [← hzi] at hcell
      have HPE := Lib.hid (pushE_Ls (z := z) (i := i) (by omega))
      have CPU : Hid (Calls Try.prog 13 #[.pointer (some ⟨p, 0, none⟩), .int .i64 i, .int .i64 zi] wr fun e w' => e = .returned (.int .i64 0) ∧ Mv wr S p 256 (pushT 256 i (Ls z i) i) (pushL 256 i (Ls z i) i (z i)) w') := by
        have := push_any p 256 i (Ls z i) S wr i zi (inR_small (by omega)) HS.out.hp (by omega)
        rw [HPE.out, hzi] at this
        rw [hzi]; exact this
      clear hzi
      go_wp2_with (go_at_call 13; refine CPU.out.mono ?_; rintro e w3 ⟨rfl, hm⟩; have HM := Lib.hid hm; clear hm)
      go_roundw
      case rel => exact ⟨i + 1, by go_num, by omega, push_Ls (by omega) HS.out HM.out⟩
      case measure => simp [intOf]; omega
    · obtain rfl : i = nn := by omega
      clear hlt
      have i2 : decide ((i : Int) < (i : Int)) = false := by simp
      obtain ⟨S, hs⟩ := hex.out
      have q1 := pk_lt a1 i (by omega)
      obtain ⟨t, ht⟩ : ∃ t : Nat, pk a1 i = (t : Int) := ⟨(pk a1 i).toNat, by omega⟩
      have hti : t < i := by omega
      have CP : Hid (∀ w, Calls Try.prog 12 #[.int .i64 a1, .int .i64 (i : Int)] w fun e w' => e = .returned (.int .i64 (t : Int)) ∧ w = w') := fun w => by rw [← ht]; exact pick_any a1 i w R1.out (by omega) (by omega)
      obtain ⟨M, k0, hfa⟩ := facts (T := (i : Int) + 1) hti hs.hp.srt hs.hp.nd
      have hhas : hasI (t : Int) (Ls z i) = true := hasI_of (mem_Ls.2 ⟨t, hti, rfl⟩) rfl
      obtain ⟨zt, hzt⟩ : ∃ zt, zt = z t := ⟨_, rfl⟩
      have CC : Hid (∀ w' S', HP w' S' p 256 i (Ls z i) → Calls Try.prog 17 #[.pointer (some ⟨p, 0, none⟩), .int .i64 t, .int .i64 zt] w' fun e w'' => e = .returned (.int .i64 0) ∧ Mv w' S' p 256 ((i : Int) + 1) (ins ⟨t, z t, (i : Int) + 1⟩ (rmv t (Ls z i))) w'') := by
        intro w' S' h'
        have := change_any p 256 i (Ls z i) S' w' t zt (inR_small (by omega)) h' (by omega)
        unfold chE chT chL at this
        rw [hhas, hzt] at this
        rw [hzt]
        exact this
      generalize hL2 : ins ⟨t, z t, (i : Int) + 1⟩ (rmv t (Ls z i)) = L2 at hfa CC
      generalize hIB : (Ls z i).map It.id = IB at hfa
      generalize hIA : L2.map It.id = IA at hfa
      have FA := Lib.hid hfa
      have HIB := Lib.hid hIB
      have HIA := Lib.hid hIA
      have HL2 : Hid (L2.length = i) := by show _ = _; rw [← List.length_map (f := It.id), hIA]; exact hfa.la
      have HZT := Lib.hid hzt
      have HS := Lib.hid hs
      clear hs hex q1 ht hfa hhas hL2 hIB hIA hzt
      go_wp2_with fail
      refine (CP.out _).mono ?_
      rintro e w2 ⟨rfl, rfl⟩
      go_wp2_with fail
      refine (all_any p 256 i (Ls z i) S wr HS.out.hp).mono ?_
      rintro e w2 ⟨b1, rfl, hI, hb, hbl⟩
      rw [HIB.out] at hI
      simp only [len_Ls]
      have HI := Lib.hid hI
      have HW2 := Lib.hid (HS.out.no hb)
      have HNB : Hid (¬ S b1) := fun hk => by have := HS.out.hp.lt _ hk; omega
      obtain ⟨b, off, rfl, hcell⟩ := HZ.out _ (HS.out.but.trans hb) t hti
      rw [← HZT.out] at hcell
      clear hI hb hbl HS
      have ti' : (t : Int) < (n : Int) := by omega
      go_wp2_with fail
      refine (CC.out _ _ HW2.out.hp).mono ?_
      rintro e w3 ⟨rfl, hm⟩
      obtain ⟨S3, h3, hb3, hs3⟩ := HW2.out.step hm
      have HW3 := Lib.hid h3
      have HI3 := Lib.hid (HI.out.but hb3 HNB.out)
      clear hm h3 hb3 hs3 HW2 HI HNB hcell
      go_wp2_with fail
      refine (all_any p 256 ((i : Int) + 1) L2 S3 w3 HW3.out.hp).mono ?_
      rintro e w4 ⟨b2, rfl, hI, hb, hbl⟩
      rw [HIA.out] at hI
      simp only [HL2.out]
      have HI4 := Lib.hid hI
      have HI1 := Lib.hid (HI3.out.but hb (fun f => f))
      have HBW4 := Lib.hid (HW3.out.but.trans hb)
      clear hI hb hbl HI3 HW3
      go_wp2_with fail
      have H5 : Hid (Ov w4 (.slice none 0 0) ((IB.take 0).filter (fun a => a != (t : Int)))) := by show Ov _ _ _; simp; exact Ov.nil w4
      go_loopw [13, 14] (fun s u wx => ∃ (v : Value) (j : Nat), s = v ∧ u = .int .i64 j ∧ j ≤ i ∧ Hid (Ov wx v ((IB.take j).filter (fun a => a != (t : Int)))) ∧ Hid (But No w4 wx) ∧ Hid (∀ q, v.ownBlock = some q → w4.heap.size ≤ q)) (fun _ u _ => i - (intOf u).toNat)
      case atStart => exact ⟨_, 0, rfl, rfl, by omega, H5, But.refl _ _, fun q e => by simp [Value.ownBlock] at e⟩
      case round =>
        obtain ⟨v, j, hsv, rfl, hj, hov, hb5, hown⟩ := hrel
        have hsv' := hsv.symm
        subst hsv'
        clear H5
        by_cases hjl : j < i
        · have hjm : j < IB.length := by rw [FA.out.lb]; exact hjl
          have hcell := Ints.cell (HI1.out.but hb5.out (fun f => f)) (k := j) hjm
          have jl' : (j : Int) < (i : Int) := by omega
          obtain ⟨y, hy⟩ : ∃ y, y = IB.getD j 0 := ⟨_, rfl⟩
          rw [← hy] at hcell
          by_cases hne : y = (t : Int)
          · have HF : Hid ((IB.take (j + 1)).filter (fun a => a != (t : Int)) = (IB.take j).filter (fun a => a != (t : Int))) := tf_no hjm (by rw [← hy, hne]; simp)
            have hne' : (y != (t : Int)) = false := by simpa using hne
            clear hy hne
            go_wp2
            go_roundw
            case rel => exact ⟨v, j + 1, rfl, by go_num, by omega, by rw [HF.out]; exact hov, hb5, hown⟩
            case measure => simp [intOf]; omega
          · have HF : Hid ((IB.take (j + 1)).filter (fun a => a != (t : Int)) = (IB.take j).filter (fun a => a != (t : Int)) ++ [y]) := by
              have := tf_yes (q := fun a => a != (t : Int)) hjm (by rw [← hy]; simpa using hne)
              rw [← hy] at this; exact this
            obtain ⟨zsf, hzsf⟩ : ∃ l, l = (IB.take j).filter (fun a => a != (t : Int)) := ⟨_, rfl⟩
            have hlz : zsf.length ≤ 256 := by rw [hzsf]; refine Nat.le_trans (List.length_filter_le _ _) ?_; rw [List.length_take]; omega
            rw [← hzsf] at hov HF
            have ROW := Lib.hid (hov.out.but (S := No) ((But.refl No wr).alloc (.cells #[.int .i64 y] 3)) (fun _ _ f => f))
            have hne' : (y != (t : Int)) = true := by simpa using hne
            clear hy hzsf hne
            go_wp2_with (at_builtin; refine wpList_append_lies _ rfl _ _ 40 rfl 0 3 i0 _ 1 8 Try.underlying40 I0.out.1 I0.out.2.1 I0.out.2.2.1 I0.out.2.2.2 rfl (by omega) _ zsf.length (zsf.map (Value.int .i64)) rfl ROW.out ⟨wr.heap.size, 0, none⟩ 1 1 [.int .i64 y] rfl rfl (one_news wr y) (by simp [Value.oneCell']) (by omega) (by unfold maxLen; omega) (by omega) (Nat.zero_le _) (wr.heap.size + 1) (by simp) ?_; intro g2 cap2 w6 hown6 hgrow6 hat6 hlt6)
            obtain ⟨o1, o2, o3⟩ := Ov.app hb5.out hown.out hown6 hgrow6 hat6
            have O1 := Lib.hid o1
            have O2 := Lib.hid o2
            have O3 := Lib.hid o3
            clear hown6 hgrow6 hat6 hlt6 o1 o2 o3 ROW
            go_wp2
            go_roundw
            case rel => exact ⟨_, j + 1, rfl, by go_num, by omega, by rw [HF.out]; exact O1, O2, O3⟩
            case measure => simp [intOf]; omega
        · obtain rfl : j = i := by omega
          have OV2 : Hid (Ov wr v M) := by
            have := hov.out
            rw [List.take_of_length_le (by rw [FA.out.lb]; exact Nat.le_refl _), FA.out.f1] at this
            exact this
          have HI5 := Lib.hid (HI4.out.but hb5.out (fun f => f))
          have HBW5 := Lib.hid (HBW4.out.trans hb5.out)
          have HML : Hid (M.length ≤ 256) := by
            show _ ≤ _
            rw [← FA.out.f1]; refine Nat.le_trans (List.length_filter_le _ _) ?_; rw [FA.out.lb]; omega
          clear hov hb5 hown HI4 HI1 HBW4
          generalize hwx : wr = w5 at OV2 HI5 HBW5 ⊢
          clear hwx
          go_wp2_with fail
          have H6 : Hid (Ov w5 (.slice none 0 0) ((IA.take 0).filter (fun a => a != (t : Int)))) := by show Ov _ _ _; simp; exact Ov.nil w5
          have at0 : Hid (atI k0 0 = -1) := by show _ = _; unfold atI; simp
          go_loopw [15, 16, 17] (fun sa s u wx => ∃ (v2 : Value) (l : Nat) (at_ : Int), sa = .int .i64 at_ ∧ s = v2 ∧ u = .int .i64 l ∧ l ≤ j ∧ Hid (at_ = atI k0 l) ∧ Hid (Ov wx v2 ((IA.take l).filter (fun a => a != (t : Int)))) ∧ Hid (But No w5 wx) ∧ Hid (∀ q, v2.ownBlock = some q → w5.heap.size ≤ q)) (fun _ _ u _ => j - (intOf u).toNat)
          case atStart => exact ⟨_, 0, -1, rfl, rfl, rfl, by omega, at0.out.symm, H6, But.refl _ _, fun q e => by simp [Value.ownBlock] at e⟩
          case round =>
            obtain ⟨v2, l, at_, rfl, hsv, rfl, hl, hat, hov, hb5, hown⟩ := hrel
            have hsv' := hsv.symm
            subst hsv'
            clear H6 at0
            by_cases hjl : l < j
            · have hjm : l < IA.length := by rw [FA.out.la]; exact hjl
              have hcell := Ints.cell (HI5.out.but hb5.out (fun f => f)) (k := l) hjm
              have jl' : (l : Int) < (j : Int) := by omega
              obtain ⟨y, hy⟩ : ∃ y, y = IA.getD l 0 := ⟨_, rfl⟩
              rw [← hy] at hcell
              by_cases hne : y = (t : Int)
              · have hlk : Hid ((l : Int) = atI k0 (l + 1)) := by
                  show _ = _
                  have : l = k0 := by
                    by_cases e : l = k0
                    · exact e
                    · exact absurd (hy ▸ hne) (FA.out.f3' l hjl e)
                  unfold atI; rw [if_pos (by omega), this]
                have HF : Hid ((IA.take (l + 1)).filter (fun a => a != (t : Int)) = (IA.take l).filter (fun a => a != (t : Int))) := tf_no hjm (by rw [← hy, hne]; simp)
                have hne' : (y == (t : Int)) = true := by simpa using hne
                clear hy hne
                go_wp2
                go_roundw
                case rel => exact ⟨v2, l + 1, l, rfl, rfl, by go_num, by omega, hlk.out, by rw [HF.out]; exact hov, hb5, hown⟩
                case measure => simp [intOf]; omega
              · have hlk : Hid (at_ = atI k0 (l + 1)) := by
                  show _ = _
                  have : l ≠ k0 := fun e => hne (by rw [hy, e]; exact FA.out.f3)
                  rw [hat.out]; unfold atI
                  by_cases h : k0 < l
                  · rw [if_pos h, if_pos (by omega)]
                  · rw [if_neg h, if_neg (by omega)]
                have HF : Hid ((IA.take (l + 1)).filter (fun a => a != (t : Int)) = (IA.take l).filter (fun a => a != (t : Int)) ++ [y]) := by
                  have := tf_yes (q := fun a => a != (t : Int)) hjm (by rw [← hy]; simpa using hne)
                  rw [← hy] at this; exact this
                obtain ⟨zsf, hzsf⟩ : ∃ l', l' = (IA.take l).filter (fun a => a != (t : Int)) := ⟨_, rfl⟩
                have hlz : zsf.length ≤ 256 := by rw [hzsf]; refine Nat.le_trans (List.length_filter_le _ _) ?_; rw [List.length_take]; omega
                rw [← hzsf] at hov HF
                have ROW := Lib.hid (hov.out.but (S := No) ((But.refl No wr).alloc (.cells #[.int .i64 y] 3)) (fun _ _ f => f))
                have hne' : (y == (t : Int)) = false := by simpa using hne
                clear hy hzsf hne hat
                go_wp2_with (at_builtin; refine wpList_append_lies _ rfl _ _ 40 rfl 0 3 i0 _ 1 8 Try.underlying40 I0.out.1 I0.out.2.1 I0.out.2.2.1 I0.out.2.2.2 rfl (by omega) _ zsf.length (zsf.map (Value.int .i64)) rfl ROW.out ⟨wr.heap.size, 0, none⟩ 1 1 [.int .i64 y] rfl rfl (one_news wr y) (by simp [Value.oneCell']) (by omega) (by unfold maxLen; omega) (by omega) (Nat.zero_le _) (wr.heap.size + 1) (by simp) ?_; intro g2 cap2 w6 hown6 hgrow6 hat6 hlt6)
                obtain ⟨o1, o2, o3⟩ := Ov.app hb5.out hown.out hown6 hgrow6 hat6
                have O1 := Lib.hid o1
                have O2 := Lib.hid o2
                have O3 := Lib.hid o3
                clear hown6 hgrow6 hat6 hlt6 o1 o2 o3 ROW
                go_wp2
                go_roundw
                case rel => exact ⟨_, l + 1, at_, rfl, rfl, by go_num, by omega, hlk.out, by rw [HF.out]; exact O1, O2, O3⟩
                case measure => simp [intOf]; omega
            · obtain rfl : l = j := by omega
              have hatk : at_ = (k0 : Int) := by rw [hat.out]; unfold atI; rw [if_pos FA.out.f4]
              subst hatk
              have OV3 : Hid (Ov wr v2 M) := by
                have := hov.out
                rw [List.take_of_length_le (by rw [FA.out.la]; exact Nat.le_refl _), FA.out.f2] at this
                exact this
              obtain ⟨A2, cc2, hv2, _⟩ := (OV2.out.but hb5.out (fun _ _ f => f)).slice
              subst hv2
              obtain ⟨A3, cc3, hv3, _⟩ := OV3.out.slice
              subst hv3
              have hr2 := ((OV2.out.but hb5.out (fun _ _ f => f)).rl (by have := HML.out; omega)).1
              have hr3 := (OV3.out.rl (by have := HML.out; omega)).1
              have CN : Hid (Calls Try.prog 24 #[.slice A2 M.length cc2, .slice A3 M.length cc3] wr fun e w' => e = .returned (.bool true) ∧ But No wr w') := by
                have := numbers_any A2 A3 M.length M.length cc2 cc3 _ _ wr hr2 hr3
                simp only [decide_true] at this
                exact this
              have HBW6 := Lib.hid (HBW5.out.trans hb5.out)
              have HI6 := Lib.hid (HI5.out.but hb5.out (fun f => f))
              have k0l : k0 < l := FA.out.f4
              obtain ⟨lm, hlm⟩ : ∃ lm : Nat, lm + 1 = l := ⟨l - 1, by omega⟩
              have hlm1 : (l : Int) - 1 = (lm : Int) := by omega
              have k00 : (0 : Int) ≤ (k0 : Int) := by omega
              have jj' : decide ((l : Int) < (l : Int)) = false := by simp
              have F5 := Lib.hid FA.out.f5
              have FLA := Lib.hid FA.out.la
              clear hat hov hb5 hown OV2 OV3 hr2 hr3 HI5 HBW5
              go_wp2_with (go_at_call 24; refine CN.out.mono ?_; rintro e w7 ⟨rfl, hb7⟩; have HB7 := Lib.hid hb7; clear hb7)
              have hwl : IntKind.i64.wrap ((l : Int) - 1) = (lm : Int) := by rw [IntWalk.i64_in ((l : Int) - 1) (by omega)]; exact hlm1
              have hwm : IntKind.i64.wrap (lm : Int) = (lm : Int) := IntWalk.i64_in (lm : Int) (by omega)
              rcases F5.out with f5 | ⟨f5, jx, hjx, hgx, hzx⟩
              · have kk : ((k0 : Int) == (lm : Int)) = true := by simp; omega
                clear hlm
                go_quiet (fail)
                clear hwl hwm
                go_wp2
                go_ret
                exact ⟨rfl, (HBW6.out.trans HB7.out).drewN _⟩
              · have kk : ((k0 : Int) == (lm : Int)) = false := by simp; omega
                obtain ⟨k1, hk1⟩ : ∃ k1 : Nat, k1 = k0 + 1 := ⟨_, rfl⟩
                have hk1' : (k0 : Int) + 1 = (k1 : Int) := by omega
                have k1l : (k1 : Int) < (l : Int) := by omega
                have k10 : (0 : Int) ≤ (k1 : Int) := by omega
                rw [← hk1] at hgx
                have hc1 := Ints.cell (HI6.out.but HB7.out (fun f => f)) (k := k1) (by rw [FLA.out]; omega)
                rw [hgx] at hc1
                obtain ⟨b', off', hAA, hcj⟩ := HZ.out _ (HBW6.out.trans HB7.out) jx hjx
                cases hAA
                obtain ⟨b', off', hAA, hct⟩ := HZ.out _ (HBW6.out.trans HB7.out) t hti
                cases hAA
                obtain ⟨zj, hzj⟩ : ∃ zj, zj = z jx := ⟨_, rfl⟩
                rw [← hzj] at hcj hzx
                rw [← HZT.out] at hct hzx
                have jx0 : (0 : Int) ≤ (jx : Int) := by omega
                have jxl : (jx : Int) < (l : Int) := by omega
                have jxn : (jx : Int) < (n : Int) := by omega
                have g1 : decide ((0 : Int) ≤ (jx : Int)) = true := by simp
                have g2 : decide ((jx : Int) < (l : Int)) = true := by simp; omega
                have hwk : IntKind.i64.wrap ((k0 : Int) + 1) = (k1 : Int) := by rw [IntWalk.i64_in ((k0 : Int) + 1) (by omega)]; exact hk1'
                have hwk1 : IntKind.i64.wrap (k1 : Int) = (k1 : Int) := IntWalk.i64_in (k1 : Int) (by omega)
                clear hlm hk1 hzj hgx f5
                go_quiet (fail)
                clear hwl hwm hwk hwk1
                go_wp2
                go_ret
                exact ⟨rfl, (HBW6.out.trans HB7.out).drewN _⟩
set_option maxHeartbeats 8000000 in
set_option maxRecDepth 100000 in
theorem walkB (A : Option Addr) (n c : Nat) (zs : List Int) (nn2 : 100 < n) (a1 : Int) (w1 : (Lit.int .i64 a1).wf = true) (w : World) (hz : Rd w A n zs) :
    Calls Try.prog 6 #[.slice A n c, .int .i64 a1] w fun e w' => e = .returned (.bool true) ∧ But No w w' := by
  obtain ⟨z, hzz⟩ : ∃ z : Nat → Int, z = fun j => zs.getD j 0 := ⟨_, rfl⟩
  obtain ⟨nn, hnn⟩ : ∃ nn : Nat, nn = 100 := ⟨_, rfl⟩
  have hmax := hz.max
  have nsm : (100 : Int) < (n : Int) := by omega
  have HNN := Lib.hid hnn
  have nle : nn ≤ 100 := by omega
  have nge : 100 ≤ nn := by omega
  have HZ : Hid (∀ w', But No w w' → ∀ j, j < nn → ∃ b off, A = some ⟨b, off, none⟩ ∧ w'.cell? ⟨b, off + j, none⟩ = some (.int .i64 (z j))) := by
    intro w' hb j hj
    obtain ⟨b, off, e, _, hc⟩ := (hz.no hb).at_ (by omega)
    exact ⟨b, off, e, by rw [hzz]; exact hc j (by omega)⟩
  obtain ⟨i0, hi0, hz0, hz1, hz2⟩ := info_parts info3
  have I0 : Hid (Try.prog.info? 3 = some i0 ∧ i0.zero = some (.int .i64 0) ∧ i0.size = 1 ∧ i0.bytes = 8) := ⟨hi0, hz0, hz1, hz2⟩
  have R1 := Lib.hid (inR_of w1)
  have nz : ((n : Int) == 0) = false := by simp; omega
  clear hi0 hz0 hz1 hz2 hz hzz hnn w1
  go_enter Try.func6, Try.ntmps6
  go_wp2_with (first
    | (go_at_call 9; refine (examples_any _).mono ?_; rintro e we ⟨rfl, hbe⟩; have HE := Lib.hid hbe; clear hbe)
    | (go_at_call 10; refine (new_ok 256 _ (by omega) (by omega)).mono ?_; rintro e w1 ⟨rfl, hne⟩; have HN1 := Lib.hid hne; clear hne))
  simp only [show Value.int .i64 100 = Value.int .i64 (nn : Int) from by rw [HNN.out]; rfl]
  clear HNN
  have H1 : Hid (∃ S, Hw w w1 S (we.heap.size + 1) 256 ((0 : Nat) : Int) (Ls z 0)) := by
    obtain ⟨S, hp, hb, hs⟩ := HN1.out
    exact ⟨S, hp, HE.out.trans hb, fun k hk => Nat.le_trans HE.out.size (hs k hk)⟩
  clear HN1
  generalize hp : we.heap.size + 1 = p at H1 ⊢
  clear hp
  go_loopw [9] (fun s wr => ∃ i : Nat, s = .int .i64 i ∧ i ≤ nn ∧ Hid (∃ S, Hw w wr S p 256 i (Ls z i))) (fun s _ => nn - (intOf s).toNat)
  case atStart => exact ⟨0, rfl, by omega, H1⟩
  case round =>
    obtain ⟨i, rfl, hin, hex⟩ := hrel
    clear H1
    by_cases hlt : i < nn
    · obtain ⟨S, hs⟩ := hex.out
      have HS := Lib.hid hs
      obtain ⟨b, off, rfl, hcell⟩ := HZ.out _ hs.but i hlt
      clear hs hex
      have hi' : (i : Int) < (n : Int) := by omega
      have hi2 : (i : Int) < (nn : Int) := by omega
      obtain ⟨zi, hzi⟩ : ∃ zi, zi = z i := ⟨_, rfl⟩
      rw [← hzi] at hcell
      have HPE := Lib.hid (pushE_Ls (z := z) (i := i) (by omega))
      have CPU : Hid (Calls Try.prog 13 #[.pointer (some ⟨p, 0, none⟩), .int .i64 i, .int .i64 zi] wr fun e w' => e = .returned (.int .i64 0) ∧ Mv wr S p 256 (pushT 256 i (Ls z i) i) (pushL 256 i (Ls z i) i (z i)) w') := by
        have := push_any p 256 i (Ls z i) S wr i zi (inR_small (by omega)) HS.out.hp (by omega)
        rw [HPE.out, hzi] at this
        rw [hzi]; exact this
      clear hzi
      go_wp2_with (go_at_call 13; refine CPU.out.mono ?_; rintro e w3 ⟨rfl, hm⟩; have HM := Lib.hid hm; clear hm)
      go_roundw
      case rel => exact ⟨i + 1, by go_num, by omega, push_Ls (by omega) HS.out HM.out⟩
      case measure => simp [intOf]; omega
    · obtain rfl : i = nn := by omega
      clear hlt
      have i2 : decide ((i : Int) < (i : Int)) = false := by simp
      obtain ⟨S, hs⟩ := hex.out
      have q1 := pk_lt a1 i (by omega)
      obtain ⟨t, ht⟩ : ∃ t : Nat, pk a1 i = (t : Int) := ⟨(pk a1 i).toNat, by omega⟩
      have hti : t < i := by omega
      have CP : Hid (∀ w, Calls Try.prog 12 #[.int .i64 a1, .int .i64 (i : Int)] w fun e w' => e = .returned (.int .i64 (t : Int)) ∧ w = w') := fun w => by rw [← ht]; exact pick_any a1 i w R1.out (by omega) (by omega)
      obtain ⟨M, k0, hfa⟩ := facts (T := (i : Int) + 1) hti hs.hp.srt hs.hp.nd
      have hhas : hasI (t : Int) (Ls z i) = true := hasI_of (mem_Ls.2 ⟨t, hti, rfl⟩) rfl
      obtain ⟨zt, hzt⟩ : ∃ zt, zt = z t := ⟨_, rfl⟩
      have CC : Hid (∀ w' S', HP w' S' p 256 i (Ls z i) → Calls Try.prog 17 #[.pointer (some ⟨p, 0, none⟩), .int .i64 t, .int .i64 zt] w' fun e w'' => e = .returned (.int .i64 0) ∧ Mv w' S' p 256 ((i : Int) + 1) (ins ⟨t, z t, (i : Int) + 1⟩ (rmv t (Ls z i))) w'') := by
        intro w' S' h'
        have := change_any p 256 i (Ls z i) S' w' t zt (inR_small (by omega)) h' (by omega)
        unfold chE chT chL at this
        rw [hhas, hzt] at this
        rw [hzt]
        exact this
      generalize hL2 : ins ⟨t, z t, (i : Int) + 1⟩ (rmv t (Ls z i)) = L2 at hfa CC
      generalize hIB : (Ls z i).map It.id = IB at hfa
      generalize hIA : L2.map It.id = IA at hfa
      have FA := Lib.hid hfa
      have HIB := Lib.hid hIB
      have HIA := Lib.hid hIA
      have HL2 : Hid (L2.length = i) := by show _ = _; rw [← List.length_map (f := It.id), hIA]; exact hfa.la
      have HZT := Lib.hid hzt
      have HS := Lib.hid hs
      clear hs hex q1 ht hfa hhas hL2 hIB hIA hzt
      go_wp2_with fail
      refine (CP.out _).mono ?_
      rintro e w2 ⟨rfl, rfl⟩
      go_wp2_with fail
      refine (all_any p 256 i (Ls z i) S wr HS.out.hp).mono ?_
      rintro e w2 ⟨b1, rfl, hI, hb, hbl⟩
      rw [HIB.out] at hI
      simp only [len_Ls]
      have HI := Lib.hid hI
      have HW2 := Lib.hid (HS.out.no hb)
      have HNB : Hid (¬ S b1) := fun hk => by have := HS.out.hp.lt _ hk; omega
      obtain ⟨b, off, rfl, hcell⟩ := HZ.out _ (HS.out.but.trans hb) t hti
      rw [← HZT.out] at hcell
      clear hI hb hbl HS
      have ti' : (t : Int) < (n : Int) := by omega
      go_wp2_with fail
      refine (CC.out _ _ HW2.out.hp).mono ?_
      rintro e w3 ⟨rfl, hm⟩
      obtain ⟨S3, h3, hb3, hs3⟩ := HW2.out.step hm
      have HW3 := Lib.hid h3
      have HI3 := Lib.hid (HI.out.but hb3 HNB.out)
      clear hm h3 hb3 hs3 HW2 HI HNB hcell
      go_wp2_with fail
      refine (all_any p 256 ((i : Int) + 1) L2 S3 w3 HW3.out.hp).mono ?_
      rintro e w4 ⟨b2, rfl, hI, hb, hbl⟩
      rw [HIA.out] at hI
      simp only [HL2.out]
      have HI4 := Lib.hid hI
      have HI1 := Lib.hid (HI3.out.but hb (fun f => f))
      have HBW4 := Lib.hid (HW3.out.but.trans hb)
      clear hI hb hbl HI3 HW3
      go_wp2_with fail
      have H5 : Hid (Ov w4 (.slice none 0 0) ((IB.take 0).filter (fun a => a != (t : Int)))) := by show Ov _ _ _; simp; exact Ov.nil w4
      go_loopw [13, 14] (fun s u wx => ∃ (v : Value) (j : Nat), s = v ∧ u = .int .i64 j ∧ j ≤ i ∧ Hid (Ov wx v ((IB.take j).filter (fun a => a != (t : Int)))) ∧ Hid (But No w4 wx) ∧ Hid (∀ q, v.ownBlock = some q → w4.heap.size ≤ q)) (fun _ u _ => i - (intOf u).toNat)
      case atStart => exact ⟨_, 0, rfl, rfl, by omega, H5, But.refl _ _, fun q e => by simp [Value.ownBlock] at e⟩
      case round =>
        obtain ⟨v, j, hsv, rfl, hj, hov, hb5, hown⟩ := hrel
        have hsv' := hsv.symm
        subst hsv'
        clear H5
        by_cases hjl : j < i
        · have hjm : j < IB.length := by rw [FA.out.lb]; exact hjl
          have hcell := Ints.cell (HI1.out.but hb5.out (fun f => f)) (k := j) hjm
          have jl' : (j : Int) < (i : Int) := by omega
          obtain ⟨y, hy⟩ : ∃ y, y = IB.getD j 0 := ⟨_, rfl⟩
          rw [← hy] at hcell
          by_cases hne : y = (t : Int)
          · have HF : Hid ((IB.take (j + 1)).filter (fun a => a != (t : Int)) = (IB.take j).filter (fun a => a != (t : Int))) := tf_no hjm (by rw [← hy, hne]; simp)
            have hne' : (y != (t : Int)) = false := by simpa using hne
            clear hy hne
            go_wp2
            go_roundw
            case rel => exact ⟨v, j + 1, rfl, by go_num, by omega, by rw [HF.out]; exact hov, hb5, hown⟩
            case measure => simp [intOf]; omega
          · have HF : Hid ((IB.take (j + 1)).filter (fun a => a != (t : Int)) = (IB.take j).filter (fun a => a != (t : Int)) ++ [y]) := by
              have := tf_yes (q := fun a => a != (t : Int)) hjm (by rw [← hy]; simpa using hne)
              rw [← hy] at this; exact this
            obtain ⟨zsf, hzsf⟩ : ∃ l, l = (IB.take j).filter (fun a => a != (t : Int)) := ⟨_, rfl⟩
            have hlz : zsf.length ≤ 256 := by rw [hzsf]; refine Nat.le_trans (List.length_filter_le _ _) ?_; rw [List.length_take]; omega
            rw [← hzsf] at hov HF
            have ROW := Lib.hid (hov.out.but (S := No) ((But.refl No wr).alloc (.cells #[.int .i64 y] 3)) (fun _ _ f => f))
            have hne' : (y != (t : Int)) = true := by simpa using hne
            clear hy hzsf hne
            go_wp2_with (at_builtin; refine wpList_append_lies _ rfl _ _ 40 rfl 0 3 i0 _ 1 8 Try.underlying40 I0.out.1 I0.out.2.1 I0.out.2.2.1 I0.out.2.2.2 rfl (by omega) _ zsf.length (zsf.map (Value.int .i64)) rfl ROW.out ⟨wr.heap.size, 0, none⟩ 1 1 [.int .i64 y] rfl rfl (one_news wr y) (by simp [Value.oneCell']) (by omega) (by unfold maxLen; omega) (by omega) (Nat.zero_le _) (wr.heap.size + 1) (by simp) ?_; intro g2 cap2 w6 hown6 hgrow6 hat6 hlt6)
            obtain ⟨o1, o2, o3⟩ := Ov.app hb5.out hown.out hown6 hgrow6 hat6
            have O1 := Lib.hid o1
            have O2 := Lib.hid o2
            have O3 := Lib.hid o3
            clear hown6 hgrow6 hat6 hlt6 o1 o2 o3 ROW
            go_wp2
            go_roundw
            case rel => exact ⟨_, j + 1, rfl, by go_num, by omega, by rw [HF.out]; exact O1, O2, O3⟩
            case measure => simp [intOf]; omega
        · obtain rfl : j = i := by omega
          have OV2 : Hid (Ov wr v M) := by
            have := hov.out
            rw [List.take_of_length_le (by rw [FA.out.lb]; exact Nat.le_refl _), FA.out.f1] at this
            exact this
          have HI5 := Lib.hid (HI4.out.but hb5.out (fun f => f))
          have HBW5 := Lib.hid (HBW4.out.trans hb5.out)
          have HML : Hid (M.length ≤ 256) := by
            show _ ≤ _
            rw [← FA.out.f1]; refine Nat.le_trans (List.length_filter_le _ _) ?_; rw [FA.out.lb]; omega
          clear hov hb5 hown HI4 HI1 HBW4
          generalize hwx : wr = w5 at OV2 HI5 HBW5 ⊢
          clear hwx
          go_wp2_with fail
          have H6 : Hid (Ov w5 (.slice none 0 0) ((IA.take 0).filter (fun a => a != (t : Int)))) := by show Ov _ _ _; simp; exact Ov.nil w5
          have at0 : Hid (atI k0 0 = -1) := by show _ = _; unfold atI; simp
          go_loopw [15, 16, 17] (fun sa s u wx => ∃ (v2 : Value) (l : Nat) (at_ : Int), sa = .int .i64 at_ ∧ s = v2 ∧ u = .int .i64 l ∧ l ≤ j ∧ Hid (at_ = atI k0 l) ∧ Hid (Ov wx v2 ((IA.take l).filter (fun a => a != (t : Int)))) ∧ Hid (But No w5 wx) ∧ Hid (∀ q, v2.ownBlock = some q → w5.heap.size ≤ q)) (fun _ _ u _ => j - (intOf u).toNat)
          case atStart => exact ⟨_, 0, -1, rfl, rfl, rfl, by omega, at0.out.symm, H6, But.refl _ _, fun q e => by simp [Value.ownBlock] at e⟩
          case round =>
            obtain ⟨v2, l, at_, rfl, hsv, rfl, hl, hat, hov, hb5, hown⟩ := hrel
            have hsv' := hsv.symm
            subst hsv'
            clear H6 at0
            by_cases hjl : l < j
            · have hjm : l < IA.length := by rw [FA.out.la]; exact hjl
              have hcell := Ints.cell (HI5.out.but hb5.out (fun f => f)) (k := l) hjm
              have jl' : (l : Int) < (j : Int) := by omega
              obtain ⟨y, hy⟩ : ∃ y, y = IA.getD l 0 := ⟨_, rfl⟩
              rw [← hy] at hcell
              by_cases hne : y = (t : Int)
              · have hlk : Hid ((l : Int) = atI k0 (l + 1)) := by
                  show _ = _
                  have : l = k0 := by
                    by_cases e : l = k0
                    · exact e
                    · exact absurd (hy ▸ hne) (FA.out.f3' l hjl e)
                  unfold atI; rw [if_pos (by omega), this]
                have HF : Hid ((IA.take (l + 1)).filter (fun a => a != (t : Int)) = (IA.take l).filter (fun a => a != (t : Int))) := tf_no hjm (by rw [← hy, hne]; simp)
                have hne' : (y == (t : Int)) = true := by simpa using hne
                clear hy hne
                go_wp2
                go_roundw
                case rel => exact ⟨v2, l + 1, l, rfl, rfl, by go_num, by omega, hlk.out, by rw [HF.out]; exact hov, hb5, hown⟩
                case measure => simp [intOf]; omega
              · have hlk : Hid (at_ = atI k0 (l + 1)) := by
                  show _ = _
                  have : l ≠ k0 := fun e => hne (by rw [hy, e]; exact FA.out.f3)
                  rw [hat.out]; unfold atI
                  by_cases h : k0 < l
                  · rw [if_pos h, if_pos (by omega)]
                  · rw [if_neg h, if_neg (by omega)]
                have HF : Hid ((IA.take (l + 1)).filter (fun a => a != (t : Int)) = (IA.take l).filter (fun a => a != (t : Int)) ++ [y]) := by
                  have := tf_yes (q := fun a => a != (t : Int)) hjm (by rw [← hy]; simpa using hne)
                  rw [← hy] at this; exact this
                obtain ⟨zsf, hzsf⟩ : ∃ l', l' = (IA.take l).filter (fun a => a != (t : Int)) := ⟨_, rfl⟩
                have hlz : zsf.length ≤ 256 := by rw [hzsf]; refine Nat.le_trans (List.length_filter_le _ _) ?_; rw [List.length_take]; omega
                rw [← hzsf] at hov HF
                have ROW := Lib.hid (hov.out.but (S := No) ((But.refl No wr).alloc (.cells #[.int .i64 y] 3)) (fun _ _ f => f))
                have hne' : (y == (t : Int)) = false := by simpa using hne
                clear hy hzsf hne hat
                go_wp2_with (at_builtin; refine wpList_append_lies _ rfl _ _ 40 rfl 0 3 i0 _ 1 8 Try.underlying40 I0.out.1 I0.out.2.1 I0.out.2.2.1 I0.out.2.2.2 rfl (by omega) _ zsf.length (zsf.map (Value.int .i64)) rfl ROW.out ⟨wr.heap.size, 0, none⟩ 1 1 [.int .i64 y] rfl rfl (one_news wr y) (by simp [Value.oneCell']) (by omega) (by unfold maxLen; omega) (by omega) (Nat.zero_le _) (wr.heap.size + 1) (by simp) ?_; intro g2 cap2 w6 hown6 hgrow6 hat6 hlt6)
                obtain ⟨o1, o2, o3⟩ := Ov.app hb5.out hown.out hown6 hgrow6 hat6
                have O1 := Lib.hid o1
                have O2 := Lib.hid o2
                have O3 := Lib.hid o3
                clear hown6 hgrow6 hat6 hlt6 o1 o2 o3 ROW
                go_wp2
                go_roundw
                case rel => exact ⟨_, l + 1, at_, rfl, rfl, by go_num, by omega, hlk.out, by rw [HF.out]; exact O1, O2, O3⟩
                case measure => simp [intOf]; omega
            · obtain rfl : l = j := by omega
              have hatk : at_ = (k0 : Int) := by rw [hat.out]; unfold atI; rw [if_pos FA.out.f4]
              subst hatk
              have OV3 : Hid (Ov wr v2 M) := by
                have := hov.out
                rw [List.take_of_length_le (by rw [FA.out.la]; exact Nat.le_refl _), FA.out.f2] at this
                exact this
              obtain ⟨A2, cc2, hv2, _⟩ := (OV2.out.but hb5.out (fun _ _ f => f)).slice
              subst hv2
              obtain ⟨A3, cc3, hv3, _⟩ := OV3.out.slice
              subst hv3
              have hr2 := ((OV2.out.but hb5.out (fun _ _ f => f)).rl (by have := HML.out; omega)).1
              have hr3 := (OV3.out.rl (by have := HML.out; omega)).1
              have CN : Hid (Calls Try.prog 24 #[.slice A2 M.length cc2, .slice A3 M.length cc3] wr fun e w' => e = .returned (.bool true) ∧ But No wr w') := by
                have := numbers_any A2 A3 M.length M.length cc2 cc3 _ _ wr hr2 hr3
                simp only [decide_true] at this
                exact this
              have HBW6 := Lib.hid (HBW5.out.trans hb5.out)
              have HI6 := Lib.hid (HI5.out.but hb5.out (fun f => f))
              have k0l : k0 < l := FA.out.f4
              obtain ⟨lm, hlm⟩ : ∃ lm : Nat, lm + 1 = l := ⟨l - 1, by omega⟩
              have hlm1 : (l : Int) - 1 = (lm : Int) := by omega
              have k00 : (0 : Int) ≤ (k0 : Int) := by omega
              have jj' : decide ((l : Int) < (l : Int)) = false := by simp
              have F5 := Lib.hid FA.out.f5
              have FLA := Lib.hid FA.out.la
              clear hat hov hb5 hown OV2 OV3 hr2 hr3 HI5 HBW5
              go_wp2_with (go_at_call 24; refine CN.out.mono ?_; rintro e w7 ⟨rfl, hb7⟩; have HB7 := Lib.hid hb7; clear hb7)
              have hwl : IntKind.i64.wrap ((l : Int) - 1) = (lm : Int) := by rw [IntWalk.i64_in ((l : Int) - 1) (by omega)]; exact hlm1
              have hwm : IntKind.i64.wrap (lm : Int) = (lm : Int) := IntWalk.i64_in (lm : Int) (by omega)
              rcases F5.out with f5 | ⟨f5, jx, hjx, hgx, hzx⟩
              · have kk : ((k0 : Int) == (lm : Int)) = true := by simp; omega
                clear hlm
                go_quiet (fail)
                clear hwl hwm
                go_wp2
                go_ret
                exact ⟨rfl, (HBW6.out.trans HB7.out).drewN _⟩
              · have kk : ((k0 : Int) == (lm : Int)) = false := by simp; omega
                obtain ⟨k1, hk1⟩ : ∃ k1 : Nat, k1 = k0 + 1 := ⟨_, rfl⟩
                have hk1' : (k0 : Int) + 1 = (k1 : Int) := by omega
                have k1l : (k1 : Int) < (l : Int) := by omega
                have k10 : (0 : Int) ≤ (k1 : Int) := by omega
                rw [← hk1] at hgx
                have hc1 := Ints.cell (HI6.out.but HB7.out (fun f => f)) (k := k1) (by rw [FLA.out]; omega)
                rw [hgx] at hc1
                obtain ⟨b', off', hAA, hcj⟩ := HZ.out _ (HBW6.out.trans HB7.out) jx hjx
                cases hAA
                obtain ⟨b', off', hAA, hct⟩ := HZ.out _ (HBW6.out.trans HB7.out) t hti
                cases hAA
                obtain ⟨zj, hzj⟩ : ∃ zj, zj = z jx := ⟨_, rfl⟩
                rw [← hzj] at hcj hzx
                rw [← HZT.out] at hct hzx
                have jx0 : (0 : Int) ≤ (jx : Int) := by omega
                have jxl : (jx : Int) < (l : Int) := by omega
                have jxn : (jx : Int) < (n : Int) := by omega
                have g1 : decide ((0 : Int) ≤ (jx : Int)) = true := by simp
                have g2 : decide ((jx : Int) < (l : Int)) = true := by simp; omega
                have hwk : IntKind.i64.wrap ((k0 : Int) + 1) = (k1 : Int) := by rw [IntWalk.i64_in ((k0 : Int) + 1) (by omega)]; exact hk1'
                have hwk1 : IntKind.i64.wrap (k1 : Int) = (k1 : Int) := IntWalk.i64_in (k1 : Int) (by omega)
                clear hlm hk1 hzj hgx f5
                go_quiet (fail)
                clear hwl hwm hwk hwk1
                go_wp2
                go_ret
                exact ⟨rfl, (HBW6.out.trans HB7.out).drewN _⟩
set_option maxHeartbeats 8000000 in
set_option maxRecDepth 100000 in
theorem walk0 (A : Option Addr) (c : Nat) (a1 : Int) (w : World) :
    Calls Try.prog 6 #[.slice A 0 c, .int .i64 a1] w fun e w' => e = .returned (.bool true) ∧ But No w w' := by
  go_enter Try.func6, Try.ntmps6
  go_wp2_with (first
    | (go_at_call 9; refine (examples_any _).mono ?_; rintro e we ⟨rfl, hbe⟩; have HE := Lib.hid hbe; clear hbe)
    | (go_at_call 10; refine (new_ok 256 _ (by omega) (by omega)).mono ?_; rintro e w1 ⟨rfl, hne⟩; have HN1 := Lib.hid hne; clear hne))
  go_ret
  obtain ⟨S, hp, hb, hs⟩ := HN1.out
  exact ⟨rfl, HE.out.trans hb⟩
theorem walk (A : Option Addr) (n c : Nat) (zs : List Int) (_ : n ≤ c) (a1 : Int) (w1 : (Lit.int .i64 a1).wf = true) (w : World) (hz : Rd w A n zs) :
    Calls Try.prog 6 #[.slice A n c, .int .i64 a1] w fun e w' => e = .returned (.bool true) ∧ But No w w' := by
  by_cases h0 : n = 0
  · subst h0; exact walk0 A c a1 w
  · by_cases h : n ≤ 100
    · exact walkS A n c zs n rfl h (by omega) a1 w1 w hz
    · exact walkB A n c zs (by omega) a1 w1 w hz
end Go.Proofs.Ytlnoelahlbbgkaa.heapTurns
