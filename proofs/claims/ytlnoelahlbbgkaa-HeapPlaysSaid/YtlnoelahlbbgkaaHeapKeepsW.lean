/- What is not changed keeps its place among the others that are not: HeapKeeps returns true. (The walk.) -/
import Derived.Test.YtlnoelahlbbgkaaN
namespace Go.Proofs.Ytlnoelahlbbgkaa
open Go.ChangeShapes Go.WideShapes Go.ChangeAt Go.RowKit
theorem tf_yes {q : Int → Bool} {ids : List Int} {i : Nat} (hi : i < ids.length) (h : q (ids.getD i 0) = true) : (ids.take (i + 1)).filter q = (ids.take i).filter q ++ [ids.getD i 0] := by
  have e : ids.getD i 0 = ids[i] := by simp [List.getD, List.getElem?_eq_getElem hi]
  rw [e] at h ⊢
  rw [List.take_succ_eq_append_getElem hi, List.filter_append, List.filter_cons_of_pos h, List.filter_nil]
theorem tf_no {q : Int → Bool} {ids : List Int} {i : Nat} (hi : i < ids.length) (h : q (ids.getD i 0) = false) : (ids.take (i + 1)).filter q = (ids.take i).filter q := by
  have e : ids.getD i 0 = ids[i] := by simp [List.getD, List.getElem?_eq_getElem hi]
  rw [e] at h
  rw [List.take_succ_eq_append_getElem hi, List.filter_append, List.filter_cons_of_neg (by rw [h]; simp), List.filter_nil, List.append_nil]
theorem ins_flt {q : It → Bool} {x : It} (hx : q x = false) (L : List It) : (ins x L).filter q = L.filter q := by
  unfold ins
  rw [List.filter_append, List.filter_cons_of_neg (by rw [hx]; simp), ← List.filter_append, List.takeWhile_append_dropWhile]
theorem rmv_flt {q : It → Bool} {a : Int} (hq : ∀ x : It, x.id = a → q x = false) (L : List It) : (rmv a L).filter q = L.filter q := by
  cases h : hasI a L with
  | false => rw [rmv_not (hasI_false h)]
  | true =>
    obtain ⟨l1, x, l2, hx, hL, hr, _⟩ := rmv_split (hasI_true h)
    rw [hr, hL, List.filter_append, List.filter_append, List.filter_cons_of_neg (by rw [hq x hx]; simp)]
theorem pushL_flt {q : It → Bool} {a : Int} (hq : ∀ x : It, x.id = a → q x = false) (R T b : Int) (L : List It) : (pushL R T L a b).filter q = L.filter q := by
  unfold pushL; split
  · exact ins_flt (hq _ rfl) L
  · rfl
theorem chL_flt {q : It → Bool} {a : Int} (hq : ∀ x : It, x.id = a → q x = false) (T b : Int) (L : List It) : (chL T L a b).filter q = L.filter q := by
  unfold chL; split
  · rw [ins_flt (hq _ rfl), rmv_flt hq]
  · rfl
theorem pushT_le (R T : Int) (L : List It) (a : Int) : pushT R T L a ≤ T + 1 := by unfold pushT; split <;> omega
theorem chT_le (T : Int) (L : List It) (a : Int) : chT T L a ≤ T + 1 := by unfold chT; split <;> omega
namespace heapKeeps
def low (x : It) : Bool := decide (x.id < 20)
theorem low_no {t : Nat} : ∀ x : It, x.id = 20 + (t : Int) → low x = false := by
  intro x hx; unfold low; rw [hx]; simp; omega
theorem low_map (L : List It) : (L.map It.id).filter (fun a => decide (a < 20)) = (L.filter low).map It.id := by
  rw [List.filter_map]; rfl
structure KS (w wr : World) (p b1 : Nat) (z : Nat → Int) (nn k : Nat) (S : Nat → Prop) (T : Int) (L : List It) : Prop where
  hw : Hw w wr S p 256 T L
  bf : Ints wr b1 ((Ls z nn).map It.id)
  nb : ¬ S b1
  fl : L.filter low = Ls z nn
  t1 : T ≤ nn + k
def Rel (w wr : World) (p b1 : Nat) (z : Nat → Int) (nn k : Nat) : Prop := ∃ S T L, KS w wr p b1 z nn k S T L
theorem KS.step {w wr wx w' : World} {p b1 : Nat} {z : Nat → Int} {nn k : Nat} {S : Nat → Prop} {T T' : Int} {L L' : List It} (h : KS w wr p b1 z nn k S T L) (hb : But No wr wx) (hm : Mv wx S p 256 T' L' w') (hT : T' ≤ T + 1) (hf : L'.filter low = L.filter low) : Rel w w' p b1 z nn (k + 1) := by
  obtain ⟨S', h1, h2, h3⟩ := (h.hw.no hb).step hm
  have hbf := h.bf.but hb (fun f => f)
  exact ⟨S', T', L', h1, hbf.but h2 h.nb, fun hk => (h3 b1 hk).elim h.nb (fun g => by have := hbf.lt; omega), by rw [hf, h.fl], by have := h.t1; omega⟩
theorem flt_Ls {z : Nat → Int} {nn : Nat} (h : nn ≤ 20) : (Ls z nn).filter low = Ls z nn := by
  rw [List.filter_eq_self]
  intro x hx
  obtain ⟨j, hj, rfl⟩ := mem_Ls.1 hx
  show decide ((j : Int) < 20) = true
  simp; omega
set_option maxHeartbeats 8000000 in
set_option maxRecDepth 100000 in
theorem walkS (A : Option Addr) (nn c : Nat) (zs : List Int) (n : Nat) (hnn : n = nn) (nn2 : nn ≤ 20) (B : Option Addr) (m d : Nat) (kd di dk : Nat → Int) (w : World) (hz : Rd w A n zs) (hd : RdD w B m kd di dk) :
    Calls Try.prog 5 #[.slice A n c, .slice B m d] w fun e w' => e = .returned (.bool true) ∧ But No w w' := by
  obtain ⟨z, hzz⟩ : ∃ z : Nat → Int, z = fun j => zs.getD j 0 := ⟨_, rfl⟩
  have nsm : (n : Int) ≤ 20 := by omega
  have nle : nn ≤ n := by omega
  have HNN := Lib.hid hnn
  have HZ : Hid (∀ w', But No w w' → ∀ j, j < nn → ∃ b off, A = some ⟨b, off, none⟩ ∧ w'.cell? ⟨b, off + j, none⟩ = some (.int .i64 (z j))) := by
    intro w' hb j hj
    obtain ⟨b, off, e, _, hc⟩ := (hz.no hb).at_ (by omega)
    exact ⟨b, off, e, by rw [hzz]; exact hc j (by omega)⟩
  obtain ⟨i0, hi0, hz0, hz1, hz2⟩ := info_parts info3
  have I0 : Hid (Try.prog.info? 3 = some i0 ∧ i0.zero = some (.int .i64 0) ∧ i0.size = 1 ∧ i0.bytes = 8) := ⟨hi0, hz0, hz1, hz2⟩
  have HD := Lib.hid hd
  have hdmax := hd.max
  clear hi0 hz0 hz1 hz2 hz hzz hd hnn
  go_enter Try.func5, Try.ntmps5
  go_wp2_with (first
    | (go_at_call 9; refine (examples_any _).mono ?_; rintro e we ⟨rfl, hbe⟩; have HE := Lib.hid hbe; clear hbe)
    | (go_at_call 10; refine (new_ok 256 _ (by omega) (by omega)).mono ?_; rintro e w1 ⟨rfl, hne⟩; have HN1 := Lib.hid hne; clear hne))
  simp only [show Value.int .i64 (n : Int) = Value.int .i64 (nn : Int) from by rw [HNN.out]]
  clear HNN
  have H1 : Hid (∃ S, Hw w w1 S (we.heap.size + 1) 256 ((0 : Nat) : Int) (Ls z 0)) := by
    obtain ⟨S, hp, hb, hs⟩ := HN1.out
    exact ⟨S, hp, HE.out.trans hb, fun k hk => Nat.le_trans HE.out.size (hs k hk)⟩
  clear HN1
  generalize hp : we.heap.size + 1 = p at H1 ⊢
  clear hp
  go_loopw [9] (fun s wr => ∃ i : Nat, s = .int .i64 i ∧ i ≤ nn ∧ Hid (∃ S, Hw w wr S p 256 i (Ls z i))) (fun s _ => nn - (intOf s).toNat)
  case atStart => exact ⟨0, rfl, by omega, H1⟩
  case round =>
    obtain ⟨i, rfl, hin, hex⟩ := hrel
    clear H1
    by_cases hlt : i < nn
    · obtain ⟨S, hs⟩ := hex.out
      have HS := Lib.hid hs
      obtain ⟨b, off, rfl, hcell⟩ := HZ.out _ hs.but i hlt
      clear hs hex
      have hi' : (i : Int) < (n : Int) := by omega
      have hi2 : (i : Int) < (nn : Int) := by omega
      obtain ⟨zi, hzi⟩ : ∃ zi, zi = z i := ⟨_, rfl⟩
      rw [← hzi] at hcell
      have HPE := Lib.hid (pushE_Ls (z := z) (i := i) (by omega))
      have CPU : Hid (Calls Try.prog 13 #[.pointer (some ⟨p, 0, none⟩), .int .i64 i, .int .i64 zi] wr fun e w' => e = .returned (.int .i64 0) ∧ Mv wr S p 256 (pushT 256 i (Ls z i) i) (pushL 256 i (Ls z i) i (z i)) w') := by
        have := push_any p 256 i (Ls z i) S wr i zi (inR_small (by omega)) HS.out.hp (by omega)
        rw [HPE.out, hzi] at this
        rw [hzi]; exact this
      clear hzi
      go_wp2_with (go_at_call 13; refine CPU.out.mono ?_; rintro e w3 ⟨rfl, hm⟩; have HM := Lib.hid hm; clear hm)
      go_roundw
      case rel => exact ⟨i + 1, by go_num, by omega, push_Ls (by omega) HS.out HM.out⟩
      case measure => simp [intOf]; omega
    · obtain rfl : i = nn := by omega
      clear hlt
      have i2 : decide ((i : Int) < (i : Int)) = false := by simp
      obtain ⟨S, hs⟩ := hex.out
      have HS := Lib.hid hs
      clear hs hex
      go_wp2_with (go_at_call 23; refine (all_any p 256 i (Ls z i) S _ HS.out.hp).mono ?_; rintro e w2 ⟨b1, rfl, hI, hb, hbl⟩; have HI := Lib.hid hI; have HB := Lib.hid hb; have HBL := Lib.hid hbl; clear hI hb hbl; simp only [len_Ls])
      have H2 : Hid (Rel w w2 p b1 z i 0) :=
        ⟨S, i, Ls z i, HS.out.no HB.out, HI.out, fun hk => by have := HS.out.hp.lt _ hk; have := HBL.out; omega, flt_Ls (by omega), by omega⟩
      clear HI HB HBL HS
      go_loopw [11] (fun s wr => ∃ k : Nat, s = .int .i64 k ∧ k ≤ m ∧ k ≤ 100 ∧ Hid (Rel w wr p b1 z i k)) (fun s _ => m - (intOf s).toNat)
      case atStart => exact ⟨0, rfl, by omega, by omega, H2⟩
      case round =>
        obtain ⟨k, rfl, hk, hk1, hrel⟩ := hrel
        clear H2
        obtain ⟨S, T, L, hs⟩ := hrel.out
        have HS := Lib.hid hs
        have hT : T < 1000000 := by have := hs.t1; omega
        clear hs hrel
        by_cases hgo : k < m ∧ k < 100
        · obtain ⟨hlt, hl1⟩ := hgo
          obtain ⟨db, doff, rfl, hbl, hc⟩ := (HD.out.no HS.out.hw.but).at_ (by omega)
          obtain ⟨c0, c1, c2⟩ := hc k hlt
          obtain ⟨f0, f1, f2⟩ := HD.out.fit k hlt
          have q1 := pk_lt (di k) 50 (by omega)
          have q0 := pk_lt (kd k) 3 (by omega)
          generalize hx0 : kd k = x0 at c0 f0 q0
          generalize hx1 : di k = x1 at c1 f1 q1
          generalize hx2 : dk k = x2 at c2 f2
          obtain ⟨t, ht⟩ : ∃ t : Nat, pk x1 50 = (t : Int) := ⟨(pk x1 50).toNat, by omega⟩
          have ht50 : t < 50 := by omega
          have CI : Hid (∀ w, Calls Try.prog 12 #[.int .i64 x1, .int .i64 50] w fun e w' => e = .returned (.int .i64 (t : Int)) ∧ w = w') := fun w => by rw [← ht]; exact pick_any x1 50 w f1 (by omega) (by omega)
          have km' : (k : Int) < (m : Int) := by omega
          have k1' : (k : Int) < 100 := by omega
          have FI := Lib.hid f0
          have HWX : Hid (∀ o, Hw w (wr.alloc o) S p 256 T L) := fun o => HS.out.hw.no ((But.refl No wr).alloc o)
          clear hc hbl f0 f1 f2 hx0 hx1 hx2 q1 ht
          by_cases h0 : pk x0 3 = 0
          · have CK : Hid (∀ w, Calls Try.prog 12 #[.int .i64 x0, .int .i64 3] w fun e w' => e = .returned (.int .i64 0) ∧ w = w') := fun w => by rw [← h0]; exact pick_any x0 3 w FI.out (by omega) (by omega)
            clear h0 q0
            go_wp2_with (first | (go_at_call 12; ((with_reducible refine (CI.out _).mono ?_); rintro e w2 ⟨rfl, rfl⟩)) | (go_at_call 12; ((with_reducible refine (CK.out _).mono ?_); rintro e w2 ⟨rfl, rfl⟩)) | (go_at_call 13; refine (push_any p 256 T L S _ (20 + (t : Int)) x2 (inR_small (by omega)) (HWX.out _).hp hT).mono ?_; rintro e w3 ⟨rfl, hm⟩; have HM := Lib.hid hm; clear hm))
            go_roundw
            case rel => exact ⟨k + 1, by go_num, by omega, by omega, HS.out.step ((But.refl No wr).alloc _) HM.out (pushT_le _ _ _ _) (pushL_flt low_no _ _ _ _)⟩
            case measure => simp [intOf]; omega
          · by_cases h1 : pk x0 3 = 1
            · have CK : Hid (∀ w, Calls Try.prog 12 #[.int .i64 x0, .int .i64 3] w fun e w' => e = .returned (.int .i64 1) ∧ w = w') := fun w => by rw [← h1]; exact pick_any x0 3 w FI.out (by omega) (by omega)
              clear h0 h1 q0
              go_wp2_with (first | (go_at_call 12; ((with_reducible refine (CI.out _).mono ?_); rintro e w2 ⟨rfl, rfl⟩)) | (go_at_call 12; ((with_reducible refine (CK.out _).mono ?_); rintro e w2 ⟨rfl, rfl⟩)) | (go_at_call 17; refine (change_any p 256 T L S _ (20 + (t : Int)) x2 (inR_small (by omega)) (HWX.out _).hp hT).mono ?_; rintro e w3 ⟨rfl, hm⟩; have HM := Lib.hid hm; clear hm))
              go_roundw
              case rel => exact ⟨k + 1, by go_num, by omega, by omega, HS.out.step ((But.refl No wr).alloc _) HM.out (chT_le _ _ _) (chL_flt low_no _ _ _)⟩
              case measure => simp [intOf]; omega
            · have h2 : pk x0 3 = 2 := by omega
              have CK : Hid (∀ w, Calls Try.prog 12 #[.int .i64 x0, .int .i64 3] w fun e w' => e = .returned (.int .i64 2) ∧ w = w') := fun w => by rw [← h2]; exact pick_any x0 3 w FI.out (by omega) (by omega)
              clear h0 h1 h2 q0
              go_wp2_with (first | (go_at_call 12; ((with_reducible refine (CI.out _).mono ?_); rintro e w2 ⟨rfl, rfl⟩)) | (go_at_call 12; ((with_reducible refine (CK.out _).mono ?_); rintro e w2 ⟨rfl, rfl⟩)) | (go_at_call 19; refine (remove_any p 256 T L S _ (20 + (t : Int)) (inR_small (by omega)) (HWX.out _).hp).mono ?_; rintro e w3 ⟨rfl, hm⟩; have HM := Lib.hid hm; clear hm))
              go_roundw
              case rel => exact ⟨k + 1, by go_num, by omega, by omega, HS.out.step ((But.refl No wr).alloc _) HM.out (by omega) (rmv_flt low_no _)⟩
              case measure => simp [intOf]; omega
        · have hL : L.length ≤ 256 := by have := HS.out.hw.hp.len; omega
          have E1 : Hid ((decide ((k : Int) < (m : Int)) && decide ((k : Int) < 100)) = false) := by show _ = _; simp; omega
          by_cases hkm : k < m
          · have b1d : (k : Int) < (m : Int) := by omega
            have b2d : decide ((k : Int) < 100) = false := by simp; omega
            go_wp2_with (go_at_call 23; refine (all_any p 256 T L S _ HS.out.hw.hp).mono ?_; rintro e w5 ⟨b2, rfl, hI, hb, hbl⟩; have HI := Lib.hid hI; have HB := Lib.hid hb; clear hI hb hbl)
            have H5 : Hid (Ov w5 (.slice none 0 0) (((L.map It.id).take 0).filter (fun a => decide (a < 20)))) := by show Ov _ _ _; simp; exact Ov.nil w5
            go_loopw [13, 15] (fun s t wx => ∃ (v : Value) (j : Nat), s = v ∧ t = .int .i64 j ∧ j ≤ L.length ∧ Hid (Ov wx v (((L.map It.id).take j).filter (fun a => decide (a < 20)))) ∧ Hid (But No w5 wx) ∧ Hid (∀ q, v.ownBlock = some q → w5.heap.size ≤ q)) (fun _ t _ => L.length - (intOf t).toNat)
            case atStart => exact ⟨_, 0, rfl, rfl, by omega, H5, But.refl _ _, fun q e => by simp [Value.ownBlock] at e⟩
            case round =>
              obtain ⟨v, j, hsv, rfl, hj, hov, hb5, hown⟩ := hrel
              have hsv' := hsv.symm
              subst hsv'
              clear H5
              by_cases hjl : j < L.length
              · have hcell := Ints.cell (HI.out.but hb5.out (fun f => f)) (k := j) (by simpa using hjl)
                have jl' : (j : Int) < (L.length : Int) := by omega
                obtain ⟨y, hy⟩ : ∃ y, y = (L.map It.id).getD j 0 := ⟨_, rfl⟩
                rw [← hy] at hcell
                have hjm : j < (L.map It.id).length := by simpa using hjl
                by_cases hlow : y < 20
                · have HF : Hid (((L.map It.id).take (j + 1)).filter (fun a => decide (a < 20)) = ((L.map It.id).take j).filter (fun a => decide (a < 20)) ++ [y]) := by
                    have := tf_yes (q := fun a => decide (a < 20)) hjm (by rw [← hy]; simpa using hlow)
                    rw [← hy] at this; exact this
                  obtain ⟨zsf, hzsf⟩ : ∃ l, l = ((L.map It.id).take j).filter (fun a => decide (a < 20)) := ⟨_, rfl⟩
                  have hlz : zsf.length ≤ 256 := by rw [hzsf]; refine Nat.le_trans (List.length_filter_le _ _) ?_; rw [List.length_take]; simp; omega
                  rw [← hzsf] at hov HF
                  have ROW := Lib.hid (hov.out.but (S := No) ((But.refl No wr).alloc (.cells #[.int .i64 y] 3)) (fun _ _ f => f))
                  have hlow' : decide (y < 20) = true := by simpa using hlow
                  clear hy hzsf
                  go_wp2_with (at_builtin; refine wpList_append_lies _ rfl _ _ 40 rfl 0 3 i0 _ 1 8 Try.underlying40 I0.out.1 I0.out.2.1 I0.out.2.2.1 I0.out.2.2.2 rfl (by omega) _ zsf.length (zsf.map (Value.int .i64)) rfl ROW.out ⟨wr.heap.size, 0, none⟩ 1 1 [.int .i64 y] rfl rfl (one_news wr y) (by simp [Value.oneCell']) (by omega) (by unfold maxLen; omega) (by omega) (Nat.zero_le _) (wr.heap.size + 1) (by simp) ?_; intro g2 cap2 w6 hown6 hgrow6 hat6 hlt6)
                  obtain ⟨o1, o2, o3⟩ := Ov.app hb5.out hown.out hown6 hgrow6 hat6
                  have O1 := Lib.hid o1
                  have O2 := Lib.hid o2
                  have O3 := Lib.hid o3
                  clear hown6 hgrow6 hat6 hlt6 o1 o2 o3 ROW
                  go_wp2
                  go_roundw
                  case rel => exact ⟨_, j + 1, rfl, by go_num, by omega, by rw [HF.out]; exact O1, O2, O3⟩
                  case measure => simp [intOf]; omega
                · have HF : Hid (((L.map It.id).take (j + 1)).filter (fun a => decide (a < 20)) = ((L.map It.id).take j).filter (fun a => decide (a < 20))) := tf_no hjm (by rw [← hy]; simpa using hlow)
                  have hlow' : decide (y < 20) = false := by simpa using hlow
                  clear hy
                  go_wp2
                  go_roundw
                  case rel => exact ⟨v, j + 1, rfl, by go_num, by omega, by rw [HF.out]; exact hov, hb5, hown⟩
                  case measure => simp [intOf]; omega
              · obtain rfl : j = L.length := by omega
                have jl' : decide ((L.length : Int) < (L.length : Int)) = false := by simp
                have HEQ : Hid (((L.map It.id).take L.length).filter (fun a => decide (a < 20)) = (Ls z i).map It.id) := by
                  show _ = _
                  rw [List.take_of_length_le (by simp), low_map, HS.out.fl]
                have hov2 := hov.out
                rw [HEQ.out] at hov2
                have hl2 : ((Ls z i).map It.id).length = i := by rw [List.length_map, len_Ls]
                obtain ⟨A2, cc2, hv2, _⟩ := hov2.slice
                rw [hl2] at hv2
                subst hv2
                have hr2 := (hov2.rl (by omega)).1
                have hr1 := Ints.rl (HS.out.bf.but (HB.out.trans hb5.out) (fun f => f)) (by omega)
                rw [hl2] at hr1
                have CN : Hid (Calls Try.prog 24 #[.slice (some ⟨b1, 0, none⟩) i i, .slice A2 i cc2] wr fun e w' => e = .returned (.bool true) ∧ But No wr w') := by
                  have := numbers_any (some ⟨b1, 0, none⟩) A2 i i i cc2 _ _ wr hr1 hr2
                  simp only [decide_true] at this
                  exact this
                have HBW := Lib.hid (HS.out.hw.but.trans (HB.out.trans hb5.out))
                have i3 : ((i : Int) == (i : Int)) = true := by simp
                clear hov hov2 hl2 hr1 hr2 HEQ hown
                go_wp2_with (go_at_call 24; refine CN.out.mono ?_; rintro e w7 ⟨rfl, hb7⟩; have HB7 := Lib.hid hb7; clear hb7)
                go_ret
                exact ⟨rfl, HBW.out.trans HB7.out⟩
          · have b1d : decide ((k : Int) < (m : Int)) = false := by simp; omega
            go_wp2_with (go_at_call 23; refine (all_any p 256 T L S _ HS.out.hw.hp).mono ?_; rintro e w5 ⟨b2, rfl, hI, hb, hbl⟩; have HI := Lib.hid hI; have HB := Lib.hid hb; clear hI hb hbl)
            have H5 : Hid (Ov w5 (.slice none 0 0) (((L.map It.id).take 0).filter (fun a => decide (a < 20)))) := by show Ov _ _ _; simp; exact Ov.nil w5
            go_loopw [13, 15] (fun s t wx => ∃ (v : Value) (j : Nat), s = v ∧ t = .int .i64 j ∧ j ≤ L.length ∧ Hid (Ov wx v (((L.map It.id).take j).filter (fun a => decide (a < 20)))) ∧ Hid (But No w5 wx) ∧ Hid (∀ q, v.ownBlock = some q → w5.heap.size ≤ q)) (fun _ t _ => L.length - (intOf t).toNat)
            case atStart => exact ⟨_, 0, rfl, rfl, by omega, H5, But.refl _ _, fun q e => by simp [Value.ownBlock] at e⟩
            case round =>
              obtain ⟨v, j, hsv, rfl, hj, hov, hb5, hown⟩ := hrel
              have hsv' := hsv.symm
              subst hsv'
              clear H5
              by_cases hjl : j < L.length
              · have hcell := Ints.cell (HI.out.but hb5.out (fun f => f)) (k := j) (by simpa using hjl)
                have jl' : (j : Int) < (L.length : Int) := by omega
                obtain ⟨y, hy⟩ : ∃ y, y = (L.map It.id).getD j 0 := ⟨_, rfl⟩
                rw [← hy] at hcell
                have hjm : j < (L.map It.id).length := by simpa using hjl
                by_cases hlow : y < 20
                · have HF : Hid (((L.map It.id).take (j + 1)).filter (fun a => decide (a < 20)) = ((L.map It.id).take j).filter (fun a => decide (a < 20)) ++ [y]) := by
                    have := tf_yes (q := fun a => decide (a < 20)) hjm (by rw [← hy]; simpa using hlow)
                    rw [← hy] at this; exact this
                  obtain ⟨zsf, hzsf⟩ : ∃ l, l = ((L.map It.id).take j).filter (fun a => decide (a < 20)) := ⟨_, rfl⟩
                  have hlz : zsf.length ≤ 256 := by rw [hzsf]; refine Nat.le_trans (List.length_filter_le _ _) ?_; rw [List.length_take]; simp; omega
                  rw [← hzsf] at hov HF
                  have ROW := Lib.hid (hov.out.but (S := No) ((But.refl No wr).alloc (.cells #[.int .i64 y] 3)) (fun _ _ f => f))
                  have hlow' : decide (y < 20) = true := by simpa using hlow
                  clear hy hzsf
                  go_wp2_with (at_builtin; refine wpList_append_lies _ rfl _ _ 40 rfl 0 3 i0 _ 1 8 Try.underlying40 I0.out.1 I0.out.2.1 I0.out.2.2.1 I0.out.2.2.2 rfl (by omega) _ zsf.length (zsf.map (Value.int .i64)) rfl ROW.out ⟨wr.heap.size, 0, none⟩ 1 1 [.int .i64 y] rfl rfl (one_news wr y) (by simp [Value.oneCell']) (by omega) (by unfold maxLen; omega) (by omega) (Nat.zero_le _) (wr.heap.size + 1) (by simp) ?_; intro g2 cap2 w6 hown6 hgrow6 hat6 hlt6)
                  obtain ⟨o1, o2, o3⟩ := Ov.app hb5.out hown.out hown6 hgrow6 hat6
                  have O1 := Lib.hid o1
                  have O2 := Lib.hid o2
                  have O3 := Lib.hid o3
                  clear hown6 hgrow6 hat6 hlt6 o1 o2 o3 ROW
                  go_wp2
                  go_roundw
                  case rel => exact ⟨_, j + 1, rfl, by go_num, by omega, by rw [HF.out]; exact O1, O2, O3⟩
                  case measure => simp [intOf]; omega
                · have HF : Hid (((L.map It.id).take (j + 1)).filter (fun a => decide (a < 20)) = ((L.map It.id).take j).filter (fun a => decide (a < 20))) := tf_no hjm (by rw [← hy]; simpa using hlow)
                  have hlow' : decide (y < 20) = false := by simpa using hlow
                  clear hy
                  go_wp2
                  go_roundw
                  case rel => exact ⟨v, j + 1, rfl, by go_num, by omega, by rw [HF.out]; exact hov, hb5, hown⟩
                  case measure => simp [intOf]; omega
              · obtain rfl : j = L.length := by omega
                have jl' : decide ((L.length : Int) < (L.length : Int)) = false := by simp
                have HEQ : Hid (((L.map It.id).take L.length).filter (fun a => decide (a < 20)) = (Ls z i).map It.id) := by
                  show _ = _
                  rw [List.take_of_length_le (by simp), low_map, HS.out.fl]
                have hov2 := hov.out
                rw [HEQ.out] at hov2
                have hl2 : ((Ls z i).map It.id).length = i := by rw [List.length_map, len_Ls]
                obtain ⟨A2, cc2, hv2, _⟩ := hov2.slice
                rw [hl2] at hv2
                subst hv2
                have hr2 := (hov2.rl (by omega)).1
                have hr1 := Ints.rl (HS.out.bf.but (HB.out.trans hb5.out) (fun f => f)) (by omega)
                rw [hl2] at hr1
                have CN : Hid (Calls Try.prog 24 #[.slice (some ⟨b1, 0, none⟩) i i, .slice A2 i cc2] wr fun e w' => e = .returned (.bool true) ∧ But No wr w') := by
                  have := numbers_any (some ⟨b1, 0, none⟩) A2 i i i cc2 _ _ wr hr1 hr2
                  simp only [decide_true] at this
                  exact this
                have HBW := Lib.hid (HS.out.hw.but.trans (HB.out.trans hb5.out))
                have i3 : ((i : Int) == (i : Int)) = true := by simp
                clear hov hov2 hl2 hr1 hr2 HEQ hown
                go_wp2_with (go_at_call 24; refine CN.out.mono ?_; rintro e w7 ⟨rfl, hb7⟩; have HB7 := Lib.hid hb7; clear hb7)
                go_ret
                exact ⟨rfl, HBW.out.trans HB7.out⟩
set_option maxHeartbeats 8000000 in
set_option maxRecDepth 100000 in
theorem walkB (A : Option Addr) (n c : Nat) (zs : List Int) (nn2 : 20 < n) (B : Option Addr) (m d : Nat) (kd di dk : Nat → Int) (w : World) (hz : Rd w A n zs) (hd : RdD w B m kd di dk) :
    Calls Try.prog 5 #[.slice A n c, .slice B m d] w fun e w' => e = .returned (.bool true) ∧ But No w w' := by
  obtain ⟨z, hzz⟩ : ∃ z : Nat → Int, z = fun j => zs.getD j 0 := ⟨_, rfl⟩
  obtain ⟨nn, hnn⟩ : ∃ nn : Nat, nn = 20 := ⟨_, rfl⟩
  have hmax := hz.max
  have nsm : (20 : Int) < (n : Int) := by omega
  have HNN := Lib.hid hnn
  have nle : nn ≤ 20 := by omega
  have nge : 20 ≤ nn := by omega
  have HZ : Hid (∀ w', But No w w' → ∀ j, j < nn → ∃ b off, A = some ⟨b, off, none⟩ ∧ w'.cell? ⟨b, off + j, none⟩ = some (.int .i64 (z j))) := by
    intro w' hb j hj
    obtain ⟨b, off, e, _, hc⟩ := (hz.no hb).at_ (by omega)
    exact ⟨b, off, e, by rw [hzz]; exact hc j (by omega)⟩
  obtain ⟨i0, hi0, hz0, hz1, hz2⟩ := info_parts info3
  have I0 : Hid (Try.prog.info? 3 = some i0 ∧ i0.zero = some (.int .i64 0) ∧ i0.size = 1 ∧ i0.bytes = 8) := ⟨hi0, hz0, hz1, hz2⟩
  have HD := Lib.hid hd
  have hdmax := hd.max
  clear hi0 hz0 hz1 hz2 hz hzz hd hnn
  go_enter Try.func5, Try.ntmps5
  go_wp2_with (first
    | (go_at_call 9; refine (examples_any _).mono ?_; rintro e we ⟨rfl, hbe⟩; have HE := Lib.hid hbe; clear hbe)
    | (go_at_call 10; refine (new_ok 256 _ (by omega) (by omega)).mono ?_; rintro e w1 ⟨rfl, hne⟩; have HN1 := Lib.hid hne; clear hne))
  simp only [show Value.int .i64 20 = Value.int .i64 (nn : Int) from by rw [HNN.out]; rfl]
  clear HNN
  have H1 : Hid (∃ S, Hw w w1 S (we.heap.size + 1) 256 ((0 : Nat) : Int) (Ls z 0)) := by
    obtain ⟨S, hp, hb, hs⟩ := HN1.out
    exact ⟨S, hp, HE.out.trans hb, fun k hk => Nat.le_trans HE.out.size (hs k hk)⟩
  clear HN1
  generalize hp : we.heap.size + 1 = p at H1 ⊢
  clear hp
  go_loopw [9] (fun s wr => ∃ i : Nat, s = .int .i64 i ∧ i ≤ nn ∧ Hid (∃ S, Hw w wr S p 256 i (Ls z i))) (fun s _ => nn - (intOf s).toNat)
  case atStart => exact ⟨0, rfl, by omega, H1⟩
  case round =>
    obtain ⟨i, rfl, hin, hex⟩ := hrel
    clear H1
    by_cases hlt : i < nn
    · obtain ⟨S, hs⟩ := hex.out
      have HS := Lib.hid hs
      obtain ⟨b, off, rfl, hcell⟩ := HZ.out _ hs.but i hlt
      clear hs hex
      have hi' : (i : Int) < (n : Int) := by omega
      have hi2 : (i : Int) < (nn : Int) := by omega
      obtain ⟨zi, hzi⟩ : ∃ zi, zi = z i := ⟨_, rfl⟩
      rw [← hzi] at hcell
      have HPE := Lib.hid (pushE_Ls (z := z) (i := i) (by omega))
      have CPU : Hid (Calls Try.prog 13 #[.pointer (some ⟨p, 0, none⟩), .int .i64 i, .int .i64 zi] wr fun e w' => e = .returned (.int .i64 0) ∧ Mv wr S p 256 (pushT 256 i (Ls z i) i) (pushL 256 i (Ls z i) i (z i)) w') := by
        have := push_any p 256 i (Ls z i) S wr i zi (inR_small (by omega)) HS.out.hp (by omega)
        rw [HPE.out, hzi] at this
        rw [hzi]; exact this
      clear hzi
      go_wp2_with (go_at_call 13; refine CPU.out.mono ?_; rintro e w3 ⟨rfl, hm⟩; have HM := Lib.hid hm; clear hm)
      go_roundw
      case rel => exact ⟨i + 1, by go_num, by omega, push_Ls (by omega) HS.out HM.out⟩
      case measure => simp [intOf]; omega
    · obtain rfl : i = nn := by omega
      clear hlt
      have i2 : decide ((i : Int) < (i : Int)) = false := by simp
      obtain ⟨S, hs⟩ := hex.out
      have HS := Lib.hid hs
      clear hs hex
      go_wp2_with (go_at_call 23; refine (all_any p 256 i (Ls z i) S _ HS.out.hp).mono ?_; rintro e w2 ⟨b1, rfl, hI, hb, hbl⟩; have HI := Lib.hid hI; have HB := Lib.hid hb; have HBL := Lib.hid hbl; clear hI hb hbl; simp only [len_Ls])
      have H2 : Hid (Rel w w2 p b1 z i 0) :=
        ⟨S, i, Ls z i, HS.out.no HB.out, HI.out, fun hk => by have := HS.out.hp.lt _ hk; have := HBL.out; omega, flt_Ls (by omega), by omega⟩
      clear HI HB HBL HS
      go_loopw [11] (fun s wr => ∃ k : Nat, s = .int .i64 k ∧ k ≤ m ∧ k ≤ 100 ∧ Hid (Rel w wr p b1 z i k)) (fun s _ => m - (intOf s).toNat)
      case atStart => exact ⟨0, rfl, by omega, by omega, H2⟩
      case round =>
        obtain ⟨k, rfl, hk, hk1, hrel⟩ := hrel
        clear H2
        obtain ⟨S, T, L, hs⟩ := hrel.out
        have HS := Lib.hid hs
        have hT : T < 1000000 := by have := hs.t1; omega
        clear hs hrel
        by_cases hgo : k < m ∧ k < 100
        · obtain ⟨hlt, hl1⟩ := hgo
          obtain ⟨db, doff, rfl, hbl, hc⟩ := (HD.out.no HS.out.hw.but).at_ (by omega)
          obtain ⟨c0, c1, c2⟩ := hc k hlt
          obtain ⟨f0, f1, f2⟩ := HD.out.fit k hlt
          have q1 := pk_lt (di k) 50 (by omega)
          have q0 := pk_lt (kd k) 3 (by omega)
          generalize hx0 : kd k = x0 at c0 f0 q0
          generalize hx1 : di k = x1 at c1 f1 q1
          generalize hx2 : dk k = x2 at c2 f2
          obtain ⟨t, ht⟩ : ∃ t : Nat, pk x1 50 = (t : Int) := ⟨(pk x1 50).toNat, by omega⟩
          have ht50 : t < 50 := by omega
          have CI : Hid (∀ w, Calls Try.prog 12 #[.int .i64 x1, .int .i64 50] w fun e w' => e = .returned (.int .i64 (t : Int)) ∧ w = w') := fun w => by rw [← ht]; exact pick_any x1 50 w f1 (by omega) (by omega)
          have km' : (k : Int) < (m : Int) := by omega
          have k1' : (k : Int) < 100 := by omega
          have FI := Lib.hid f0
          have HWX : Hid (∀ o, Hw w (wr.alloc o) S p 256 T L) := fun o => HS.out.hw.no ((But.refl No wr).alloc o)
          clear hc hbl f0 f1 f2 hx0 hx1 hx2 q1 ht
          by_cases h0 : pk x0 3 = 0
          · have CK : Hid (∀ w, Calls Try.prog 12 #[.int .i64 x0, .int .i64 3] w fun e w' => e = .returned (.int .i64 0) ∧ w = w') := fun w => by rw [← h0]; exact pick_any x0 3 w FI.out (by omega) (by omega)
            clear h0 q0
            go_wp2_with (first | (go_at_call 12; ((with_reducible refine (CI.out _).mono ?_); rintro e w2 ⟨rfl, rfl⟩)) | (go_at_call 12; ((with_reducible refine (CK.out _).mono ?_); rintro e w2 ⟨rfl, rfl⟩)) | (go_at_call 13; refine (push_any p 256 T L S _ (20 + (t : Int)) x2 (inR_small (by omega)) (HWX.out _).hp hT).mono ?_; rintro e w3 ⟨rfl, hm⟩; have HM := Lib.hid hm; clear hm))
            go_roundw
            case rel => exact ⟨k + 1, by go_num, by omega, by omega, HS.out.step ((But.refl No wr).alloc _) HM.out (pushT_le _ _ _ _) (pushL_flt low_no _ _ _ _)⟩
            case measure => simp [intOf]; omega
          · by_cases h1 : pk x0 3 = 1
            · have CK : Hid (∀ w, Calls Try.prog 12 #[.int .i64 x0, .int .i64 3] w fun e w' => e = .returned (.int .i64 1) ∧ w = w') := fun w => by rw [← h1]; exact pick_any x0 3 w FI.out (by omega) (by omega)
              clear h0 h1 q0
              go_wp2_with (first | (go_at_call 12; ((with_reducible refine (CI.out _).mono ?_); rintro e w2 ⟨rfl, rfl⟩)) | (go_at_call 12; ((with_reducible refine (CK.out _).mono ?_); rintro e w2 ⟨rfl, rfl⟩)) | (go_at_call 17; refine (change_any p 256 T L S _ (20 + (t : Int)) x2 (inR_small (by omega)) (HWX.out _).hp hT).mono ?_; rintro e w3 ⟨rfl, hm⟩; have HM := Lib.hid hm; clear hm))
              go_roundw
              case rel => exact ⟨k + 1, by go_num, by omega, by omega, HS.out.step ((But.refl No wr).alloc _) HM.out (chT_le _ _ _) (chL_flt low_no _ _ _)⟩
              case measure => simp [intOf]; omega
            · have h2 : pk x0 3 = 2 := by omega
              have CK : Hid (∀ w, Calls Try.prog 12 #[.int .i64 x0, .int .i64 3] w fun e w' => e = .returned (.int .i64 2) ∧ w = w') := fun w => by rw [← h2]; exact pick_any x0 3 w FI.out (by omega) (by omega)
              clear h0 h1 h2 q0
              go_wp2_with (first | (go_at_call 12; ((with_reducible refine (CI.out _).mono ?_); rintro e w2 ⟨rfl, rfl⟩)) | (go_at_call 12; ((with_reducible refine (CK.out _).mono ?_); rintro e w2 ⟨rfl, rfl⟩)) | (go_at_call 19; refine (remove_any p 256 T L S _ (20 + (t : Int)) (inR_small (by omega)) (HWX.out _).hp).mono ?_; rintro e w3 ⟨rfl, hm⟩; have HM := Lib.hid hm; clear hm))
              go_roundw
              case rel => exact ⟨k + 1, by go_num, by omega, by omega, HS.out.step ((But.refl No wr).alloc _) HM.out (by omega) (rmv_flt low_no _)⟩
              case measure => simp [intOf]; omega
        · have hL : L.length ≤ 256 := by have := HS.out.hw.hp.len; omega
          have E1 : Hid ((decide ((k : Int) < (m : Int)) && decide ((k : Int) < 100)) = false) := by show _ = _; simp; omega
          by_cases hkm : k < m
          · have b1d : (k : Int) < (m : Int) := by omega
            have b2d : decide ((k : Int) < 100) = false := by simp; omega
            go_wp2_with (go_at_call 23; refine (all_any p 256 T L S _ HS.out.hw.hp).mono ?_; rintro e w5 ⟨b2, rfl, hI, hb, hbl⟩; have HI := Lib.hid hI; have HB := Lib.hid hb; clear hI hb hbl)
            have H5 : Hid (Ov w5 (.slice none 0 0) (((L.map It.id).take 0).filter (fun a => decide (a < 20)))) := by show Ov _ _ _; simp; exact Ov.nil w5
            go_loopw [13, 15] (fun s t wx => ∃ (v : Value) (j : Nat), s = v ∧ t = .int .i64 j ∧ j ≤ L.length ∧ Hid (Ov wx v (((L.map It.id).take j).filter (fun a => decide (a < 20)))) ∧ Hid (But No w5 wx) ∧ Hid (∀ q, v.ownBlock = some q → w5.heap.size ≤ q)) (fun _ t _ => L.length - (intOf t).toNat)
            case atStart => exact ⟨_, 0, rfl, rfl, by omega, H5, But.refl _ _, fun q e => by simp [Value.ownBlock] at e⟩
            case round =>
              obtain ⟨v, j, hsv, rfl, hj, hov, hb5, hown⟩ := hrel
              have hsv' := hsv.symm
              subst hsv'
              clear H5
              by_cases hjl : j < L.length
              · have hcell := Ints.cell (HI.out.but hb5.out (fun f => f)) (k := j) (by simpa using hjl)
                have jl' : (j : Int) < (L.length : Int) := by omega
                obtain ⟨y, hy⟩ : ∃ y, y = (L.map It.id).getD j 0 := ⟨_, rfl⟩
                rw [← hy] at hcell
                have hjm : j < (L.map It.id).length := by simpa using hjl
                by_cases hlow : y < 20
                · have HF : Hid (((L.map It.id).take (j + 1)).filter (fun a => decide (a < 20)) = ((L.map It.id).take j).filter (fun a => decide (a < 20)) ++ [y]) := by
                    have := tf_yes (q := fun a => decide (a < 20)) hjm (by rw [← hy]; simpa using hlow)
                    rw [← hy] at this; exact this
                  obtain ⟨zsf, hzsf⟩ : ∃ l, l = ((L.map It.id).take j).filter (fun a => decide (a < 20)) := ⟨_, rfl⟩
                  have hlz : zsf.length ≤ 256 := by rw [hzsf]; refine Nat.le_trans (List.length_filter_le _ _) ?_; rw [List.length_take]; simp; omega
                  rw [← hzsf] at hov HF
                  have ROW := Lib.hid (hov.out.but (S := No) ((But.refl No wr).alloc (.cells #[.int .i64 y] 3)) (fun _ _ f => f))
                  have hlow' : decide (y < 20) = true := by simpa using hlow
                  clear hy hzsf
                  go_wp2_with (at_builtin; refine wpList_append_lies _ rfl _ _ 40 rfl 0 3 i0 _ 1 8 Try.underlying40 I0.out.1 I0.out.2.1 I0.out.2.2.1 I0.out.2.2.2 rfl (by omega) _ zsf.length (zsf.map (Value.int .i64)) rfl ROW.out ⟨wr.heap.size, 0, none⟩ 1 1 [.int .i64 y] rfl rfl (one_news wr y) (by simp [Value.oneCell']) (by omega) (by unfold maxLen; omega) (by omega) (Nat.zero_le _) (wr.heap.size + 1) (by simp) ?_; intro g2 cap2 w6 hown6 hgrow6 hat6 hlt6)
                  obtain ⟨o1, o2, o3⟩ := Ov.app hb5.out hown.out hown6 hgrow6 hat6
                  have O1 := Lib.hid o1
                  have O2 := Lib.hid o2
                  have O3 := Lib.hid o3
                  clear hown6 hgrow6 hat6 hlt6 o1 o2 o3 ROW
                  go_wp2
                  go_roundw
                  case rel => exact ⟨_, j + 1, rfl, by go_num, by omega, by rw [HF.out]; exact O1, O2, O3⟩
                  case measure => simp [intOf]; omega
                · have HF : Hid (((L.map It.id).take (j + 1)).filter (fun a => decide (a < 20)) = ((L.map It.id).take j).filter (fun a => decide (a < 20))) := tf_no hjm (by rw [← hy]; simpa using hlow)
                  have hlow' : decide (y < 20) = false := by simpa using hlow
                  clear hy
                  go_wp2
                  go_roundw
                  case rel => exact ⟨v, j + 1, rfl, by go_num, by omega, by rw [HF.out]; exact hov, hb5, hown⟩
                  case measure => simp [intOf]; omega
              · obtain rfl : j = L.length := by omega
                have jl' : decide ((L.length : Int) < (L.length : Int)) = false := by simp
                have HEQ : Hid (((L.map It.id).take L.length).filter (fun a => decide (a < 20)) = (Ls z i).map It.id) := by
                  show _ = _
                  rw [List.take_of_length_le (by simp), low_map, HS.out.fl]
                have hov2 := hov.out
                rw [HEQ.out] at hov2
                have hl2 : ((Ls z i).map It.id).length = i := by rw [List.length_map, len_Ls]
                obtain ⟨A2, cc2, hv2, _⟩ := hov2.slice
                rw [hl2] at hv2
                subst hv2
                have hr2 := (hov2.rl (by omega)).1
                have hr1 := Ints.rl (HS.out.bf.but (HB.out.trans hb5.out) (fun f => f)) (by omega)
                rw [hl2] at hr1
                have CN : Hid (Calls Try.prog 24 #[.slice (some ⟨b1, 0, none⟩) i i, .slice A2 i cc2] wr fun e w' => e = .returned (.bool true) ∧ But No wr w') := by
                  have := numbers_any (some ⟨b1, 0, none⟩) A2 i i i cc2 _ _ wr hr1 hr2
                  simp only [decide_true] at this
                  exact this
                have HBW := Lib.hid (HS.out.hw.but.trans (HB.out.trans hb5.out))
                have i3 : ((i : Int) == (i : Int)) = true := by simp
                clear hov hov2 hl2 hr1 hr2 HEQ hown
                go_wp2_with (go_at_call 24; refine CN.out.mono ?_; rintro e w7 ⟨rfl, hb7⟩; have HB7 := Lib.hid hb7; clear hb7)
                go_ret
                exact ⟨rfl, HBW.out.trans HB7.out⟩
          · have b1d : decide ((k : Int) < (m : Int)) = false := by simp; omega
            go_wp2_with (go_at_call 23; refine (all_any p 256 T L S _ HS.out.hw.hp).mono ?_; rintro e w5 ⟨b2, rfl, hI, hb, hbl⟩; have HI := Lib.hid hI; have HB := Lib.hid hb; clear hI hb hbl)
            have H5 : Hid (Ov w5 (.slice none 0 0) (((L.map It.id).take 0).filter (fun a => decide (a < 20)))) := by show Ov _ _ _; simp; exact Ov.nil w5
            go_loopw [13, 15] (fun s t wx => ∃ (v : Value) (j : Nat), s = v ∧ t = .int .i64 j ∧ j ≤ L.length ∧ Hid (Ov wx v (((L.map It.id).take j).filter (fun a => decide (a < 20)))) ∧ Hid (But No w5 wx) ∧ Hid (∀ q, v.ownBlock = some q → w5.heap.size ≤ q)) (fun _ t _ => L.length - (intOf t).toNat)
            case atStart => exact ⟨_, 0, rfl, rfl, by omega, H5, But.refl _ _, fun q e => by simp [Value.ownBlock] at e⟩
            case round =>
              obtain ⟨v, j, hsv, rfl, hj, hov, hb5, hown⟩ := hrel
              have hsv' := hsv.symm
              subst hsv'
              clear H5
              by_cases hjl : j < L.length
              · have hcell := Ints.cell (HI.out.but hb5.out (fun f => f)) (k := j) (by simpa using hjl)
                have jl' : (j : Int) < (L.length : Int) := by omega
                obtain ⟨y, hy⟩ : ∃ y, y = (L.map It.id).getD j 0 := ⟨_, rfl⟩
                rw [← hy] at hcell
                have hjm : j < (L.map It.id).length := by simpa using hjl
                by_cases hlow : y < 20
                · have HF : Hid (((L.map It.id).take (j + 1)).filter (fun a => decide (a < 20)) = ((L.map It.id).take j).filter (fun a => decide (a < 20)) ++ [y]) := by
                    have := tf_yes (q := fun a => decide (a < 20)) hjm (by rw [← hy]; simpa using hlow)
                    rw [← hy] at this; exact this
                  obtain ⟨zsf, hzsf⟩ : ∃ l, l = ((L.map It.id).take j).filter (fun a => decide (a < 20)) := ⟨_, rfl⟩
                  have hlz : zsf.length ≤ 256 := by rw [hzsf]; refine Nat.le_trans (List.length_filter_le _ _) ?_; rw [List.length_take]; simp; omega
                  rw [← hzsf] at hov HF
                  have ROW := Lib.hid (hov.out.but (S := No) ((But.refl No wr).alloc (.cells #[.int .i64 y] 3)) (fun _ _ f => f))
                  have hlow' : decide (y < 20) = true := by simpa using hlow
                  clear hy hzsf
                  go_wp2_with (at_builtin; refine wpList_append_lies _ rfl _ _ 40 rfl 0 3 i0 _ 1 8 Try.underlying40 I0.out.1 I0.out.2.1 I0.out.2.2.1 I0.out.2.2.2 rfl (by omega) _ zsf.length (zsf.map (Value.int .i64)) rfl ROW.out ⟨wr.heap.size, 0, none⟩ 1 1 [.int .i64 y] rfl rfl (one_news wr y) (by simp [Value.oneCell']) (by omega) (by unfold maxLen; omega) (by omega) (Nat.zero_le _) (wr.heap.size + 1) (by simp) ?_; intro g2 cap2 w6 hown6 hgrow6 hat6 hlt6)
                  obtain ⟨o1, o2, o3⟩ := Ov.app hb5.out hown.out hown6 hgrow6 hat6
                  have O1 := Lib.hid o1
                  have O2 := Lib.hid o2
                  have O3 := Lib.hid o3
                  clear hown6 hgrow6 hat6 hlt6 o1 o2 o3 ROW
                  go_wp2
                  go_roundw
                  case rel => exact ⟨_, j + 1, rfl, by go_num, by omega, by rw [HF.out]; exact O1, O2, O3⟩
                  case measure => simp [intOf]; omega
                · have HF : Hid (((L.map It.id).take (j + 1)).filter (fun a => decide (a < 20)) = ((L.map It.id).take j).filter (fun a => decide (a < 20))) := tf_no hjm (by rw [← hy]; simpa using hlow)
                  have hlow' : decide (y < 20) = false := by simpa using hlow
                  clear hy
                  go_wp2
                  go_roundw
                  case rel => exact ⟨v, j + 1, rfl, by go_num, by omega, by rw [HF.out]; exact hov, hb5, hown⟩
                  case measure => simp [intOf]; omega
              · obtain rfl : j = L.length := by omega
                have jl' : decide ((L.length : Int) < (L.length : Int)) = false := by simp
                have HEQ : Hid (((L.map It.id).take L.length).filter (fun a => decide (a < 20)) = (Ls z i).map It.id) := by
                  show _ = _
                  rw [List.take_of_length_le (by simp), low_map, HS.out.fl]
                have hov2 := hov.out
                rw [HEQ.out] at hov2
                have hl2 : ((Ls z i).map It.id).length = i := by rw [List.length_map, len_Ls]
                obtain ⟨A2, cc2, hv2, _⟩ := hov2.slice
                rw [hl2] at hv2
                subst hv2
                have hr2 := (hov2.rl (by omega)).1
                have hr1 := Ints.rl (HS.out.bf.but (HB.out.trans hb5.out) (fun f => f)) (by omega)
                rw [hl2] at hr1
                have CN : Hid (Calls Try.prog 24 #[.slice (some ⟨b1, 0, none⟩) i i, .slice A2 i cc2] wr fun e w' => e = .returned (.bool true) ∧ But No wr w') := by
                  have := numbers_any (some ⟨b1, 0, none⟩) A2 i i i cc2 _ _ wr hr1 hr2
                  simp only [decide_true] at this
                  exact this
                have HBW := Lib.hid (HS.out.hw.but.trans (HB.out.trans hb5.out))
                have i3 : ((i : Int) == (i : Int)) = true := by simp
                clear hov hov2 hl2 hr1 hr2 HEQ hown
                go_wp2_with (go_at_call 24; refine CN.out.mono ?_; rintro e w7 ⟨rfl, hb7⟩; have HB7 := Lib.hid hb7; clear hb7)
                go_ret
                exact ⟨rfl, HBW.out.trans HB7.out⟩
theorem walk (A : Option Addr) (n c : Nat) (zs : List Int) (_ : n ≤ c) (B : Option Addr) (m d : Nat) (kd di dk : Nat → Int) (w : World) (hz : Rd w A n zs) (hd : RdD w B m kd di dk) :
    Calls Try.prog 5 #[.slice A n c, .slice B m d] w fun e w' => e = .returned (.bool true) ∧ But No w w' := by
  by_cases h : n ≤ 20
  · exact walkS A n c zs n rfl h B m d kd di dk w hz hd
  · exact walkB A n c zs (by omega) B m d kd di dk w hz hd
end heapKeeps
end Go.Proofs.Ytlnoelahlbbgkaa
