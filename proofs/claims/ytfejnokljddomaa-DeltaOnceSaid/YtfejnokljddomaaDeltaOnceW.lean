/- Each timer goes off once, with just the tick that was asked for, if it is not cancelled: DeltaOnce returns true. (The walk.) -/
import Derived.Test.YtfejnokljddomaaO
import Derived.Deep.DeepCutAuto
namespace Go.Proofs.Ytfejnokljddomaa.deltaOnce
open Go.ChangeShapes Go.WideShapes Go.ChangeAt Go.RowKit Go.Deep
/-- The list, and beside it the block of the ticks. -/
structure Sx (w wr : World) (p b nn : Nat) (S : Nat → Prop) (L : List Tm) (z : Nat → Int) : Prop where
  hw : Hw w wr S p 256 L
  it : Intf wr b nn z
  nb : ¬ S b
  wb : w.heap.size ≤ b
theorem Sx.no {w wr w' : World} {p b nn : Nat} {S : Nat → Prop} {L : List Tm} {z : Nat → Int} (h : Sx w wr p b nn S L z) (hb : But No wr w') : Sx w w' p b nn S L z :=
  ⟨h.hw.no hb, h.it.but hb (fun f => f), h.nb, h.wb⟩
theorem Sx.put {w wr : World} {p b nn : Nat} {S : Nat → Prop} {L : List Tm} {z : Nat → Int} (h : Sx w wr p b nn S L z) (k : Nat) (v : Int) : Sx w (wr.setCell ⟨b, k, none⟩ (.int .i64 v)) p b nn S L (upd z k v) := by
  have hb : But (Just b) wr (wr.setCell ⟨b, k, none⟩ (.int .i64 v)) := (But.refl _ wr).setCell (p := ⟨b, k, none⟩) (just b) _
  exact ⟨⟨h.hw.dp.but hb (fun k hk e => h.nb (e ▸ hk)), h.hw.but.andThen hb (fun k e => .inr (e ▸ h.wb)), h.hw.new⟩, h.it.set v, h.nb, h.wb⟩
theorem Sx.step {w wr w' : World} {p b nn : Nat} {S : Nat → Prop} {L L' : List Tm} {z : Nat → Int} (h : Sx w wr p b nn S L z) (hm : Mv wr S p 256 L' w') : ∃ S', Sx w w' p b nn S' L' z := by
  obtain ⟨S', h1, h2, h3⟩ := h.hw.step hm
  refine ⟨S', h1, h.it.but h2 h.nb, fun hs => ?_, h.wb⟩
  rcases h3 b hs with e | e
  · exact h.nb e
  · have := h.it.lt; omega
theorem Sx.same {w wr w' : World} {p b nn : Nat} {S : Nat → Prop} {L L' : List Tm} {z : Nat → Int} (h : Sx w wr p b nn S L z) (hd : DP w' S p 256 L') (hb : But S wr w') : Sx w w' p b nn S L' z :=
  ⟨h.hw.same hd hb, h.it.but hb h.nb, h.nb, h.wb⟩
def Rel (w wr : World) (p b nn t k : Nat) : Prop := ∃ S L z, Sx w wr p b nn S L z ∧ Inv nn t k z L
def Rel3 (w wr : World) (p b nn t k : Nat) (z : Nat → Int) (v : Value) : Prop := ∃ S L, Sx w wr p b nn S L z ∧ Inv nn (t + 1) k z L ∧ Ov wr v (dues z t nn)
theorem Rel3.no {w wr w' : World} {p b nn t k : Nat} {z : Nat → Int} {v : Value} (h : Rel3 w wr p b nn t k z v) (hb : But No wr w') : Rel3 w w' p b nn t k z v := by
  obtain ⟨S, L, h1, h2, h3⟩ := h
  exact ⟨S, L, h1.no hb, h2, h3.but hb (fun _ _ f => f)⟩
theorem ov_cell {w : World} {g n c : Nat} {zs : List Int} (h : Ov w (.slice (some ⟨g, 0, none⟩) n c) zs) {k : Nat} (hk : k < zs.length) : w.cell? ⟨g, k, none⟩ = some (.int .i64 (zs.getD k 0)) := by
  cases zs with
  | nil => simp at hk
  | cons a t =>
    obtain ⟨g', c', e, hc⟩ := h.form
    cases e
    exact hc k hk
set_option maxHeartbeats 20000000 in
set_option maxRecDepth 100000 in
theorem walk (A : Option Addr) (n c : Nat) (zs : List Int) (_ : n ≤ c) (B : Option Addr) (m c' : Nat) (us : List Int) (_ : m ≤ c') (w : World) (hz : Rd w A n zs) (hu : Rd w B m us) :
    Calls Try.prog 4 #[.slice A n c, .slice B m c'] w fun e w' => e = .returned (.bool true) ∧ But No w w' := by
  have HZ := Lib.hid hz
  have HU := Lib.hid hu
  have hmax := hz.max
  have hmax2 := hu.max
  obtain ⟨nn, hnn⟩ : ∃ nn, nn = min n 60 := ⟨_, rfl⟩
  have HNN := Lib.hid hnn
  have hn60 : nn ≤ 60 := by omega
  have hnln : nn ≤ n := by omega
  obtain ⟨i0, hi0, hz0, hz1, hz2⟩ := info_parts info3
  have I0 : Hid (Try.prog.info? 3 = some i0 ∧ i0.zero = some (.int .i64 0) ∧ i0.size = 1 ∧ i0.bytes = 8) := ⟨hi0, hz0, hz1, hz2⟩
  clear hz hu hi0 hz0 hz1 hz2 hnn
  go_enter Try.func4, Try.ntmps4
  go_upto_region 5 with (first
    | (go_at_call 7; refine (examples_any _).mono ?_; rintro e we ⟨rfl, hbe⟩; have HE := Lib.hid hbe; clear hbe)
    | (go_at_call 8; refine (new_ok 256 _ (by omega) (by omega)).mono ?_; rintro e w1 ⟨p, rfl, hne⟩; have HN1 := Lib.hid hne; clear hne))
  have H1 : Hid (∃ S, Hw w w1 S p 256 []) := by
    obtain ⟨S, hp, hb, hs⟩ := HN1.out
    exact ⟨S, hp, HE.out.trans hb, fun k hk => Nat.le_trans HE.out.size (hs k hk)⟩
  clear HN1 HE
  go_cut [8] (fun s8 wx => s8 = .int .i64 nn ∧ Hid (∃ S, Hw w wx S p 256 []))
  case first =>
    go_wp2
    all_goals (go_meet; exact ⟨by have := HNN.out; congr 1; omega, H1⟩)
  case rest =>
  obtain ⟨rfl, H2⟩ := hcut
  clear H1
  obtain ⟨b, hb⟩ : ∃ b, b = wc.heap.size := ⟨_, rfl⟩
  go_wp2_with (at_make; refine wpList_make_full _ rfl _ _ 35 rfl 0 3 i0 _ 1 Try.underlying35 I0.out.1 I0.out.2.1 I0.out.2.2.1 .i64 .i64 _ _ nn rfl rfl (by omega) (by omega) (by rw [I0.out.2.2.2]; omega) (by unfold maxLen; omega) (Nat.zero_le _) ?_; intro w0 hown0 hgrow0; have hB0 : But No wc w0 := (But.refl No wc).grown hgrow0 (fun k e => by cases e); have HB0 := Lib.hid hB0; have HI0 := Lib.hid (ints_made hown0); clear hown0 hgrow0 hB0)
  rw [← hb] at HI0 ⊢
  have HR0 : Hid (Rel w w0 p b nn (0 + 1) 0) := by
    obtain ⟨S, hs⟩ := H2.out
    refine ⟨S, [], _, ⟨hs.no HB0.out, HI0.out, fun hk => ?_, ?_⟩, Inv.start nn⟩
    · have := hs.dp.lt b hk; omega
    · have := hs.but.size; omega
  clear H2 HI0 HB0 hb
  go_loopw [10] (fun s wx => ∃ k : Nat, s = .int .i64 ((k + 1 : Nat) : Int) ∧ k ≤ 300 ∧ Hid (Rel w wx p b nn (k + 1) k)) (fun s _ => 301 - (intOf s).toNat)
  case atStart => exact ⟨0, rfl, by omega, HR0⟩
  case round =>
    obtain ⟨k, rfl, hk, hrel⟩ := hrel
    clear HR0
    obtain ⟨t, ht⟩ : ∃ t, t = k + 1 := ⟨_, rfl⟩
    have HT := Lib.hid ht
    have ht1 : (t : Int) - 1 = (k : Int) := by omega
    have hkt : k < t := by omega
    rw [← ht] at hrel ⊢
    clear ht
    by_cases hend : t ≤ 300
    · have bend : decide ((t : Int) ≤ 300) = true := by simp; omega
      go_upto_if 38 with fail
      go_cut [] (fun wx => Hid (Rel w wx p b nn t t))
      case first =>
        by_cases hkn : k < nn
        · have bkn : (k : Int) < (nn : Int) := by omega
          have bkn2 : decide ((k : Int) < (nn : Int)) = true := by simp; omega
          obtain ⟨S, L, z, hs, hi⟩ := hrel.out
          obtain ⟨eb, eoff, hA, hbl, hc⟩ := (HZ.out.no hs.hw.but).at_ (by omega)
          have hck := hc k (by omega)
          have hF := HZ.out.fit k
          generalize zs.getD k 0 = u at hck hF
          obtain ⟨q, hq⟩ : ∃ q, q = pk u 200 := ⟨_, rfl⟩
          have CK : Hid (∀ w, Calls Try.prog 10 #[.int .i64 u, .int .i64 200] w fun e w' => e = .returned (.int .i64 q) ∧ w = w') := fun w => by rw [hq]; exact pick_any u 200 w hF (by omega) (by omega)
          have hq1 : 0 ≤ q ∧ q < 200 := by rw [hq]; exact pk_lt u 200 (by omega)
          obtain ⟨hq2, hq3⟩ := hq1
          have hcell := hs.it.cell hkn
          have hfz := hs.it.frozen k
          have hne : eb ≠ b := by
            have h1 := World.block_lt_of_cell? w ⟨eb, eoff + k, none⟩ (by obtain ⟨eb', eo', e1, _, h2⟩ := HZ.out.at_ (by omega); rw [hA] at e1; cases e1; exact h2 k (by omega))
            have h2 := hs.wb
            dsimp only at h1
            omega
          have hi' : Inv nn (k + 1) k z L := by rw [← HT.out]; exact hi
          obtain ⟨i1, i2, i3⟩ := hi'.add hs.hw.dp.gd hkn hn60 hq2 hq3
          rw [← HT.out] at i1
          have hs2 := hs.put k ((t : Int) + q)
          have CA : Hid (Calls Try.prog 11 #[.pointer (some ⟨p, 0, none⟩), .int .i64 k, .int .i64 (1 + q)] (wr.setCell ⟨b, k, none⟩ (.int .i64 ((t : Int) + q))) fun r w' => r = .returned (.int .i64 0) ∧ Rel w w' p b nn t t) := by
            refine (add_ok p 256 L S _ k (1 + q) hs2.hw.dp (by omega) (by omega) i2 i3).mono ?_
            rintro r w' ⟨h1, h2⟩
            obtain ⟨S', h3⟩ := hs2.step h2
            exact ⟨h1, S', _, _, h3, i1⟩
          generalize z k = old at hcell
          have hk9 : k < n := by omega
          have bk9 : (k : Int) < (n : Int) := by omega
          subst hA
          clear hs hi hi' hc hbl hF hq i1 i2 i3 hs2 hrel
          go_wp2_with (first | (go_at_call 10; ((with_reducible refine (CK.out _).mono ?_); rintro e w2 ⟨rfl, rfl⟩)) | (go_at_call 11; ((with_reducible refine CA.out.mono ?_); rintro e w3 ⟨rfl, hm⟩; have HM := Lib.hid hm; clear hm)))
          go_meet
          exact HM
        · have bkn : decide ((k : Int) < (nn : Int)) = false := by simp; omega
          have HR : Hid (Rel w wr p b nn t t) := by
            obtain ⟨S, L, z, hs, hi⟩ := hrel.out
            exact ⟨S, L, z, hs, by rw [HT.out] at hi ⊢; exact hi.skip (by omega)⟩
          go_wp2
          go_meet
          exact HR
      case rest =>
      have H3 := Lib.hid hcut.out
      clear hcut hrel
      obtain ⟨β, hβ⟩ : ∃ β, β = decide (k < m ∧ 0 < nn) := ⟨_, rfl⟩
      have HBE := Lib.hid hβ
      clear hβ
      go_upto_region 15 with fail
      go_cut [66] (fun s66 wx => s66 = .bool β ∧ Hid (Rel w wx p b nn t t))
      case first =>
        by_cases h1 : k < m
        · have b1 : (k : Int) < (m : Int) := by omega
          have b1' : decide ((k : Int) < (m : Int)) = true := by simp; omega
          by_cases h2 : 0 < nn
          · have b2 : decide ((0 : Int) < (nn : Int)) = true := by simp; omega
            have HV : Hid (β = true) := by show _ = _; rw [HBE.out, decide_eq_true_iff]; exact ⟨h1, h2⟩
            go_wp2
            go_meet
            exact ⟨by rw [HV.out], H3⟩
          · have b2 : decide ((0 : Int) < (nn : Int)) = false := by simp; omega
            have HV : Hid (β = false) := by show _ = _; rw [HBE.out, decide_eq_false_iff_not]; exact fun h => h2 h.2
            go_wp2
            go_meet
            exact ⟨by rw [HV.out], H3⟩
        · have b1 : decide ((k : Int) < (m : Int)) = false := by simp; omega
          have HV : Hid (β = false) := by show _ = _; rw [HBE.out, decide_eq_false_iff_not]; exact fun h => h1 h.1
          go_wp2
          go_meet
          exact ⟨by rw [HV.out], H3⟩
      case rest =>
      obtain ⟨rfl, H4⟩ := hcut
      clear H3
      go_upto_if 66 with fail
      go_cut [] (fun wx => Hid (Rel w wx p b nn t t))
      case first =>
        cases hb : β with
        | false =>
          go_wp2
          go_meet
          exact H4
        | true =>
          have hkm : k < m ∧ 0 < nn := by have := HBE.out; rw [hb] at this; exact of_decide_eq_true this.symm
          obtain ⟨h1, h2⟩ := hkm
          obtain ⟨S, L, z, hs, hi⟩ := H4.out
          obtain ⟨fb, foff, hB, hbl, hc⟩ := (HU.out.no hs.hw.but).at_ (by omega)
          have hck := hc k (by omega)
          have hF := HU.out.fit k
          generalize us.getD k 0 = u at hck hF
          obtain ⟨x, hx⟩ : ∃ x : Nat, (x : Int) = pk u nn := ⟨(pk u nn).toNat, by have := pk_lt u nn (by omega); omega⟩
          have CK : Hid (∀ w, Calls Try.prog 10 #[.int .i64 u, .int .i64 nn] w fun e w' => e = .returned (.int .i64 x) ∧ w = w') := fun w => by rw [hx]; exact pick_any u nn w hF (by omega) (by omega)
          have hxn : x < nn := by have := pk_lt u nn (by omega); omega
          have bxn : (x : Int) < (nn : Int) := by omega
          have hcell := hs.it.cell hxn
          have hfz := hs.it.frozen x
          have hh := hi.has hs.hw.dp.gd hxn
          have ht0 : 0 < t := by omega
          have bm1 : (k : Int) < (m : Int) := by omega
          have CC0 := cancel_any p 256 L S wc x hs.hw.dp
          subst hB
          by_cases hxt : x < t
          · have bxt : (x : Int) < (t : Int) := by omega
            have bxt2 : decide ((x : Int) < (t : Int)) = true := by simp; omega
            by_cases hzt : (t : Int) ≤ z x
            · have bzt : decide ((t : Int) ≤ z x) = true := by simpa using hzt
              have CC : Hid (Calls Try.prog 18 #[.pointer (some ⟨p, 0, none⟩), .int .i64 x] wc fun r w' => r = .returned (.bool true) ∧ w'.cell? ⟨b, x, none⟩ = some (.int .i64 (z x)) ∧ w'.frozen? ⟨b, x, none⟩ = false ∧ Rel w (w'.setCell ⟨b, x, none⟩ (.int .i64 0)) p b nn t t) := by
                rw [hh, decide_eq_true ⟨bxt, hzt⟩] at CC0
                refine CC0.mono ?_
                rintro r w' ⟨r1, r2, r3⟩
                have hs2 := hs.same r2 r3
                exact ⟨r1, hs2.it.cell hxn, hs2.it.frozen x, S, _, _, hs2.put x 0, hi.gone hs.hw.dp.gd ht0⟩
              generalize z x = zx at hcell bzt hzt CC
              clear hs hi hc hbl hF hx hh CC0 H4
              go_wp2_with (first | (go_at_call 10; ((with_reducible refine (CK.out _).mono ?_); rintro e w2 ⟨rfl, rfl⟩)) | (go_at_call 18; ((with_reducible refine CC.out.mono ?_); rintro e w3 ⟨rfl, hc3, hf3, hm⟩; have HM := Lib.hid hm; clear hm)))
              go_meet
              exact HM
            · have bzt : decide ((t : Int) ≤ z x) = false := by simpa using hzt
              have CC : Hid (Calls Try.prog 18 #[.pointer (some ⟨p, 0, none⟩), .int .i64 x] wc fun r w' => r = .returned (.bool false) ∧ Rel w w' p b nn t t) := by
                have hf : hasT L x = false := by rw [hh]; exact decide_eq_false (fun h => hzt h.2)
                rw [hf, rmv_none ((hasT_not L x).1 hf)] at CC0
                exact CC0.mono fun r w' ⟨r1, r2, r3⟩ => ⟨r1, S, L, z, hs.same r2 r3, hi⟩
              generalize z x = zx at hcell bzt hzt
              clear hs hi hc hbl hF hx hh CC0 H4
              go_wp2_with (first | (go_at_call 10; ((with_reducible refine (CK.out _).mono ?_); rintro e w2 ⟨rfl, rfl⟩)) | (go_at_call 18; ((with_reducible refine CC.out.mono ?_); rintro e w3 ⟨rfl, hm⟩; have HM := Lib.hid hm; clear hm)))
              go_meet
              exact HM
          · have bxt : decide ((x : Int) < (t : Int)) = false := by simp; omega
            have CC : Hid (Calls Try.prog 18 #[.pointer (some ⟨p, 0, none⟩), .int .i64 x] wc fun r w' => r = .returned (.bool false) ∧ Rel w w' p b nn t t) := by
              have hf : hasT L x = false := by rw [hh]; exact decide_eq_false (fun h => by omega)
              rw [hf, rmv_none ((hasT_not L x).1 hf)] at CC0
              exact CC0.mono fun r w' ⟨r1, r2, r3⟩ => ⟨r1, S, L, z, hs.same r2 r3, hi⟩
            generalize z x = zx at hcell
            clear hs hi hc hbl hF hx hh CC0 H4
            go_wp2_with (first | (go_at_call 10; ((with_reducible refine (CK.out _).mono ?_); rintro e w2 ⟨rfl, rfl⟩)) | (go_at_call 18; ((with_reducible refine CC.out.mono ?_); rintro e w3 ⟨rfl, hm⟩; have HM := Lib.hid hm; clear hm)))
            go_meet
            exact HM
      case rest =>
      have H5 := Lib.hid hcut.out
      clear hcut H4
      obtain ⟨S, L, z, hs, hi⟩ := H5.out
      have ht0 : 0 < t := by omega
      obtain ⟨mo, hmo⟩ : ∃ mo, mo = (dues z t nn).length := ⟨_, rfl⟩
      have HMO := Lib.hid hmo
      have hmo1 : mo ≤ 60 := by rw [hmo, dues_len]; have := due_le z t nn; omega
      have CT : Hid (Calls Try.prog 14 #[.pointer (some ⟨p, 0, none⟩)] wc fun r w' => ∃ A9 c9, r = .returned (.slice A9 mo c9) ∧ Rel3 w w' p b nn t t z (.slice A9 mo c9)) := by
        refine (tick_any p 256 L S wc hs.hw.dp).mono ?_
        rintro r w' ⟨v, rfl, hx⟩
        have ho := hx.1
        rw [hi.out hs.hw.dp.gd ht0] at ho
        obtain ⟨A9, c9, e9, _⟩ := ho.slice
        rw [← hmo] at e9
        subst e9
        exact ⟨A9, c9, rfl, S, _, hs.same hx.2.1 hx.2.2.1, hi.tick hs.hw.dp.gd, ho⟩
      clear hs hi hmo H5
      go_wp2_with (first | (go_at_call 14; ((with_reducible refine CT.out.mono ?_); rintro e w6 ⟨A9, c9, rfl, hr6⟩; have H6 := Lib.hid hr6; clear hr6)))
      go_loopw [15, 16] (fun s i wx => ∃ j d : Nat, s = .int .i64 d ∧ i = .int .i64 j ∧ j ≤ nn ∧ d ≤ j ∧ Hid (d = (due z t j).length) ∧ Hid (Rel3 w wx p b nn t t z (.slice A9 mo c9))) (fun _ i _ => nn - (intOf i).toNat)
      case atStart => exact ⟨0, 0, rfl, rfl, by omega, by omega, (show _ = _ from rfl), H6⟩
      case round =>
        obtain ⟨j, d, rfl, rfl, hj, hd, hdj, h7⟩ := hrel
        clear H6
        by_cases hjn : j < nn
        · have bjn : (j : Int) < (nn : Int) := by omega
          obtain ⟨S, L, hs, hi, ho⟩ := h7.out
          have hcell := hs.it.cell hjn
          have hst := due_step z t j
          rw [← hdj.out] at hst
          clear hs hi ho
          by_cases hzt : z j = (t : Int)
          · rw [if_pos hzt] at hst
            have HST := Lib.hid hst
            have bz : (z j == (t : Int)) = true := by simpa using hzt
            generalize z j = zj at hcell bz hzt
            have hzj := hzt
            subst hzj
            clear hst bz
            go_wp2
            go_roundw
            case rel => exact ⟨j + 1, d + 1, by go_num, by go_num, by omega, by omega, HST.out.symm, h7⟩
            case measure => simp [intOf]; omega
          · rw [if_neg hzt] at hst
            have HST := Lib.hid hst
            have bz : (z j == (t : Int)) = false := by simpa using hzt
            generalize z j = zj at hcell bz hzt
            clear hst
            go_wp2
            go_roundw
            case rel => exact ⟨j + 1, d, rfl, by go_num, by omega, by omega, HST.out.symm, h7⟩
            case measure => simp [intOf]; omega
        · have bjn : decide ((j : Int) < (nn : Int)) = false := by simp; omega
          have hde : d = mo := by rw [hdj.out, HMO.out, dues_len, show j = nn by omega]
          have bmo : ((mo : Int) != (d : Int)) = false := by rw [hde]; simp
          clear hde hdj
          go_wp2_with fail
          go_loopw [17] (fun i wx => ∃ i1 : Nat, i = .int .i64 i1 ∧ i1 ≤ mo ∧ Hid (Rel3 w wx p b nn t t z (.slice A9 mo c9))) (fun i _ => mo - (intOf i).toNat)
          case atStart => exact ⟨0, rfl, by omega, h7⟩
          case round =>
            obtain ⟨i, rfl, hi, h8⟩ := hrel
            clear h7
            by_cases him : i < mo
            · have bim : (i : Int) < (mo : Int) := by omega
              obtain ⟨S, L, hs, hiv, ho⟩ := h8.out
              obtain ⟨g9, hA9⟩ : ∃ g9, A9 = some ⟨g9, 0, none⟩ := by
                cases hdd : dues z t nn with
                | nil => have := HMO.out; rw [hdd] at this; simp at this; omega
                | cons a l =>
                  rw [hdd] at ho
                  obtain ⟨g', c', e, _⟩ := ho.form
                  cases e
                  exact ⟨g', rfl⟩
              subst hA9
              obtain ⟨o, ho1, ho2, ho3⟩ := dues_get (z := z) (t := t) (nn := nn) (i := i) (by rw [← HMO.out]; exact him)
              have c1 := ov_cell ho (k := i) (by rw [← HMO.out]; exact him)
              rw [ho1] at c1
              have c2 := hs.it.cell ho2
              rw [ho3] at c2
              have bo : (o : Int) < (nn : Int) := by omega
              have b0 : decide ((o : Int) < 0) = false := by simp
              have b1 : decide ((nn : Int) ≤ (o : Int)) = false := by simp; omega
              have b2 : ((t : Int) != (t : Int)) = false := by simp
              have b1' : decide (nn ≤ o) = false := by simp; omega
              have b1'' : ¬ nn ≤ o := by omega
              have bo' : o < nn := ho2
              by_cases hi0 : i = 0
              · have b3 : decide ((0 : Int) < (i : Int)) = false := by simp; omega
                have b3' : ¬ 0 < i := by omega
                have b3'' : decide (0 < i) = false := by simp; omega
                have HNX : Hid (∀ q, Rel3 w (wr.drewN q) p b nn t t z (.slice (some ⟨g9, 0, none⟩) mo c9)) := fun q => h8.out.no ((But.refl No wr).drewN q)
                clear hs hiv ho ho1 ho3 hi0 h8
                go_wp2_with fail
                go_quiet (fail)
                go_wp2
                go_roundw
                case rel => exact ⟨i + 1, by go_num, by omega, HNX.out _⟩
                case measure => simp [intOf]; omega
              · obtain ⟨i1, hi1⟩ : ∃ i1, i = i1 + 1 := ⟨i - 1, by omega⟩
                have c3 := ov_cell ho (k := i1) (by rw [← HMO.out]; omega)
                have hlt := dues_lt (z := z) (t := t) (nn := nn) (i := i1) (by rw [← HMO.out]; omega)
                rw [← hi1, ho1] at hlt
                generalize (dues z t nn).getD i1 0 = o1 at c3 hlt
                have b3 : decide ((0 : Int) < (i : Int)) = true := by simp; omega
                have b3' : (0 : Int) < (i : Int) := by omega
                have b3'' : 0 < i := by omega
                have b3n : decide (0 < i) = true := by simp; omega
                have b4 : decide ((o : Int) ≤ o1) = false := by simp; omega
                have e1 : IntKind.i64.wrap ((i : Int) - 1) = (i1 : Int) := by rw [IntWalk.i64_in ((i : Int) - 1) (by omega)]; omega
                have e2 : IntKind.i64.wrap (i1 : Int) = (i1 : Int) := IntWalk.i64_in (i1 : Int) (by omega)
                have e3 : (i : Int) - 1 = (i1 : Int) := by omega
                have b5 : (i1 : Int) < (mo : Int) := by omega
                have HNX : Hid (∀ q, Rel3 w (wr.drewN q) p b nn t t z (.slice (some ⟨g9, 0, none⟩) mo c9)) := fun q => h8.out.no ((But.refl No wr).drewN q)
                clear hs hiv ho ho1 ho3 hi0 h8 hlt hi1
                go_wp2_with fail
                go_quiet (fail)
                clear e1 e2 e3
                go_wp2
                go_roundw
                case rel => exact ⟨i + 1, by go_num, by omega, HNX.out _⟩
                case measure => simp [intOf]; omega
            · have bim : decide ((i : Int) < (mo : Int)) = false := by simp; omega
              have bim' : ¬ i < mo := him
              have HF : Hid (Rel w wr p b nn (t + 1) t) := by
                obtain ⟨S, L, hs, hiv, ho⟩ := h8.out
                exact ⟨S, L, z, hs, hiv⟩
              clear h8
              go_wp2
              go_roundw
              case rel => exact ⟨t, by go_num, by omega, HF⟩
              case measure => simp [intOf]; omega
    · have bend : decide ((t : Int) ≤ 300) = false := by simp; omega
      obtain ⟨S, L, z, hs, hi⟩ := hrel.out
      have ht9 : t = 301 := by have := HT.out; omega
      rw [ht9] at hi
      have hL := hi.nil hs.hw.dp.gd
      subst hL
      have CL : Hid (Calls Try.prog 20 #[.pointer (some ⟨p, 0, none⟩)] wr fun r w' => r = .returned (.int .i64 0) ∧ w' = wr) := len_any p 256 [] S wr hs.hw.dp
      have HB := Lib.hid hs.hw.but
      clear hs hi ht9 hrel
      go_wp2_with (first | (go_at_call 20; ((with_reducible refine CL.out.mono ?_); rintro e w8 ⟨rfl, rfl⟩)))
      go_ret
      exact ⟨rfl, HB.out⟩
end Go.Proofs.Ytfejnokljddomaa.deltaOnce
