/- The walk of TasksetReads. -/
import Derived.Test.YtlkcelmamenhpaaWr
namespace Go.Proofs.Ytlkcelmamenhpaa
open Go.ChangeShapes Go.WideShapes Go.ChangeAt Go.RowKit Go.Deep
namespace tasksetReads
set_option maxRecDepth 100000 in
set_option maxHeartbeats 4000000 in
theorem walk (b : ByteArray) (hbz : b.size ≤ 9223372036854775807) (s : Sys) (A : Option Addr) (c : Nat) (t : Sys) (B : Option Addr) (d : Nat) (ls : (nums s).length ≤ 10000000) (lt : (nums t).length ≤ 10000000) (w : World) (h : RSys w A s.ts.length c s) (k : RSys w B t.ts.length d t) :
    Calls Try.prog 4 #[.string b, sysV s A s.ts.length c, sysV t B t.ts.length d] w fun e w' => e = .returned (.bool true) ∧ But No w w' := by
  obtain ⟨X, hX⟩ : ∃ X, X = (decP (nl b)).2 := ⟨_, rfl⟩
  obtain ⟨E, hE⟩ : ∃ E, E = (decP (nl b)).1 := ⟨_, rfl⟩
  obtain ⟨x1, x2, x3⟩ := decP_in b
  rw [← hX] at x1 x2 x3
  have xl := nums_len x2 x3
  obtain ⟨m0, hm0⟩ : ∃ m, m = X.ts.length := ⟨_, rfl⟩
  generalize s.ts.length = n at *
  generalize t.ts.length = m at *
  have CX : ∀ W, Hid (Calls Try.prog 8 #[] W fun e w' => e = .returned (.bool true) ∧ But No W w') := fun W => examples_any W
  have CR : Hid (∀ W, Calls Try.prog 11 #[.string b] W fun r w' => ∃ A c, r = .returned (.tuple #[sysV X A m0 c, .int .i64 (E : Int)]) ∧ But No W w' ∧ RSys w' A m0 c X) := fun W => (rdecode_any7 b W hbz).mono fun r w' ⟨A, q, c, hr, hb, ho⟩ => by
    rw [← hX, ← hE] at hr
    rw [← hX] at ho
    have hR := ho.rsys x1 x2 x3
    have hq : q = m0 := by rw [← hR.ts.len, hm0]
    subst hq
    exact ⟨A, c, hr, hb, hR⟩
  have CD : Hid (∀ W, Calls Try.prog 12 #[.string b] W fun r w' => ∃ A c L, r = .returned (.tuple #[sysV X A m0 c, .int .i64 (E : Int)]) ∧ But No W w' ∧ RSys w' A m0 c X ∧ (∀ x ∈ L, x.1.secs.length ≤ 4) ∧ L.length = m0 ∧ Ot W w' (.slice A m0 c) L) := fun W => (decode_any7 b W hbz).mono fun r w' ⟨A, q, c, hr, hb, ho⟩ => by
    rw [← hX, ← hE] at hr
    rw [← hX] at ho
    have hR := ho.rsys x1 x2 x3
    have hq : q = m0 := by rw [← hR.ts.len, hm0]
    subst hq
    obtain ⟨L, l1, l2, l3⟩ := ho
    exact ⟨A, c, L, hr, hb, hR, fun x hx => x3 x.1 (by rw [l1]; exact List.mem_map.2 ⟨x, hx, rfl⟩), l2, l3⟩
  have CE : Hid (∀ W A c B d, RSys W A m0 c X → RSys W B m0 d X → Calls Try.prog 13 #[sysV X A m0 c, sysV X B m0 d] W fun e w' => e = .returned (.bool true) ∧ But No W w') := fun W A c B d h1 h2 => (rsame_any X X A B m0 c m0 d W h1 h2 (by omega) (by omega)).mono fun e w' ⟨he, hb⟩ => ⟨by rw [he]; simp, hb⟩
  have CS : Hid (∀ W, But No w W → Calls Try.prog 14 #[sysV s A n c, sysV t B m d] W fun e w' => e = .returned (.bool (decide (nums s = nums t))) ∧ But No W w') := fun W hb => same_any s t A B n c m d W (h.no hb) (k.no hb)
  have CT : Hid (∀ W, But No w W → Calls Try.prog 13 #[sysV s A n c, sysV t B m d] W fun e w' => e = .returned (.bool (decide (nums s = nums t))) ∧ But No W w') := fun W hb => rsame_any s t A B n c m d W (h.no hb) (k.no hb) ls lt
  have hm0b : m0 ≤ 24 := by rw [hm0]; exact x2
  clear x1 x2 x3 xl hX hE hm0 ls lt h k
  generalize decide (nums s = nums t) = q at *
  obtain ⟨w1, hw1, hb1, hs1, ht1⟩ := two_sys w s t A B n c m d
  have HW1 := Lib.hid hw1
  have HB1 := Lib.hid hb1
  have HS1 := Lib.hid hs1
  have HT1 := Lib.hid ht1
  clear hw1 hb1 hs1 ht1
  have hEE : ((E : Int) != (E : Int)) = false := by simp
  unfold sysV at CR CD CE CS CT ⊢
  go_enter Try.func4, Try.ntmps4
  go_upto_region 1 with fail
  rw [HW1.out]
  go_upto_region 3 with (first | (go_at_call 8; refine (CX _).out.mono ?_; rintro e w2 ⟨rfl, hb2⟩; have HB2 := Lib.hid (HB1.out.trans hb2); have HS2 := Lib.hid (keepS9 HS1.out hb2); have HT2 := Lib.hid (keepS9 HT1.out hb2); clear hb2) | (go_at_call 11; ((with_reducible refine (CR.out _).mono ?_); rintro e w3 ⟨AR, cR, rfl, hb3, hr3⟩; have HB3 := Lib.hid (HB2.out.trans hb3); have HS3 := Lib.hid (keepS9 HS2.out hb3); have HT3 := Lib.hid (keepS9 HT2.out hb3); have HR3 := Lib.hid hr3; clear hb3 hr3)))
  obtain ⟨w4, hw4, hb4, hk4⟩ : ∃ w4, w3.alloc (.cells #[.int .i64 X.co, .int .i64 X.po, .int .i64 X.pr, .int .i64 X.re, .int .i64 X.sw, .int .i64 X.fi, .int .i64 X.la, .int .i64 X.rs, .slice AR m0 cR] 24) = w4 ∧ But No w3 w4 ∧ S9 w4 w3.heap.size X AR m0 cR := ⟨_, rfl, (But.refl _ _).alloc _, sys_cells (s := X) (Blk.new w3 _ _)⟩
  rw [hw4]
  have HB4 := Lib.hid (HB3.out.trans hb4)
  have HR4 := Lib.hid (HR3.out.no hb4)
  have HS4 := Lib.hid (keepS9 HS3.out hb4)
  have HT4 := Lib.hid (keepS9 HT3.out hb4)
  have HK4 := Lib.hid hk4
  clear hw4 hb4 hk4 HB2 HB3 HR3 HS2 HS3 HT2 HT3 HS1 HT1
  generalize w3.heap.size = b8 at *
  generalize w.heap.size = ba at *
  go_wp2_with fail
  go_loopw [10] (fun i wx => ∃ k : Nat, i = .int .i64 (k : Int) ∧ k ≤ 2 ∧ Hid (But No w4 wx)) (fun i _ => 2 - (intOf i).toNat)
  case atStart => exact ⟨0, rfl, by omega, But.refl _ _⟩
  case round =>
    obtain ⟨k, rfl, hk, HBW⟩ := hrel
    by_cases hlt : k < 2
    · go_upto_region 7 with (first | (go_at_call 12; ((with_reducible refine (CD.out _).mono ?_); rintro e w5 ⟨AX, cX, L, rfl, hb5, hr5, h45, hl5, ho5⟩; have HB5 := Lib.hid hb5; have HR5 := Lib.hid hr5; have HO5 := Lib.hid ho5; have HL5 := Lib.hid hl5; have H45 := Lib.hid h45; clear hb5 hr5 ho5 hl5 h45)))
      obtain ⟨w6, hw6, hb6, hk6⟩ : ∃ w6, w5.alloc (.cells #[.int .i64 X.co, .int .i64 X.po, .int .i64 X.pr, .int .i64 X.re, .int .i64 X.sw, .int .i64 X.fi, .int .i64 X.la, .int .i64 X.rs, .slice AX m0 cX] 24) = w6 ∧ But No w5 w6 ∧ S9 w6 w5.heap.size X AX m0 cX := ⟨_, rfl, (But.refl _ _).alloc _, sys_cells (s := X) (Blk.new w5 _ _)⟩
      rw [hw6]
      have HB6 := Lib.hid (HB5.out.trans hb6)
      have HR6 := Lib.hid (HR5.out.no hb6)
      have HRW := Lib.hid (HR4.out.no (HBW.out.trans HB6.out))
      obtain ⟨d0, d1, d2, d3, d4, d5, d6, d7, d8⟩ := keepS9 HK4.out (HBW.out.trans HB6.out)
      obtain ⟨g0, g1, g2, g3, g4, g5, g6, g7, g8⟩ := hk6
      have HG8 := Lib.hid g8
      have HWS : Hid (∀ W, But No w6 W → Wr wr.heap.size W w5.heap.size AX m0 cX L 0) := fun W hb => Wr.start HO5.out HL5.out H45.out (Nat.le_refl _) (hb6.trans hb) (cell_keep HG8.out hb)
      clear hw6 hb6
      generalize w5.heap.size = b11 at *
      go_upto_region 10 with (first | (go_at_call 13; ((with_reducible refine (CE.out _ _ _ _ _ HR6.out HRW.out).mono ?_); rintro e w7 ⟨rfl, hb7⟩; have HB7 := Lib.hid (HB6.out.trans hb7); have HV7 := Lib.hid (HWS.out _ hb7); clear hb7 d0 d1 d2 d3 d4 d5 d6 d7 d8 g0 g1 g2 g3 g4 g5 g6 g7 g8)))
      clear HWS HG8 HRW HR6 HR5 HO5 H45 HL5 HB5
      obtain ⟨kk, hkk⟩ : ∃ kk, kk = k := ⟨_, rfl⟩
      rw [← hkk] at hlt hk ⊢
      have HKK := Lib.hid hkk
      clear hkk
      have hkn : kk < 2 := hlt
      obtain ⟨NN, hNN⟩ : ∃ N, N = wr.heap.size := ⟨_, rfl⟩
      rw [← hNN] at HV7
      obtain ⟨wz, hwz⟩ : ∃ wz, wz = wr := ⟨_, rfl⟩
      rw [← hwz] at HB7 hNN HBW
      have HNN := Lib.hid hNN
      clear hNN hwz
      go_wp2_with fail
      go_loopw [14] (fun i wx => ∃ i' : Nat, i = .int .i64 (i' : Int) ∧ i' ≤ m0 ∧ Hid (But No wz wx) ∧ Hid (Wr NN wx b11 AX m0 cX L i')) (fun i _ => m0 - (intOf i).toNat)
      case atStart => exact ⟨0, rfl, by omega, HB7, HV7⟩
      case round =>
        clear HB7 HV7
        obtain ⟨i, rfl, hi, HBI, HV⟩ := hrel
        have hbox := HV.out.box
        by_cases hil : i < m0
        · obtain ⟨g, o, rfl, hNg, hgb, hlv, hat⟩ := HV.out.at_ (by omega)
          obtain ⟨x, hx⟩ : ∃ x, L[i]? = some x := ⟨_, List.getElem?_eq_getElem (by rw [HV.out.len]; exact hil)⟩
          obtain ⟨hc3, A', mm, c', hx2, hmc, hm4, hsec⟩ := hat i x (Nat.le_refl _) hx
          rw [hx2] at hc3
          have HX := Lib.hid hx
          have HX2 := Lib.hid hx2
          clear hat hx hx2 hsec hlv
          go_wp2_with fail
          clear hbox hc3
          obtain ⟨ii, hii⟩ : ∃ ii, ii = i := ⟨_, rfl⟩
          rw [← hii] at hil hi HX HV ⊢
          have HII := Lib.hid hii
          clear hii
          go_loopw [15] (fun j wx => ∃ k2 : Nat, j = .int .i64 (k2 : Int) ∧ k2 ≤ mm ∧ Hid (But No wz wx) ∧ Hid (Wr NN wx b11 (some ⟨g, o, none⟩) m0 cX L ii)) (fun j _ => mm - (intOf j).toNat)
          case atStart => exact ⟨0, rfl, by omega, HBI, HV⟩
          case round =>
            clear HBI HV
            obtain ⟨k2, rfl, hk2, HBI, HV⟩ := hrel
            have hbox := HV.out.box
            obtain ⟨g1, o1, e1, hNg1, hgb1, hlv, hat⟩ := HV.out.at_ (by omega)
            cases e1
            obtain ⟨hc3, A1, m1, c1, hx2, _, _, hsec⟩ := hat ii x (Nat.le_refl _) HX.out
            rw [HX2.out] at hx2 hc3
            cases hx2
            clear hat
            by_cases hkl : k2 < mm
            · obtain ⟨g', o', rfl, hNg', hg'g, hg'b, hlv'⟩ := hsec (by omega)
              obtain ⟨⟨u0, hu0⟩, hf0⟩ := hlv'.cell (o := o' + k2 * 3) (by omega)
              obtain ⟨⟨u1, hu1⟩, hf1⟩ := hlv'.cell (o := o' + k2 * 3 + 1) (by omega)
              obtain ⟨⟨u2, hu2⟩, hf2⟩ := hlv'.cell (o := o' + k2 * 3 + 2) (by omega)
              clear hlv hlv'
              go_wp2
              go_roundw
              case rel =>
                have hNw := HNN.out
                refine ⟨k2 + 1, by go_num, by omega, ?_, ?_⟩
                · exact ((HBI.out.setNew (p := ⟨g', o' + k2 * 3, none⟩) (by show _ ≤ g'; omega) _).setNew (p := ⟨g', o' + k2 * 3 + 1, none⟩) (by show _ ≤ g'; omega) _).setNew (p := ⟨g', o' + k2 * 3 + 2, none⟩) (by show _ ≤ g'; omega) _
                · exact ((HV.out.sec hg'b (fun _ _ e => by cases e; exact hg'g) _).sec hg'b (fun _ _ e => by cases e; exact hg'g) _).sec hg'b (fun _ _ e => by cases e; exact hg'g) _
              case measure => simp [intOf]; omega
            · obtain ⟨⟨u0, hu0⟩, hf0⟩ := hlv.cell (o := o + ii * 4) (by omega)
              obtain ⟨⟨u1, hu1⟩, hf1⟩ := hlv.cell (o := o + ii * 4 + 1) (by omega)
              obtain ⟨⟨u2, hu2⟩, hf2⟩ := hlv.cell (o := o + ii * 4 + 2) (by omega)
              obtain ⟨⟨u3, hu3⟩, hf3⟩ := hlv.cell (o := o + ii * 4 + 3) (by omega)
              clear hlv hsec
              go_wp2
              go_roundw
              case rel =>
                have hNw := HNN.out
                refine ⟨ii + 1, by go_num, by omega, ?_, ?_⟩
                · exact (((HBI.out.setNew (p := ⟨g, o + ii * 4, none⟩) (by show _ ≤ g; omega) _).setNew (p := ⟨g, o + ii * 4 + 1, none⟩) (by show _ ≤ g; omega) _).setNew (p := ⟨g, o + ii * 4 + 2, none⟩) (by show _ ≤ g; omega) _).setNew (p := ⟨g, o + ii * 4 + 3, none⟩) (by show _ ≤ g; omega) _
                · exact (((HV.out.more.tsk hgb (by omega) _).tsk hgb (by omega) _).tsk hgb (by omega) _).tsk hgb (by omega) _
              case measure =>
                have := HII.out
                simp [intOf]; omega
        · go_wp2
          go_roundw
          case rel => exact ⟨kk + 1, by go_num, by omega, HBW.out.trans HBI.out⟩
          case measure =>
            have := HKK.out
            simp [intOf]; omega
    · have HBE := Lib.hid (HB4.out.trans HBW.out)
      have HS := Lib.hid (keepS9 HS4.out HBW.out)
      have HT := Lib.hid (keepS9 HT4.out HBW.out)
      have CS1 := Lib.hid (CS.out _ HBE.out.drew)
      go_wp2_with fail
      go_region_held3 (fun w' => (w'.cell? ⟨ba, 0, none⟩ = some (.int .i64 s.co) ∧ w'.cell? ⟨ba, 1, none⟩ = some (.int .i64 s.po) ∧ w'.cell? ⟨ba, 2, none⟩ = some (.int .i64 s.pr) ∧ w'.cell? ⟨ba, 3, none⟩ = some (.int .i64 s.re) ∧ w'.cell? ⟨ba, 4, none⟩ = some (.int .i64 s.sw) ∧ w'.cell? ⟨ba, 5, none⟩ = some (.int .i64 s.fi) ∧ w'.cell? ⟨ba, 6, none⟩ = some (.int .i64 s.la) ∧ w'.cell? ⟨ba, 7, none⟩ = some (.int .i64 s.rs) ∧ w'.cell? ⟨ba, 8, none⟩ = some (.slice A n c)) ∧ (w'.cell? ⟨ba + 1, 0, none⟩ = some (.int .i64 t.co) ∧ w'.cell? ⟨ba + 1, 1, none⟩ = some (.int .i64 t.po) ∧ w'.cell? ⟨ba + 1, 2, none⟩ = some (.int .i64 t.pr) ∧ w'.cell? ⟨ba + 1, 3, none⟩ = some (.int .i64 t.re) ∧ w'.cell? ⟨ba + 1, 4, none⟩ = some (.int .i64 t.sw) ∧ w'.cell? ⟨ba + 1, 5, none⟩ = some (.int .i64 t.fi) ∧ w'.cell? ⟨ba + 1, 6, none⟩ = some (.int .i64 t.la) ∧ w'.cell? ⟨ba + 1, 7, none⟩ = some (.int .i64 t.rs) ∧ w'.cell? ⟨ba + 1, 8, none⟩ = some (.slice B m d)) ∧ But No w w')
        (first | exact ⟨HS.out, HT.out, HBE.out.drew⟩ | exact keepS (by assumption) hbq)
        (first | (go_at_call 14; ((with_reducible refine CS1.out.mono ?_); rintro e wq ⟨rfl, hbq⟩; have HBQ := Lib.hid (HBE.out.drew.trans hbq))) | (go_at_call 13; ((with_reducible refine (CT.out _ HBQ.out).mono ?_); rintro e wq ⟨rfl, hbq⟩)))
      rename_i hH
      have HF := Lib.hid hH.2.2
      clear hH
      go_wp2
      go_ret
      exact ⟨by cases q <;> rfl, HF.out⟩
end tasksetReads
end Go.Proofs.Ytlkcelmamenhpaa
