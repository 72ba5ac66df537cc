/- The contract of the document's Within (chapter 16). -/
import Derived.Test.YtnjkgalbbhmgjaaReR1
namespace Go.Proofs.Ytnjkgalbbhmgjaa.rsp
open Go.ChangeShapes Go.WideShapes Go.ChangeAt Go.RowKit Go.Deep
/-- So far it fits, or what it comes to does not. -/
def Fits (s : Int) (f : Ld → Int) (l : List Ld) (q : Nat) (S : Int) (ok : Bool) (all : Prop) : Prop := (ok = true ∧ S = sN s f l q ∧ S ≤ 4611686018427387904) ∨ (ok = false ∧ all)
theorem wi_arg {own bl rl : Int} {a b : List Ld} {n : Int} (h : ¬ (right own bl rl a b = true ∧ 0 ≤ n ∧ n ≤ 4611686018427387904)) : wiE own bl rl a b n = 1 ∧ wiV own bl rl a b n = 0 := by
  rcases wi_cases own bl rl a b n with ⟨e, v, _⟩ | ⟨h1, _⟩ | ⟨h1, _⟩
  · exact ⟨e, v⟩
  · exact absurd h1 h
  · exact absurd h1 h
theorem wi_over {own bl rl : Int} {a b : List Ld} {n : Int} (h : right own bl rl a b = true ∧ 0 ≤ n ∧ n ≤ 4611686018427387904) (hs : 4611686018427387904 < wiS own bl rl a b n) : wiE own bl rl a b n = 2 ∧ wiV own bl rl a b n = 0 := by
  rcases wi_cases own bl rl a b n with ⟨_, _, h1⟩ | ⟨_, _, e, v⟩ | ⟨_, h1, _⟩
  · exact absurd h h1
  · exact ⟨e, v⟩
  · omega
theorem wi_good {own bl rl : Int} {a b : List Ld} {n : Int} (h : right own bl rl a b = true ∧ 0 ≤ n ∧ n ≤ 4611686018427387904) (hs : wiS own bl rl a b n ≤ 4611686018427387904) : wiE own bl rl a b n = 0 ∧ wiV own bl rl a b n = wiS own bl rl a b n := by
  rcases wi_cases own bl rl a b n with ⟨_, _, h1⟩ | ⟨_, h1, _⟩ | ⟨_, _, e, v⟩
  · exact absurd h h1
  · omega
  · exact ⟨e, v⟩
set_option maxRecDepth 100000 in
set_option maxHeartbeats 8000000 in
theorem rwithin_any (A : Option Addr) (n c : Nat) (a : List Ld) (B : Option Addr) (m d : Nat) (b : List Ld) (own bl rl t : Int) (w : World) (h : RLd w A n a) (h' : RLd w B m b) : Calls Try.prog 11 #[.int .i64 own, .int .i64 bl, .int .i64 rl, .slice A n c, .slice B m d, .int .i64 t] w fun e w' => e = .returned (.tuple #[.int .i64 (wiV own bl rl a b t), .int .i64 (wiE own bl rl a b t)]) ∧ But No w w' := by
  have HNA := Lib.hid h.len
  have HNB := Lib.hid h'.len
  have HLA := Lib.hid h
  have HLB := Lib.hid h'
  have CR : Hid (∀ W, But No w W → Calls Try.prog 17 #[.int .i64 own, .int .i64 bl, .int .i64 rl, .slice A n c, .slice B m d] W fun e w' => e = .returned (.bool (right own bl rl a b)) ∧ But No W w') := fun W hb => rright_any A n c a B m d b own bl rl W (h.no hb) (h'.no hb)
  clear h h'
  cases hrt : right own bl rl a b with
  | false =>
    have HE := Lib.hid (wi_arg (own := own) (bl := bl) (rl := rl) (a := a) (b := b) (n := t) (by rw [hrt]; simp))
    rw [hrt] at CR
    clear hrt
    go_enter Try.func11, Try.ntmps11
    go_wp2_with (go_at_call 17; (with_reducible refine (CR.out _ (But.refl No w)).mono ?_); rintro e w1 ⟨rfl, hb1⟩; have HB1 := Lib.hid hb1; clear hb1)
    go_ret2
    exact ⟨retp HE.out.2.symm HE.out.1.symm, HB1.out⟩
  | true =>
    by_cases t0 : t < 0
    · have HE := Lib.hid (wi_arg (own := own) (bl := bl) (rl := rl) (a := a) (b := b) (n := t) (by omega))
      have b1 : decide (t < 0) = true := by simp [t0]
      rw [hrt] at CR
      clear hrt
      go_enter Try.func11, Try.ntmps11
      go_wp2_with (go_at_call 17; (with_reducible refine (CR.out _ (But.refl No w)).mono ?_); rintro e w1 ⟨rfl, hb1⟩; have HB1 := Lib.hid hb1; clear hb1)
      go_ret2
      exact ⟨retp HE.out.2.symm HE.out.1.symm, HB1.out⟩
    · have b1 : decide (t < 0) = false := by simp; omega
      by_cases t1 : 4611686018427387904 < t
      · have HE := Lib.hid (wi_arg (own := own) (bl := bl) (rl := rl) (a := a) (b := b) (n := t) (by omega))
        have b2 : decide (4611686018427387904 < t) = true := by simp [t1]
        rw [hrt] at CR
        clear hrt
        go_enter Try.func11, Try.ntmps11
        go_wp2_with (go_at_call 17; (with_reducible refine (CR.out _ (But.refl No w)).mono ?_); rintro e w1 ⟨rfl, hb1⟩; have HB1 := Lib.hid hb1; clear hb1)
        go_ret2
        exact ⟨retp HE.out.2.symm HE.out.1.symm, HB1.out⟩
      · have b2 : decide (4611686018427387904 < t) = false := by simp; omega
        have HRT := Lib.hid (show right own bl rl a b = true ∧ 0 ≤ t ∧ t ≤ 4611686018427387904 from ⟨hrt, by omega, by omega⟩)
        obtain ⟨ha, hb, ⟨o0, o1⟩, ⟨l0, l1⟩, r0, r1⟩ := right_iff.1 hrt
        have HOA := Lib.hid (okLs_iff.1 ha).2
        have HOB := Lib.hid (okLs_iff.1 hb).2
        have ht0 : 0 ≤ t := by omega
        have ht1 : t ≤ 4611686018427387904 := by omega
        have hn72 : n ≤ 72 := by have := (okLs_iff.1 ha).1; rw [HNA.out] at this; exact this
        have hm72 : m ≤ 72 := by have := (okLs_iff.1 hb).1; rw [HNB.out] at this; exact this
        have HPA : Hid (∀ x ∈ a, 0 ≤ fA t x) := Lib.hid (fun x hx => fA_pos ht0 (HOA.out x hx))
        have HPB : Hid (∀ x ∈ b, 0 ≤ fB rl t x) := Lib.hid (fun x hx => fB_pos ht0 r0 (HOB.out x hx))
        have HZB : Hid (wiA own bl a t ≤ wiS own bl rl a b t) := Lib.hid (by unfold wiS; exact sN_ge HPB.out (Nat.le_refl _))
        have HBAD : Hid (∀ q, q ≤ n → 4611686018427387904 < sN (own + bl) (fA t) a q → 4611686018427387904 < wiS own bl rl a b t) := Lib.hid (fun q hq h => by
          have h1 := sN_mono (s := own + bl) HPA.out (i := q) (j := a.length) (by rw [HNA.out]; omega) (Nat.le_refl _)
          have h2 := HZB.out
          unfold wiA at h2
          omega)
        rw [hrt] at CR
        clear hrt ha hb t0 t1
        go_enter Try.func11, Try.ntmps11
        go_upto_region 6 with (go_at_call 17; (with_reducible refine (CR.out _ (But.refl No w)).mono ?_); rintro e w1 ⟨rfl, hb1⟩; have HB1 := Lib.hid hb1; clear hb1)
        clear CR
        have HLA := Lib.hid (HLA.out.no HB1.out)
        have HLB := Lib.hid (HLB.out.no HB1.out)
        go_wp2_with fail
        go_loopw [15, 16, 17] (fun s o i wr => ∃ (S : Int) (ok : Bool) (q : Nat), s = .int .i64 S ∧ o = .bool ok ∧ i = .int .i64 (q : Int) ∧ q ≤ n ∧ Hid (Fits (own + bl) (fA t) a q S ok (4611686018427387904 < wiS own bl rl a b t)) ∧ Hid (But No w1 wr)) (fun _ _ i _ => n - (intOf i).toNat)
        case atStart => exact ⟨own + bl, true, 0, rfl, rfl, rfl, by omega, .inl ⟨rfl, rfl, by omega⟩, But.refl No w1⟩
        case round =>
          obtain ⟨Z, ok, q, rfl, rfl, rfl, hq, HST, HBR⟩ := hrel
          have hq0 : (0 : Int) ≤ (q : Int) := Int.natCast_nonneg q
          rcases HST.out with ⟨rfl, hS, hS1⟩ | ⟨rfl, hbad⟩
          · by_cases hqn : q < n
            · have hqn2 : (q : Int) < (n : Int) := by omega
              have b3 : decide ((q : Int) < (n : Int)) = true := by simp; omega
              obtain ⟨x, hx⟩ : ∃ x, a[q]? = some x := ⟨_, List.getElem?_eq_getElem (by rw [HNA.out]; exact hqn)⟩
              obtain ⟨k, off, rfl, _, e0, e1, e2⟩ := (HLA.out.no HBR.out).at1 hx
              have hxok := HOA.out x (List.mem_of_getElem? hx)
              obtain ⟨⟨hw0, hw1⟩, ⟨hp0, hp1⟩, hj0, hj1⟩ := okD_iff.1 hxok
              have hS0 : 0 ≤ Z := by rw [hS]; have := sN_ge (s := (own + bl)) (f := (fA t)) (l := a) HPA.out (i := q) (by rw [HNA.out]; omega); omega
              have sn := sN_succ (s := (own + bl)) (f := (fA t)) hx
              rw [← hS] at sn
              have HO := Lib.hid (fun h : 4611686018427387904 < sN (own + bl) (fA t) a (q + 1) => HBAD.out (q + 1) (by omega) h)
              clear hx hxok hS HST
              obtain ⟨x0, x1, x2⟩ := x
              dsimp only at e0 e1 e2 hw0 hw1 hp0 hp1 hj0 hj1
              have hub := up_bd (n := t + x2) (d := x1) (by omega) hp0
              have CU : Hid (∀ W, Calls Try.prog 19 #[.int .i64 (t + x2), .int .i64 x1] W fun e w' => e = .returned (.int .i64 (up (t + x2) x1)) ∧ w' = W) := Lib.hid (fun W => rup_any (t + x2) x1 (by omega) hp0 (by omega) (by omega) W)
              have hf : (fA t) ⟨x0, x1, x2⟩ = (up (t + x2) x1) * x0 := rfl
              rw [hf] at sn
              obtain ⟨u, hu⟩ : ∃ u, up (t + x2) x1 = u := ⟨_, rfl⟩
              rw [hu] at hub CU sn
              clear hf hu
              obtain ⟨P1, hP1⟩ : ∃ P1, Z + u * x0 = P1 := ⟨_, rfl⟩
              have HP := Lib.hid hP1
              rw [hP1] at sn
              have SN := Lib.hid sn.symm
              clear hP1 sn
              have KEEP : Hid (∀ w', But No wr w' → (w'.cell? ⟨k, off + q * 3, none⟩ = some (.int .i64 x0) ∧ w'.cell? ⟨k, off + q * 3 + 1, none⟩ = some (.int .i64 x1) ∧ w'.cell? ⟨k, off + q * 3 + 2, none⟩ = some (.int .i64 x2)) ∧ But No wr w') := Lib.hid (fun w' hb => ⟨⟨cell_keep e0 hb, cell_keep e1 hb, cell_keep e2 hb⟩, hb⟩)
              have W9 : Hid (IntKind.i64.wrap (t + x2) = t + x2) := Lib.hid (IntWalk.i64_in (t + x2) (by omega))
              have W8 : Hid (IntKind.i64.wrap (u + 1) = u + 1) := Lib.hid (IntWalk.i64_in (u + 1) (by omega))
              have hP0 : 0 ≤ t + x2 ∧ t + x2 ≤ 9223372036854775807 := by omega
              by_cases g : P1 ≤ 4611686018427387904
              · have HPL := Lib.hid g
                have CM : Hid (∀ W, Calls Try.prog 18 #[.int .i64 Z, .int .i64 u, .int .i64 x0] W fun e w' => e = .returned (.tuple #[.int .i64 P1, .bool true]) ∧ w' = W) := Lib.hid (fun W => by have := rmore_good Z u x0 (by omega) (by omega) (by omega) (by omega) (by omega) (by omega) (by rw [HP.out]; exact g) W; rw [HP.out] at this; exact this)
                clear g hub
                go_upto_region 9 with fail
                go_region_held3 (fun w' => (w'.cell? ⟨k, off + q * 3, none⟩ = some (.int .i64 x0) ∧ w'.cell? ⟨k, off + q * 3 + 1, none⟩ = some (.int .i64 x1) ∧ w'.cell? ⟨k, off + q * 3 + 2, none⟩ = some (.int .i64 x2)) ∧ But No wr w')
                  (first | exact KEEP.out _ (But.refl No wr) | exact KEEP.out _ (But.refl No wr).drew)
                  (first | ((try rw [W9.out]); go_at_call 19; ((with_reducible refine (CU.out _).mono ?_); rintro e wC ⟨rfl, rfl⟩)) | ((try rw [W8.out]); go_at_call 18; ((with_reducible refine (CM.out _).mono ?_); rintro e wC ⟨rfl, rfl⟩)))
                rename_i hHeld
                obtain ⟨_, hg9⟩ := hHeld
                have HB8 := Lib.hid (HBR.out.trans hg9)
                clear hg9
                go_wp2
                go_roundw
                case rel => exact ⟨P1, true, q + 1, rfl, rfl, by go_num, by omega, .inl ⟨rfl, SN.out, HPL.out⟩, HB8.out⟩
                case measure => simp [intOf]; omega
              · have HO : Hid (4611686018427387904 < wiS own bl rl a b t) := Lib.hid (HO.out (by rw [← SN.out]; omega))
                have CM : Hid (∀ W, Calls Try.prog 18 #[.int .i64 Z, .int .i64 u, .int .i64 x0] W fun e w' => (∃ v : Int, e = .returned (.tuple #[.int .i64 v, .bool false])) ∧ w' = W) := Lib.hid (fun W => rmore_bad Z u x0 (by omega) (by omega) (by omega) (by omega) (by omega) (by omega) (by rw [HP.out]; omega) W)
                clear g hub
                go_upto_region 9 with fail
                go_region_held3 (fun w' => (w'.cell? ⟨k, off + q * 3, none⟩ = some (.int .i64 x0) ∧ w'.cell? ⟨k, off + q * 3 + 1, none⟩ = some (.int .i64 x1) ∧ w'.cell? ⟨k, off + q * 3 + 2, none⟩ = some (.int .i64 x2)) ∧ But No wr w')
                  (first | exact KEEP.out _ (But.refl No wr) | exact KEEP.out _ (But.refl No wr).drew)
                  (first | ((try rw [W9.out]); go_at_call 19; ((with_reducible refine (CU.out _).mono ?_); rintro e wC ⟨rfl, rfl⟩)) | ((try rw [W8.out]); go_at_call 18; ((with_reducible refine (CM.out _).mono ?_); rintro e wC ⟨⟨v9, rfl⟩, rfl⟩)))
                rename_i hHeld
                obtain ⟨_, hg9⟩ := hHeld
                have HB8 := Lib.hid (HBR.out.trans hg9)
                clear hg9
                go_wp2
                go_roundw
                case rel => exact ⟨_, false, q + 1, rfl, rfl, by go_num, by omega, .inr ⟨rfl, HO.out⟩, HB8.out⟩
                case measure => simp [intOf]; omega
            · have b3 : decide ((q : Int) < (n : Int)) = false := by simp; omega
              obtain rfl : q = n := by omega
              have HZ : Hid (Z = wiA own bl a t) := Lib.hid (by rw [hS]; unfold wiA; rw [HNA.out])
              have hZ0 : 0 ≤ Z := by rw [hS]; have := sN_ge (s := own + bl) HPA.out (i := q) (by rw [HNA.out]; omega); omega
              have hZ1 := hS1
              clear hS hS1 HST HBAD
              have HBAD : Hid (∀ q, q ≤ m → 4611686018427387904 < sN Z (fB rl t) b q → 4611686018427387904 < wiS own bl rl a b t) := Lib.hid (fun q hq h => by
                have h1 := sN_mono (s := Z) HPB.out (i := q) (j := b.length) (by rw [HNB.out]; omega) (Nat.le_refl _)
                have h2 : wiS own bl rl a b t = sN Z (fB rl t) b b.length := by rw [HZ.out]; rfl
                omega)
              have HLB := Lib.hid (HLB.out.no HBR.out)
              go_wp2_with fail
              go_loopw [15, 16, 18] (fun s o i w3 => ∃ (S : Int) (ok : Bool) (q : Nat), s = .int .i64 S ∧ o = .bool ok ∧ i = .int .i64 (q : Int) ∧ q ≤ m ∧ Hid (Fits Z (fB rl t) b q S ok (4611686018427387904 < wiS own bl rl a b t)) ∧ Hid (But No wr w3)) (fun _ _ i _ => m - (intOf i).toNat)
              case atStart => exact ⟨Z, true, 0, rfl, rfl, rfl, by omega, .inl ⟨rfl, rfl, hZ1⟩, But.refl No wr⟩
              case round =>
                obtain ⟨S, ok, q, rfl, rfl, rfl, hq, HST, HBS⟩ := hrel
                have hq0 : (0 : Int) ≤ (q : Int) := Int.natCast_nonneg q
                rcases HST.out with ⟨rfl, hS, hS1⟩ | ⟨rfl, hbad⟩
                · by_cases hqn : q < m
                  · have hqn2 : (q : Int) < (m : Int) := by omega
                    have b3 : decide ((q : Int) < (m : Int)) = true := by simp; omega
                    obtain ⟨x, hx⟩ : ∃ x, b[q]? = some x := ⟨_, List.getElem?_eq_getElem (by rw [HNB.out]; exact hqn)⟩
                    obtain ⟨k, off, rfl, _, e0, e1, e2⟩ := (HLB.out.no HBS.out).at1 hx
                    have hxok := HOB.out x (List.mem_of_getElem? hx)
                    obtain ⟨⟨hw0, hw1⟩, ⟨hp0, hp1⟩, hj0, hj1⟩ := okD_iff.1 hxok
                    have hS0 : 0 ≤ S := by rw [hS]; have := sN_ge (s := Z) (f := (fB rl t)) (l := b) HPB.out (i := q) (by rw [HNB.out]; omega); omega
                    have sn := sN_succ (s := Z) (f := (fB rl t)) hx
                    rw [← hS] at sn
                    have HO := Lib.hid (fun h : 4611686018427387904 < sN Z (fB rl t) b (q + 1) => HBAD.out (q + 1) (by omega) h)
                    clear hx hxok hS HST
                    obtain ⟨x0, x1, x2⟩ := x
                    dsimp only at e0 e1 e2 hw0 hw1 hp0 hp1 hj0 hj1
                    have hub := up_bd (n := t + x2) (d := x1) (by omega) hp0
                    have CU : Hid (∀ W, Calls Try.prog 19 #[.int .i64 (t + x2), .int .i64 x1] W fun e w' => e = .returned (.int .i64 (up (t + x2) x1)) ∧ w' = W) := Lib.hid (fun W => rup_any (t + x2) x1 (by omega) hp0 (by omega) (by omega) W)
                    have hf : (fB rl t) ⟨x0, x1, x2⟩ = (up (t + x2) x1 + 1) * rl := rfl
                    rw [hf] at sn
                    obtain ⟨u, hu⟩ : ∃ u, up (t + x2) x1 = u := ⟨_, rfl⟩
                    rw [hu] at hub CU sn
                    clear hf hu
                    obtain ⟨P1, hP1⟩ : ∃ P1, S + (u + 1) * rl = P1 := ⟨_, rfl⟩
                    have HP := Lib.hid hP1
                    rw [hP1] at sn
                    have SN := Lib.hid sn.symm
                    clear hP1 sn
                    have KEEP : Hid (∀ w', But No wr w' → (w'.cell? ⟨k, off + q * 3, none⟩ = some (.int .i64 x0) ∧ w'.cell? ⟨k, off + q * 3 + 1, none⟩ = some (.int .i64 x1) ∧ w'.cell? ⟨k, off + q * 3 + 2, none⟩ = some (.int .i64 x2)) ∧ But No wr w') := Lib.hid (fun w' hb => ⟨⟨cell_keep e0 hb, cell_keep e1 hb, cell_keep e2 hb⟩, hb⟩)
                    have W9 : Hid (IntKind.i64.wrap (t + x2) = t + x2) := Lib.hid (IntWalk.i64_in (t + x2) (by omega))
                    have W8 : Hid (IntKind.i64.wrap (u + 1) = u + 1) := Lib.hid (IntWalk.i64_in (u + 1) (by omega))
                    have hP0 : 0 ≤ t + x2 ∧ t + x2 ≤ 9223372036854775807 := by omega
                    by_cases g : P1 ≤ 4611686018427387904
                    · have HPL := Lib.hid g
                      have CM : Hid (∀ W, Calls Try.prog 18 #[.int .i64 S, .int .i64 (u + 1), .int .i64 rl] W fun e w' => e = .returned (.tuple #[.int .i64 P1, .bool true]) ∧ w' = W) := Lib.hid (fun W => by have := rmore_good S (u + 1) rl (by omega) (by omega) (by omega) (by omega) (by omega) (by omega) (by rw [HP.out]; exact g) W; rw [HP.out] at this; exact this)
                      clear g hub
                      go_upto_region 13 with fail
                      go_region_held3 (fun w' => (w'.cell? ⟨k, off + q * 3, none⟩ = some (.int .i64 x0) ∧ w'.cell? ⟨k, off + q * 3 + 1, none⟩ = some (.int .i64 x1) ∧ w'.cell? ⟨k, off + q * 3 + 2, none⟩ = some (.int .i64 x2)) ∧ But No wr w')
                        (first | exact KEEP.out _ (But.refl No wr) | exact KEEP.out _ (But.refl No wr).drew)
                        (first | ((try rw [W9.out]); go_at_call 19; ((with_reducible refine (CU.out _).mono ?_); rintro e wC ⟨rfl, rfl⟩)) | ((try rw [W8.out]); go_at_call 18; ((with_reducible refine (CM.out _).mono ?_); rintro e wC ⟨rfl, rfl⟩)))
                      rename_i hHeld
                      obtain ⟨_, hg9⟩ := hHeld
                      have HB8 := Lib.hid (HBS.out.trans hg9)
                      clear hg9
                      go_wp2
                      go_roundw
                      case rel => exact ⟨P1, true, q + 1, rfl, rfl, by go_num, by omega, .inl ⟨rfl, SN.out, HPL.out⟩, HB8.out⟩
                      case measure => simp [intOf]; omega
                    · have HO : Hid (4611686018427387904 < wiS own bl rl a b t) := Lib.hid (HO.out (by rw [← SN.out]; omega))
                      have CM : Hid (∀ W, Calls Try.prog 18 #[.int .i64 S, .int .i64 (u + 1), .int .i64 rl] W fun e w' => (∃ v : Int, e = .returned (.tuple #[.int .i64 v, .bool false])) ∧ w' = W) := Lib.hid (fun W => rmore_bad S (u + 1) rl (by omega) (by omega) (by omega) (by omega) (by omega) (by omega) (by rw [HP.out]; omega) W)
                      clear g hub
                      go_upto_region 13 with fail
                      go_region_held3 (fun w' => (w'.cell? ⟨k, off + q * 3, none⟩ = some (.int .i64 x0) ∧ w'.cell? ⟨k, off + q * 3 + 1, none⟩ = some (.int .i64 x1) ∧ w'.cell? ⟨k, off + q * 3 + 2, none⟩ = some (.int .i64 x2)) ∧ But No wr w')
                        (first | exact KEEP.out _ (But.refl No wr) | exact KEEP.out _ (But.refl No wr).drew)
                        (first | ((try rw [W9.out]); go_at_call 19; ((with_reducible refine (CU.out _).mono ?_); rintro e wC ⟨rfl, rfl⟩)) | ((try rw [W8.out]); go_at_call 18; ((with_reducible refine (CM.out _).mono ?_); rintro e wC ⟨⟨v9, rfl⟩, rfl⟩)))
                      rename_i hHeld
                      obtain ⟨_, hg9⟩ := hHeld
                      have HB8 := Lib.hid (HBS.out.trans hg9)
                      clear hg9
                      go_wp2
                      go_roundw
                      case rel => exact ⟨_, false, q + 1, rfl, rfl, by go_num, by omega, .inr ⟨rfl, HO.out⟩, HB8.out⟩
                      case measure => simp [intOf]; omega
                  · have b3 : decide ((q : Int) < (m : Int)) = false := by simp; omega
                    obtain rfl : q = m := by omega
                    have hsum : wiS own bl rl a b t = S := by rw [hS, HZ.out]; unfold wiS; rw [HNB.out]
                    have HE := Lib.hid (wi_good HRT.out (by rw [hsum]; exact hS1))
                    rw [hsum] at HE
                    clear hsum hS hS1 HST
                    go_wp2
                    go_ret2
                    exact ⟨retp HE.out.2.symm HE.out.1.symm, (HB1.out.trans HBR.out).trans HBS.out⟩
                · have HX := Lib.hid hbad
                  clear hbad HST
                  by_cases hqn : q < m
                  · have b3 : decide ((q : Int) < (m : Int)) = true := by simp; omega
                    have HE := Lib.hid (wi_over HRT.out HX.out)
                    go_wp2
                    go_ret2
                    exact ⟨retp HE.out.2.symm HE.out.1.symm, (HB1.out.trans HBR.out).trans HBS.out⟩
                  · have b3 : decide ((q : Int) < (m : Int)) = false := by simp; omega
                    have HE := Lib.hid (wi_over HRT.out HX.out)
                    go_wp2
                    go_ret2
                    exact ⟨retp HE.out.2.symm HE.out.1.symm, (HB1.out.trans HBR.out).trans HBS.out⟩
          · have HX := Lib.hid hbad
            clear hbad HST
            by_cases hqn : q < n
            · have b3 : decide ((q : Int) < (n : Int)) = true := by simp; omega
              have HE := Lib.hid (wi_over HRT.out HX.out)
              clear HBAD
              go_wp2_with fail
              go_loopw [15, 16, 18] (fun s o i w3 => s = .int .i64 Z ∧ o = .bool false ∧ i = .int .i64 0 ∧ Hid (But No wr w3)) (fun _ _ _ _ => 0)
              case atStart => exact ⟨rfl, rfl, rfl, But.refl No wr⟩
              case round =>
                obtain ⟨rfl, rfl, rfl, HBS⟩ := hrel
                by_cases h0 : 0 < m
                · have b5 : decide ((0 : Int) < (m : Int)) = true := by simp; omega
                  go_wp2
                  go_ret2
                  exact ⟨retp HE.out.2.symm HE.out.1.symm, (HB1.out.trans HBR.out).trans HBS.out⟩
                · have b5 : decide ((0 : Int) < (m : Int)) = false := by simp; omega
                  go_wp2
                  go_ret2
                  exact ⟨retp HE.out.2.symm HE.out.1.symm, (HB1.out.trans HBR.out).trans HBS.out⟩
            · have b3 : decide ((q : Int) < (n : Int)) = false := by simp; omega
              have HE := Lib.hid (wi_over HRT.out HX.out)
              clear HBAD
              go_wp2_with fail
              go_loopw [15, 16, 18] (fun s o i w3 => s = .int .i64 Z ∧ o = .bool false ∧ i = .int .i64 0 ∧ Hid (But No wr w3)) (fun _ _ _ _ => 0)
              case atStart => exact ⟨rfl, rfl, rfl, But.refl No wr⟩
              case round =>
                obtain ⟨rfl, rfl, rfl, HBS⟩ := hrel
                by_cases h0 : 0 < m
                · have b5 : decide ((0 : Int) < (m : Int)) = true := by simp; omega
                  go_wp2
                  go_ret2
                  exact ⟨retp HE.out.2.symm HE.out.1.symm, (HB1.out.trans HBR.out).trans HBS.out⟩
                · have b5 : decide ((0 : Int) < (m : Int)) = false := by simp; omega
                  go_wp2
                  go_ret2
                  exact ⟨retp HE.out.2.symm HE.out.1.symm, (HB1.out.trans HBR.out).trans HBS.out⟩
end Go.Proofs.Ytnjkgalbbhmgjaa.rsp
