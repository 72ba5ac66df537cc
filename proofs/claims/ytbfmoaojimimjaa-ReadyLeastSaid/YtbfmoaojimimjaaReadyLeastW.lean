/- ReadyLeast: the walk. -/
import Derived.Test.YtbfmoaojimimjaaO2
namespace Go.Proofs.Ytbfmoaojimimjaa.readyLeast
open Go.ChangeShapes Go.WideShapes Go.ChangeAt Go.RowKit Go.Deep Go.Proofs.Ytbfmoaojimimjaa
theorem info4 : (Try.prog.info? 4).map (fun i => (i.zero, i.size, i.bytes)) = some (some (.bool false), 1, 1) := by kernel_rfl
set_option maxHeartbeats 8000000 in
set_option maxRecDepth 100000 in
theorem walk (edf : Bool) (A : Option Addr) (n c : Nat) (zs : List Int) (_ : n ≤ c) (O : Option Addr) (N d : Nat) (ts : List Int) (_ : N ≤ d) (hN : N * 8 ≤ 140737488351232) (w : World) (hd : Rd w A n zs) (ho : Rd w O N ts) :
    Calls Try.prog 5 #[.bool edf, .slice A n c, .slice O N d] w fun e w' => e = .returned (.bool true) ∧ But No w w' := by
  have HD := Lib.hid hd
  have HO := Lib.hid ho
  have hmx := hd.max
  have hN2 : N ≤ 17592186043904 := by omega
  clear hd ho hN
  obtain ⟨m, hmin, hm0, hm1, hm2⟩ : ∃ m : Nat, (if (24 : Int) < (n : Int) then (24 : Int) else (n : Int)) = (m : Int) ∧ m ≤ 24 ∧ m ≤ n ∧ (m = 0 → n = 0) := by
    by_cases h : (24 : Int) < (n : Int)
    · exact ⟨24, by rw [if_pos h]; rfl, by omega, by omega, by omega⟩
    · exact ⟨n, by rw [if_neg h], by omega, by omega, by omega⟩
  obtain ⟨v, hv⟩ : ∃ v : Nat → Int, v = fun i => pk (zs.getD i 0) 1125899906842624 := ⟨_, rfl⟩
  have HV : Hid (∀ i, v i = pk (zs.getD i 0) 1125899906842624) := by rw [hv]; exact fun i => rfl
  have HVR : Hid (∀ i, 0 ≤ v i ∧ v i ≤ big) := fun i => by rw [HV.out i]; have := pk_lt (zs.getD i 0) 1125899906842624 (by omega); unfold big; omega
  clear hv
  obtain ⟨i0, hi0, hi1, hi2, hi3⟩ := info_parts info4
  have I0 : Hid (Try.prog.info? 4 = some i0 ∧ i0.zero = some (.bool false) ∧ i0.size = 1 ∧ i0.bytes = 1) := ⟨hi0, hi1, hi2, hi3⟩
  clear hi0 hi1 hi2 hi3
  cases edf with
  | false =>
    go_enter Try.func5, Try.ntmps5
    go_wp2_with fail
    refine (examples_any w).mono ?_
    rintro e w1 ⟨rfl, hb1⟩
    have HB1 := Lib.hid hb1
    clear hb1
    go_wp2_with fail
    refine (new_any 1 w1 (by omega)).mono ?_
    rintro e w2 ⟨q, S, rfl, h1, hb, hs⟩
    have H1 := Lib.hid (Hw.made h1 HB1.out hb hs)
    clear h1 hb hs HB1
    go_wp2_with (at_make; refine wpList_make_full _ rfl _ _ 44 rfl 0 4 i0 _ 1 Try.underlying44 I0.out.1 I0.out.2.1 I0.out.2.2.1 .i64 .i64 _ _ 24 rfl rfl (by omega) (by omega) (by rw [I0.out.2.2.2]; omega) (by unfold maxLen; omega) (Nat.zero_le _) ?_; intro w3 hown hgrow; have HS0 : Hid (Lr w w3 v m N w2.heap.size q 1 0 S (fun _ => false) []) := ⟨H1.out.no ((But.refl No w2).grown hgrow (fun k e => by cases e)), In.nil v m, vals_made1 rfl hown, fun e => by have := H1.out.qp.lt _ e; omega, H1.out.but.size, fun k hk hi => absurd hi (by omega)⟩; clear hown hgrow)
    generalize w2.heap.size = g at HS0 ⊢
    go_loopw [13] (fun i wr => ∃ (i' : Nat) (S' : Nat → Prop) (B : Nat → Bool) (L : List E), i = .int .i64 (i' : Int) ∧ i' ≤ N + m ∧ Hid (Lr w wr v m N g q 1 i' S' B L)) (fun i _ => N + m - (intOf i).toNat)
    case atStart => exact ⟨0, S, _, [], rfl, by omega, HS0⟩
    case round =>
      clear HS0 H1
      obtain ⟨i, S', B, L, rfl, hi, HR⟩ := hrel
      by_cases hlt : i < N + m
      · have hlt2 : (i : Int) < (N : Int) + (m : Int) := by omega
        by_cases hiN : i < N
        · have hiN2 : (i : Int) < (N : Int) := by omega
          by_cases m0 : m = 0
          · have hm3 : decide ((0 : Int) < (m : Int)) = false := by simp [m0]
            have hng : decide ((i : Int) - (N : Int) < 0) = true := by simp; omega
            have HR2 := Lib.hid (HR.out.go (fun j hj hji => by omega))
            go_wp2_with fail
            go_roundw
            case rel => exact ⟨i + 1, S', B, L, by go_num, by omega, HR2⟩
            case measure => simp [intOf]; omega
          · have hm3 : decide ((0 : Int) < (m : Int)) = true := by simp; omega
            obtain ⟨bo, offo, hAo, hlo, hco⟩ := (HO.out.no HR.out.hw.but).at_ (by omega)
            cases hAo
            have hcz0 := hco i (by omega)
            have PO := Lib.hid (fun W => pick_any (ts.getD i 0) (m : Int) W (HO.out.fit i) (by omega) (by omega))
            have hpl := pk_lt (ts.getD i 0) (m : Int) (by omega)
            generalize ts.getD i 0 = zo at hcz0 PO hpl
            obtain ⟨k, hpk⟩ : ∃ k : Nat, pk zo (m : Int) = (k : Int) := ⟨(pk zo (m : Int)).toNat, by omega⟩
            rw [hpk] at PO hpl
            have hk : k < m := by omega
            have k0 : decide ((k : Int) < 0) = false := by simp
            have k1 : decide ((m : Int) ≤ (k : Int)) = false := by simp; omega
            have k2 : (k : Int) < 24 := by omega
            have k3 : (k : Int) < (n : Int) := by omega
            clear hpk hpl hco hlo
            cases hbk : B k with
            | true =>
              have hcg := HR.out.vals.cell (k := k) (by omega)
              rw [hbk] at hcg
              have HR2 := Lib.hid (HR.out.go (fun j hj hji => by first | (exfalso; omega) | (have ejk2 : j = k := (by omega); subst ejk2; exact hbk)))
              clear hbk
              go_wp2_with ((go_at_call 10; ((with_reducible refine (PO.out _).mono ?_); rintro e w3 ⟨rfl, rfl⟩)))
              go_roundw
              case rel => exact ⟨i + 1, S', B, L, by go_num, by omega, HR2⟩
              case measure => simp [intOf]; omega
            | false =>
              have hcg := HR.out.vals.cell (k := k) (by omega)
              have hfg := HR.out.vals.frozen k
              rw [hbk] at hcg
              have hlg := HR.out.vals.lt
              have HW2 := Lib.hid (HR.out.hw.set (g := g) (k := k) HR.out.new HR.out.ns (.bool true))
              obtain ⟨e0, _, _⟩ := HR.out.inn.add hm0 hk (by exact hbk) (HVR.out k)
              have hlen := HR.out.hw.qp.ok.len
              obtain ⟨b, off, hA, hlb, hc⟩ := (HD.out.no HW2.out.but).at_ (by omega)
              cases hA
              have hcz := hc k (by omega)
              have P0 := Lib.hid (fun W => pick_any (zs.getD k 0) 1125899906842624 W (HD.out.fit k) (by omega) (by omega))
              rw [← HV.out k] at P0
              have CA := Lib.hid (add_any q 1 L.length L S' _ k (v k) HW2.out.qp (by omega))
              rw [e0] at CA
              have HLK := Lib.hid hbk
              clear hbk hc e0 hlb
              generalize zs.getD k 0 = z at hcz P0
              go_wp2_with (first | (go_at_call 10; ((with_reducible refine (PO.out _).mono ?_); rintro e w3 ⟨rfl, rfl⟩)) | (go_at_call 10; ((with_reducible refine (P0.out _).mono ?_); rintro e w3 ⟨rfl, rfl⟩)) | (go_at_call 11; ((with_reducible refine CA.out.mono ?_); rintro e w3 ⟨rfl, hm⟩; obtain ⟨S3, hl3⟩ := HR.out.add hm0 hk HLK.out (HVR.out k) (fun j hj hji => by omega) hm; clear hm)))
              have HR3 := Lib.hid hl3
              clear hl3
              go_loopw [15, 16] (fun u i wx => ∃ (b : Int) (j : Nat), u = .int .i64 b ∧ i = .int .i64 (j : Int) ∧ j ≤ m ∧ Hid (Best v (on B k) j b) ∧ Hid (But No w3 wx)) (fun _ i _ => m - (intOf i).toNat)
              case atStart => exact ⟨-1, 0, rfl, rfl, by omega, Best.zero _ _, But.refl _ _⟩
              case round =>
                obtain ⟨bb, j, rfl, rfl, hj, HB, HBX⟩ := hrel
                by_cases hlj : j < m
                · have hcj : wr.cell? ⟨g, j, none⟩ = some (.bool (on B k j)) := (Vals.but HR3.out.vals HBX.out (fun f => f)).cell (by omega)
                  have jn : (j : Int) < (m : Int) := by omega
                  have jn2 : (j : Int) < (n : Int) := by omega
                  have j24 : (j : Int) < 24 := by omega
                  have j24' : j < 24 := by omega
                  obtain ⟨b, off, hA, hlb, hc⟩ := (HD.out.no (HR3.out.hw.but.trans HBX.out)).at_ (by omega)
                  cases hA
                  cases hoj : on B k j with
                  | false =>
                    rw [hoj] at hcj
                    have HB2 := Lib.hid (HB.out.skip hoj)
                    clear hc hoj HB
                    go_wp2_with fail
                    go_quiet (fail)
                    go_wp2_with fail
                    go_roundw
                    case rel => exact ⟨bb, j + 1, rfl, by go_num, by omega, HB2, HBX.out.drewN _⟩
                    case measure => simp [intOf]; omega
                  | true =>
                    rw [hoj] at hcj
                    rcases HB.out.cases with rfl | ⟨kb, rfl, hkb⟩
                    · have HB2 := Lib.hid (HB.out.first hoj)
                      clear hc hoj HB
                      go_wp2_with fail
                      go_quiet (fail)
                      go_wp2_with fail
                      go_roundw
                      case rel => exact ⟨(j : Int), j + 1, rfl, by go_num, by omega, HB2, HBX.out.drewN _⟩
                      case measure => simp [intOf]; omega
                    · have hcl := hc j (by omega)
                      have hck2 := hc kb (by omega)
                      have kb1 : (kb : Int) < (n : Int) := by omega
                      have kb0 : decide ((kb : Int) < 0) = false := by simp
                      have fj := HD.out.fit j
                      have fk := HD.out.fit kb
                      have hvj := HV.out j
                      have hvk := HV.out kb
                      generalize zs.getD j 0 = zj at hcl fj hvj
                      generalize zs.getD kb 0 = zk at hck2 fk hvk
                      by_cases hv : v j < v kb
                      · have hv2 : decide (pk zj 1125899906842624 < pk zk 1125899906842624) = true := by rw [← hvj, ← hvk]; simp [hv]
                        have HB2 := Lib.hid (HB.out.less hoj hv)
                        clear hc hoj HB hvj hvk hv
                        go_wp2_with fail
                        have keepc : ∀ {W : World}, But No wr W → W.cell? ⟨g, j, none⟩ = some (.bool true) ∧ W.cell? ⟨b, off + j, none⟩ = some (.int .i64 zj) ∧ W.cell? ⟨b, off + kb, none⟩ = some (.int .i64 zk) := fun hb => ⟨cell_keep hcj hb, cell_keep hcl hb, cell_keep hck2 hb⟩
                        go_region_held3 (fun w' => w'.cell? ⟨g, j, none⟩ = some (.bool true) ∧ w'.cell? ⟨b, off + j, none⟩ = some (.int .i64 zj) ∧ w'.cell? ⟨b, off + kb, none⟩ = some (.int .i64 zk))
                          (first | with_reducible exact ⟨hcj, hcl, hck2⟩ | with_reducible exact keepc (But.refl No wr).drew | with_reducible exact keepc ((But.refl No wr).drewN _))
                          (first | (go_at_call 10; ((with_reducible refine (pick_any _ 1125899906842624 _ (by assumption) (by omega) (by omega)).mono ?_); rintro e w4 ⟨rfl, rfl⟩)))
                        go_wp2_with fail
                        go_roundw
                        case rel => exact ⟨(j : Int), j + 1, rfl, by go_num, by omega, HB2, (by first | exact HBX.out | exact HBX.out.drew | exact HBX.out.drewN _)⟩
                        case measure => simp [intOf]; omega
                      · have hv2 : decide (pk zj 1125899906842624 < pk zk 1125899906842624) = false := by rw [← hvj, ← hvk]; simp; omega
                        have HB2 := Lib.hid (HB.out.more hv)
                        clear hc hoj HB hvj hvk hv
                        go_wp2_with fail
                        have keepc : ∀ {W : World}, But No wr W → W.cell? ⟨g, j, none⟩ = some (.bool true) ∧ W.cell? ⟨b, off + j, none⟩ = some (.int .i64 zj) ∧ W.cell? ⟨b, off + kb, none⟩ = some (.int .i64 zk) := fun hb => ⟨cell_keep hcj hb, cell_keep hcl hb, cell_keep hck2 hb⟩
                        go_region_held3 (fun w' => w'.cell? ⟨g, j, none⟩ = some (.bool true) ∧ w'.cell? ⟨b, off + j, none⟩ = some (.int .i64 zj) ∧ w'.cell? ⟨b, off + kb, none⟩ = some (.int .i64 zk))
                          (first | with_reducible exact ⟨hcj, hcl, hck2⟩ | with_reducible exact keepc (But.refl No wr).drew | with_reducible exact keepc ((But.refl No wr).drewN _))
                          (first | (go_at_call 10; ((with_reducible refine (pick_any _ 1125899906842624 _ (by assumption) (by omega) (by omega)).mono ?_); rintro e w4 ⟨rfl, rfl⟩)))
                        go_wp2_with fail
                        go_roundw
                        case rel => exact ⟨(kb : Int), j + 1, rfl, by go_num, by omega, HB2, (by first | exact HBX.out | exact HBX.out.drew | exact HBX.out.drewN _)⟩
                        case measure => simp [intOf]; omega
                · have ejm : m = j := by omega
                  subst ejm
                  have HFI : Hid (firE (addL L k (v k)) = bb) := HB.out.fir HR3.out.inn HR3.out.hw.qp.ok
                  have CF := Lib.hid (first_any q 1 _ _ S3 wr (HR3.out.hw.no HBX.out).qp)
                  rw [HFI.out] at CF
                  have eb : (bb != bb) = false := by simp
                  have HR4 := Lib.hid (HR3.out.no HBX.out)
                  clear HB HBX HFI hlj
                  go_wp2_with (go_at_call 24; ((with_reducible refine CF.out.mono ?_); rintro e w4 ⟨rfl, hb⟩; have HR5 := Lib.hid (HR4.out.no hb); clear hb))
                  go_roundw
                  case rel => exact ⟨i + 1, S3, on B k, addL L k (v k), by go_num, by omega, HR5⟩
                  case measure => simp [intOf]; omega
        · have hiN2 : decide ((i : Int) < (N : Int)) = false := by simp; omega
          obtain ⟨k, hik⟩ : ∃ k : Nat, (i : Int) - (N : Int) = (k : Int) := ⟨i - N, by omega⟩
          have hk : k < m := by omega
          have k0 : decide ((k : Int) < 0) = false := by simp
          have k1 : decide ((m : Int) ≤ (k : Int)) = false := by simp; omega
          have k2 : (k : Int) < 24 := by omega
          have k3 : (k : Int) < (n : Int) := by omega
          cases hbk : B k with
          | true =>
            have hcg := HR.out.vals.cell (k := k) (by omega)
            rw [hbk] at hcg
            have HR2 := Lib.hid (HR.out.go (fun j hj hji => by first | (exfalso; omega) | (have ejk2 : j = k := (by omega); subst ejk2; exact hbk)))
            clear hbk
            go_wp2_with (fail)
            go_roundw
            case rel => exact ⟨i + 1, S', B, L, by go_num, by omega, HR2⟩
            case measure => simp [intOf]; omega
          | false =>
            have hcg := HR.out.vals.cell (k := k) (by omega)
            have hfg := HR.out.vals.frozen k
            rw [hbk] at hcg
            have hlg := HR.out.vals.lt
            have HW2 := Lib.hid (HR.out.hw.set (g := g) (k := k) HR.out.new HR.out.ns (.bool true))
            obtain ⟨e0, _, _⟩ := HR.out.inn.add hm0 hk (by exact hbk) (HVR.out k)
            have hlen := HR.out.hw.qp.ok.len
            obtain ⟨b, off, hA, hlb, hc⟩ := (HD.out.no HW2.out.but).at_ (by omega)
            cases hA
            have hcz := hc k (by omega)
            have P0 := Lib.hid (fun W => pick_any (zs.getD k 0) 1125899906842624 W (HD.out.fit k) (by omega) (by omega))
            rw [← HV.out k] at P0
            have CA := Lib.hid (add_any q 1 L.length L S' _ k (v k) HW2.out.qp (by omega))
            rw [e0] at CA
            have HLK := Lib.hid hbk
            clear hbk hc e0 hlb
            generalize zs.getD k 0 = z at hcz P0
            go_wp2_with (first | (go_at_call 10; ((with_reducible refine (P0.out _).mono ?_); rintro e w3 ⟨rfl, rfl⟩)) | (go_at_call 11; ((with_reducible refine CA.out.mono ?_); rintro e w3 ⟨rfl, hm⟩; obtain ⟨S3, hl3⟩ := HR.out.add hm0 hk HLK.out (HVR.out k) (fun j hj hji => by omega) hm; clear hm)))
            have HR3 := Lib.hid hl3
            clear hl3
            go_loopw [15, 16] (fun u i wx => ∃ (b : Int) (j : Nat), u = .int .i64 b ∧ i = .int .i64 (j : Int) ∧ j ≤ m ∧ Hid (Best v (on B k) j b) ∧ Hid (But No w3 wx)) (fun _ i _ => m - (intOf i).toNat)
            case atStart => exact ⟨-1, 0, rfl, rfl, by omega, Best.zero _ _, But.refl _ _⟩
            case round =>
              obtain ⟨bb, j, rfl, rfl, hj, HB, HBX⟩ := hrel
              by_cases hlj : j < m
              · have hcj : wr.cell? ⟨g, j, none⟩ = some (.bool (on B k j)) := (Vals.but HR3.out.vals HBX.out (fun f => f)).cell (by omega)
                have jn : (j : Int) < (m : Int) := by omega
                have jn2 : (j : Int) < (n : Int) := by omega
                have j24 : (j : Int) < 24 := by omega
                have j24' : j < 24 := by omega
                obtain ⟨b, off, hA, hlb, hc⟩ := (HD.out.no (HR3.out.hw.but.trans HBX.out)).at_ (by omega)
                cases hA
                cases hoj : on B k j with
                | false =>
                  rw [hoj] at hcj
                  have HB2 := Lib.hid (HB.out.skip hoj)
                  clear hc hoj HB
                  go_wp2_with fail
                  go_quiet (fail)
                  go_wp2_with fail
                  go_roundw
                  case rel => exact ⟨bb, j + 1, rfl, by go_num, by omega, HB2, HBX.out.drewN _⟩
                  case measure => simp [intOf]; omega
                | true =>
                  rw [hoj] at hcj
                  rcases HB.out.cases with rfl | ⟨kb, rfl, hkb⟩
                  · have HB2 := Lib.hid (HB.out.first hoj)
                    clear hc hoj HB
                    go_wp2_with fail
                    go_quiet (fail)
                    go_wp2_with fail
                    go_roundw
                    case rel => exact ⟨(j : Int), j + 1, rfl, by go_num, by omega, HB2, HBX.out.drewN _⟩
                    case measure => simp [intOf]; omega
                  · have hcl := hc j (by omega)
                    have hck2 := hc kb (by omega)
                    have kb1 : (kb : Int) < (n : Int) := by omega
                    have kb0 : decide ((kb : Int) < 0) = false := by simp
                    have fj := HD.out.fit j
                    have fk := HD.out.fit kb
                    have hvj := HV.out j
                    have hvk := HV.out kb
                    generalize zs.getD j 0 = zj at hcl fj hvj
                    generalize zs.getD kb 0 = zk at hck2 fk hvk
                    by_cases hv : v j < v kb
                    · have hv2 : decide (pk zj 1125899906842624 < pk zk 1125899906842624) = true := by rw [← hvj, ← hvk]; simp [hv]
                      have HB2 := Lib.hid (HB.out.less hoj hv)
                      clear hc hoj HB hvj hvk hv
                      go_wp2_with fail
                      have keepc : ∀ {W : World}, But No wr W → W.cell? ⟨g, j, none⟩ = some (.bool true) ∧ W.cell? ⟨b, off + j, none⟩ = some (.int .i64 zj) ∧ W.cell? ⟨b, off + kb, none⟩ = some (.int .i64 zk) := fun hb => ⟨cell_keep hcj hb, cell_keep hcl hb, cell_keep hck2 hb⟩
                      go_region_held3 (fun w' => w'.cell? ⟨g, j, none⟩ = some (.bool true) ∧ w'.cell? ⟨b, off + j, none⟩ = some (.int .i64 zj) ∧ w'.cell? ⟨b, off + kb, none⟩ = some (.int .i64 zk))
                        (first | with_reducible exact ⟨hcj, hcl, hck2⟩ | with_reducible exact keepc (But.refl No wr).drew | with_reducible exact keepc ((But.refl No wr).drewN _))
                        (first | (go_at_call 10; ((with_reducible refine (pick_any _ 1125899906842624 _ (by assumption) (by omega) (by omega)).mono ?_); rintro e w4 ⟨rfl, rfl⟩)))
                      go_wp2_with fail
                      go_roundw
                      case rel => exact ⟨(j : Int), j + 1, rfl, by go_num, by omega, HB2, (by first | exact HBX.out | exact HBX.out.drew | exact HBX.out.drewN _)⟩
                      case measure => simp [intOf]; omega
                    · have hv2 : decide (pk zj 1125899906842624 < pk zk 1125899906842624) = false := by rw [← hvj, ← hvk]; simp; omega
                      have HB2 := Lib.hid (HB.out.more hv)
                      clear hc hoj HB hvj hvk hv
                      go_wp2_with fail
                      have keepc : ∀ {W : World}, But No wr W → W.cell? ⟨g, j, none⟩ = some (.bool true) ∧ W.cell? ⟨b, off + j, none⟩ = some (.int .i64 zj) ∧ W.cell? ⟨b, off + kb, none⟩ = some (.int .i64 zk) := fun hb => ⟨cell_keep hcj hb, cell_keep hcl hb, cell_keep hck2 hb⟩
                      go_region_held3 (fun w' => w'.cell? ⟨g, j, none⟩ = some (.bool true) ∧ w'.cell? ⟨b, off + j, none⟩ = some (.int .i64 zj) ∧ w'.cell? ⟨b, off + kb, none⟩ = some (.int .i64 zk))
                        (first | with_reducible exact ⟨hcj, hcl, hck2⟩ | with_reducible exact keepc (But.refl No wr).drew | with_reducible exact keepc ((But.refl No wr).drewN _))
                        (first | (go_at_call 10; ((with_reducible refine (pick_any _ 1125899906842624 _ (by assumption) (by omega) (by omega)).mono ?_); rintro e w4 ⟨rfl, rfl⟩)))
                      go_wp2_with fail
                      go_roundw
                      case rel => exact ⟨(kb : Int), j + 1, rfl, by go_num, by omega, HB2, (by first | exact HBX.out | exact HBX.out.drew | exact HBX.out.drewN _)⟩
                      case measure => simp [intOf]; omega
              · have ejm : m = j := by omega
                subst ejm
                have HFI : Hid (firE (addL L k (v k)) = bb) := HB.out.fir HR3.out.inn HR3.out.hw.qp.ok
                have CF := Lib.hid (first_any q 1 _ _ S3 wr (HR3.out.hw.no HBX.out).qp)
                rw [HFI.out] at CF
                have eb : (bb != bb) = false := by simp
                have HR4 := Lib.hid (HR3.out.no HBX.out)
                clear HB HBX HFI hlj
                go_wp2_with (go_at_call 24; ((with_reducible refine CF.out.mono ?_); rintro e w4 ⟨rfl, hb⟩; have HR5 := Lib.hid (HR4.out.no hb); clear hb))
                go_roundw
                case rel => exact ⟨i + 1, S3, on B k, addL L k (v k), by go_num, by omega, HR5⟩
                case measure => simp [intOf]; omega
      · have hlt2 : decide ((i : Int) < (N : Int) + (m : Int)) = false := by simp; omega
        have hLm := HR.out.inn.all hm0 HVR.out HR.out.hw.qp.ok (fun k hk => HR.out.all k hk (by omega))
        have CL := Lib.hid (all_any q 1 _ L S' _ HR.out.hw.qp)
        have HLm := Lib.hid hLm
        have em : ((m : Int) == (m : Int)) = true := by simp
        go_wp2_with (go_at_call 22; ((with_reducible refine CL.out.mono ?_); rintro e w12 ⟨b3, rfl, hbk, hb, hlt⟩; rw [HLm.out]; have HB12 := Lib.hid hb; clear hbk hb hlt))
        go_ret
        exact ⟨rfl, HR.out.hw.but.trans HB12.out⟩
  | true =>
    go_enter Try.func5, Try.ntmps5
    go_wp2_with fail
    refine (examples_any w).mono ?_
    rintro e w1 ⟨rfl, hb1⟩
    have HB1 := Lib.hid hb1
    clear hb1
    go_wp2_with fail
    refine (new_any 2 w1 (by omega)).mono ?_
    rintro e w2 ⟨q, S, rfl, h1, hb, hs⟩
    have H1 := Lib.hid (Hw.made h1 HB1.out hb hs)
    clear h1 hb hs HB1
    go_wp2_with (at_make; refine wpList_make_full _ rfl _ _ 44 rfl 0 4 i0 _ 1 Try.underlying44 I0.out.1 I0.out.2.1 I0.out.2.2.1 .i64 .i64 _ _ 24 rfl rfl (by omega) (by omega) (by rw [I0.out.2.2.2]; omega) (by unfold maxLen; omega) (Nat.zero_le _) ?_; intro w3 hown hgrow; have HS0 : Hid (Lr w w3 v m N w2.heap.size q 2 0 S (fun _ => false) []) := ⟨H1.out.no ((But.refl No w2).grown hgrow (fun k e => by cases e)), In.nil v m, vals_made1 rfl hown, fun e => by have := H1.out.qp.lt _ e; omega, H1.out.but.size, fun k hk hi => absurd hi (by omega)⟩; clear hown hgrow)
    generalize w2.heap.size = g at HS0 ⊢
    go_loopw [13] (fun i wr => ∃ (i' : Nat) (S' : Nat → Prop) (B : Nat → Bool) (L : List E), i = .int .i64 (i' : Int) ∧ i' ≤ N + m ∧ Hid (Lr w wr v m N g q 2 i' S' B L)) (fun i _ => N + m - (intOf i).toNat)
    case atStart => exact ⟨0, S, _, [], rfl, by omega, HS0⟩
    case round =>
      clear HS0 H1
      obtain ⟨i, S', B, L, rfl, hi, HR⟩ := hrel
      by_cases hlt : i < N + m
      · have hlt2 : (i : Int) < (N : Int) + (m : Int) := by omega
        by_cases hiN : i < N
        · have hiN2 : (i : Int) < (N : Int) := by omega
          by_cases m0 : m = 0
          · have hm3 : decide ((0 : Int) < (m : Int)) = false := by simp [m0]
            have hng : decide ((i : Int) - (N : Int) < 0) = true := by simp; omega
            have HR2 := Lib.hid (HR.out.go (fun j hj hji => by omega))
            go_wp2_with fail
            go_roundw
            case rel => exact ⟨i + 1, S', B, L, by go_num, by omega, HR2⟩
            case measure => simp [intOf]; omega
          · have hm3 : decide ((0 : Int) < (m : Int)) = true := by simp; omega
            obtain ⟨bo, offo, hAo, hlo, hco⟩ := (HO.out.no HR.out.hw.but).at_ (by omega)
            cases hAo
            have hcz0 := hco i (by omega)
            have PO := Lib.hid (fun W => pick_any (ts.getD i 0) (m : Int) W (HO.out.fit i) (by omega) (by omega))
            have hpl := pk_lt (ts.getD i 0) (m : Int) (by omega)
            generalize ts.getD i 0 = zo at hcz0 PO hpl
            obtain ⟨k, hpk⟩ : ∃ k : Nat, pk zo (m : Int) = (k : Int) := ⟨(pk zo (m : Int)).toNat, by omega⟩
            rw [hpk] at PO hpl
            have hk : k < m := by omega
            have k0 : decide ((k : Int) < 0) = false := by simp
            have k1 : decide ((m : Int) ≤ (k : Int)) = false := by simp; omega
            have k2 : (k : Int) < 24 := by omega
            have k3 : (k : Int) < (n : Int) := by omega
            clear hpk hpl hco hlo
            cases hbk : B k with
            | true =>
              have hcg := HR.out.vals.cell (k := k) (by omega)
              rw [hbk] at hcg
              have HR2 := Lib.hid (HR.out.go (fun j hj hji => by first | (exfalso; omega) | (have ejk2 : j = k := (by omega); subst ejk2; exact hbk)))
              clear hbk
              go_wp2_with ((go_at_call 10; ((with_reducible refine (PO.out _).mono ?_); rintro e w3 ⟨rfl, rfl⟩)))
              go_roundw
              case rel => exact ⟨i + 1, S', B, L, by go_num, by omega, HR2⟩
              case measure => simp [intOf]; omega
            | false =>
              have hcg := HR.out.vals.cell (k := k) (by omega)
              have hfg := HR.out.vals.frozen k
              rw [hbk] at hcg
              have hlg := HR.out.vals.lt
              have HW2 := Lib.hid (HR.out.hw.set (g := g) (k := k) HR.out.new HR.out.ns (.bool true))
              obtain ⟨e0, _, _⟩ := HR.out.inn.add hm0 hk (by exact hbk) (HVR.out k)
              have hlen := HR.out.hw.qp.ok.len
              obtain ⟨b, off, hA, hlb, hc⟩ := (HD.out.no HW2.out.but).at_ (by omega)
              cases hA
              have hcz := hc k (by omega)
              have P0 := Lib.hid (fun W => pick_any (zs.getD k 0) 1125899906842624 W (HD.out.fit k) (by omega) (by omega))
              rw [← HV.out k] at P0
              have CA := Lib.hid (add_any q 2 L.length L S' _ k (v k) HW2.out.qp (by omega))
              rw [e0] at CA
              have HLK := Lib.hid hbk
              clear hbk hc e0 hlb
              generalize zs.getD k 0 = z at hcz P0
              go_wp2_with (first | (go_at_call 10; ((with_reducible refine (PO.out _).mono ?_); rintro e w3 ⟨rfl, rfl⟩)) | (go_at_call 10; ((with_reducible refine (P0.out _).mono ?_); rintro e w3 ⟨rfl, rfl⟩)) | (go_at_call 11; ((with_reducible refine CA.out.mono ?_); rintro e w3 ⟨rfl, hm⟩; obtain ⟨S3, hl3⟩ := HR.out.add hm0 hk HLK.out (HVR.out k) (fun j hj hji => by omega) hm; clear hm)))
              have HR3 := Lib.hid hl3
              clear hl3
              go_loopw [15, 16] (fun u i wx => ∃ (b : Int) (j : Nat), u = .int .i64 b ∧ i = .int .i64 (j : Int) ∧ j ≤ m ∧ Hid (Best v (on B k) j b) ∧ Hid (But No w3 wx)) (fun _ i _ => m - (intOf i).toNat)
              case atStart => exact ⟨-1, 0, rfl, rfl, by omega, Best.zero _ _, But.refl _ _⟩
              case round =>
                obtain ⟨bb, j, rfl, rfl, hj, HB, HBX⟩ := hrel
                by_cases hlj : j < m
                · have hcj : wr.cell? ⟨g, j, none⟩ = some (.bool (on B k j)) := (Vals.but HR3.out.vals HBX.out (fun f => f)).cell (by omega)
                  have jn : (j : Int) < (m : Int) := by omega
                  have jn2 : (j : Int) < (n : Int) := by omega
                  have j24 : (j : Int) < 24 := by omega
                  have j24' : j < 24 := by omega
                  obtain ⟨b, off, hA, hlb, hc⟩ := (HD.out.no (HR3.out.hw.but.trans HBX.out)).at_ (by omega)
                  cases hA
                  cases hoj : on B k j with
                  | false =>
                    rw [hoj] at hcj
                    have HB2 := Lib.hid (HB.out.skip hoj)
                    clear hc hoj HB
                    go_wp2_with fail
                    go_quiet (fail)
                    go_wp2_with fail
                    go_roundw
                    case rel => exact ⟨bb, j + 1, rfl, by go_num, by omega, HB2, HBX.out.drewN _⟩
                    case measure => simp [intOf]; omega
                  | true =>
                    rw [hoj] at hcj
                    rcases HB.out.cases with rfl | ⟨kb, rfl, hkb⟩
                    · have HB2 := Lib.hid (HB.out.first hoj)
                      clear hc hoj HB
                      go_wp2_with fail
                      go_quiet (fail)
                      go_wp2_with fail
                      go_roundw
                      case rel => exact ⟨(j : Int), j + 1, rfl, by go_num, by omega, HB2, HBX.out.drewN _⟩
                      case measure => simp [intOf]; omega
                    · have hcl := hc j (by omega)
                      have hck2 := hc kb (by omega)
                      have kb1 : (kb : Int) < (n : Int) := by omega
                      have kb0 : decide ((kb : Int) < 0) = false := by simp
                      have fj := HD.out.fit j
                      have fk := HD.out.fit kb
                      have hvj := HV.out j
                      have hvk := HV.out kb
                      generalize zs.getD j 0 = zj at hcl fj hvj
                      generalize zs.getD kb 0 = zk at hck2 fk hvk
                      by_cases hv : v j < v kb
                      · have hv2 : decide (pk zj 1125899906842624 < pk zk 1125899906842624) = true := by rw [← hvj, ← hvk]; simp [hv]
                        have HB2 := Lib.hid (HB.out.less hoj hv)
                        clear hc hoj HB hvj hvk hv
                        go_wp2_with fail
                        have keepc : ∀ {W : World}, But No wr W → W.cell? ⟨g, j, none⟩ = some (.bool true) ∧ W.cell? ⟨b, off + j, none⟩ = some (.int .i64 zj) ∧ W.cell? ⟨b, off + kb, none⟩ = some (.int .i64 zk) := fun hb => ⟨cell_keep hcj hb, cell_keep hcl hb, cell_keep hck2 hb⟩
                        go_region_held3 (fun w' => w'.cell? ⟨g, j, none⟩ = some (.bool true) ∧ w'.cell? ⟨b, off + j, none⟩ = some (.int .i64 zj) ∧ w'.cell? ⟨b, off + kb, none⟩ = some (.int .i64 zk))
                          (first | with_reducible exact ⟨hcj, hcl, hck2⟩ | with_reducible exact keepc (But.refl No wr).drew | with_reducible exact keepc ((But.refl No wr).drewN _))
                          (first | (go_at_call 10; ((with_reducible refine (pick_any _ 1125899906842624 _ (by assumption) (by omega) (by omega)).mono ?_); rintro e w4 ⟨rfl, rfl⟩)))
                        go_wp2_with fail
                        go_roundw
                        case rel => exact ⟨(j : Int), j + 1, rfl, by go_num, by omega, HB2, (by first | exact HBX.out | exact HBX.out.drew | exact HBX.out.drewN _)⟩
                        case measure => simp [intOf]; omega
                      · have hv2 : decide (pk zj 1125899906842624 < pk zk 1125899906842624) = false := by rw [← hvj, ← hvk]; simp; omega
                        have HB2 := Lib.hid (HB.out.more hv)
                        clear hc hoj HB hvj hvk hv
                        go_wp2_with fail
                        have keepc : ∀ {W : World}, But No wr W → W.cell? ⟨g, j, none⟩ = some (.bool true) ∧ W.cell? ⟨b, off + j, none⟩ = some (.int .i64 zj) ∧ W.cell? ⟨b, off + kb, none⟩ = some (.int .i64 zk) := fun hb => ⟨cell_keep hcj hb, cell_keep hcl hb, cell_keep hck2 hb⟩
                        go_region_held3 (fun w' => w'.cell? ⟨g, j, none⟩ = some (.bool true) ∧ w'.cell? ⟨b, off + j, none⟩ = some (.int .i64 zj) ∧ w'.cell? ⟨b, off + kb, none⟩ = some (.int .i64 zk))
                          (first | with_reducible exact ⟨hcj, hcl, hck2⟩ | with_reducible exact keepc (But.refl No wr).drew | with_reducible exact keepc ((But.refl No wr).drewN _))
                          (first | (go_at_call 10; ((with_reducible refine (pick_any _ 1125899906842624 _ (by assumption) (by omega) (by omega)).mono ?_); rintro e w4 ⟨rfl, rfl⟩)))
                        go_wp2_with fail
                        go_roundw
                        case rel => exact ⟨(kb : Int), j + 1, rfl, by go_num, by omega, HB2, (by first | exact HBX.out | exact HBX.out.drew | exact HBX.out.drewN _)⟩
                        case measure => simp [intOf]; omega
                · have ejm : m = j := by omega
                  subst ejm
                  have HFI : Hid (firE (addL L k (v k)) = bb) := HB.out.fir HR3.out.inn HR3.out.hw.qp.ok
                  have CF := Lib.hid (first_any q 2 _ _ S3 wr (HR3.out.hw.no HBX.out).qp)
                  rw [HFI.out] at CF
                  have eb : (bb != bb) = false := by simp
                  have HR4 := Lib.hid (HR3.out.no HBX.out)
                  clear HB HBX HFI hlj
                  go_wp2_with (go_at_call 24; ((with_reducible refine CF.out.mono ?_); rintro e w4 ⟨rfl, hb⟩; have HR5 := Lib.hid (HR4.out.no hb); clear hb))
                  go_roundw
                  case rel => exact ⟨i + 1, S3, on B k, addL L k (v k), by go_num, by omega, HR5⟩
                  case measure => simp [intOf]; omega
        · have hiN2 : decide ((i : Int) < (N : Int)) = false := by simp; omega
          obtain ⟨k, hik⟩ : ∃ k : Nat, (i : Int) - (N : Int) = (k : Int) := ⟨i - N, by omega⟩
          have hk : k < m := by omega
          have k0 : decide ((k : Int) < 0) = false := by simp
          have k1 : decide ((m : Int) ≤ (k : Int)) = false := by simp; omega
          have k2 : (k : Int) < 24 := by omega
          have k3 : (k : Int) < (n : Int) := by omega
          cases hbk : B k with
          | true =>
            have hcg := HR.out.vals.cell (k := k) (by omega)
            rw [hbk] at hcg
            have HR2 := Lib.hid (HR.out.go (fun j hj hji => by first | (exfalso; omega) | (have ejk2 : j = k := (by omega); subst ejk2; exact hbk)))
            clear hbk
            go_wp2_with (fail)
            go_roundw
            case rel => exact ⟨i + 1, S', B, L, by go_num, by omega, HR2⟩
            case measure => simp [intOf]; omega
          | false =>
            have hcg := HR.out.vals.cell (k := k) (by omega)
            have hfg := HR.out.vals.frozen k
            rw [hbk] at hcg
            have hlg := HR.out.vals.lt
            have HW2 := Lib.hid (HR.out.hw.set (g := g) (k := k) HR.out.new HR.out.ns (.bool true))
            obtain ⟨e0, _, _⟩ := HR.out.inn.add hm0 hk (by exact hbk) (HVR.out k)
            have hlen := HR.out.hw.qp.ok.len
            obtain ⟨b, off, hA, hlb, hc⟩ := (HD.out.no HW2.out.but).at_ (by omega)
            cases hA
            have hcz := hc k (by omega)
            have P0 := Lib.hid (fun W => pick_any (zs.getD k 0) 1125899906842624 W (HD.out.fit k) (by omega) (by omega))
            rw [← HV.out k] at P0
            have CA := Lib.hid (add_any q 2 L.length L S' _ k (v k) HW2.out.qp (by omega))
            rw [e0] at CA
            have HLK := Lib.hid hbk
            clear hbk hc e0 hlb
            generalize zs.getD k 0 = z at hcz P0
            go_wp2_with (first | (go_at_call 10; ((with_reducible refine (P0.out _).mono ?_); rintro e w3 ⟨rfl, rfl⟩)) | (go_at_call 11; ((with_reducible refine CA.out.mono ?_); rintro e w3 ⟨rfl, hm⟩; obtain ⟨S3, hl3⟩ := HR.out.add hm0 hk HLK.out (HVR.out k) (fun j hj hji => by omega) hm; clear hm)))
            have HR3 := Lib.hid hl3
            clear hl3
            go_loopw [15, 16] (fun u i wx => ∃ (b : Int) (j : Nat), u = .int .i64 b ∧ i = .int .i64 (j : Int) ∧ j ≤ m ∧ Hid (Best v (on B k) j b) ∧ Hid (But No w3 wx)) (fun _ i _ => m - (intOf i).toNat)
            case atStart => exact ⟨-1, 0, rfl, rfl, by omega, Best.zero _ _, But.refl _ _⟩
            case round =>
              obtain ⟨bb, j, rfl, rfl, hj, HB, HBX⟩ := hrel
              by_cases hlj : j < m
              · have hcj : wr.cell? ⟨g, j, none⟩ = some (.bool (on B k j)) := (Vals.but HR3.out.vals HBX.out (fun f => f)).cell (by omega)
                have jn : (j : Int) < (m : Int) := by omega
                have jn2 : (j : Int) < (n : Int) := by omega
                have j24 : (j : Int) < 24 := by omega
                have j24' : j < 24 := by omega
                obtain ⟨b, off, hA, hlb, hc⟩ := (HD.out.no (HR3.out.hw.but.trans HBX.out)).at_ (by omega)
                cases hA
                cases hoj : on B k j with
                | false =>
                  rw [hoj] at hcj
                  have HB2 := Lib.hid (HB.out.skip hoj)
                  clear hc hoj HB
                  go_wp2_with fail
                  go_quiet (fail)
                  go_wp2_with fail
                  go_roundw
                  case rel => exact ⟨bb, j + 1, rfl, by go_num, by omega, HB2, HBX.out.drewN _⟩
                  case measure => simp [intOf]; omega
                | true =>
                  rw [hoj] at hcj
                  rcases HB.out.cases with rfl | ⟨kb, rfl, hkb⟩
                  · have HB2 := Lib.hid (HB.out.first hoj)
                    clear hc hoj HB
                    go_wp2_with fail
                    go_quiet (fail)
                    go_wp2_with fail
                    go_roundw
                    case rel => exact ⟨(j : Int), j + 1, rfl, by go_num, by omega, HB2, HBX.out.drewN _⟩
                    case measure => simp [intOf]; omega
                  · have hcl := hc j (by omega)
                    have hck2 := hc kb (by omega)
                    have kb1 : (kb : Int) < (n : Int) := by omega
                    have kb0 : decide ((kb : Int) < 0) = false := by simp
                    have fj := HD.out.fit j
                    have fk := HD.out.fit kb
                    have hvj := HV.out j
                    have hvk := HV.out kb
                    generalize zs.getD j 0 = zj at hcl fj hvj
                    generalize zs.getD kb 0 = zk at hck2 fk hvk
                    by_cases hv : v j < v kb
                    · have hv2 : decide (pk zj 1125899906842624 < pk zk 1125899906842624) = true := by rw [← hvj, ← hvk]; simp [hv]
                      have HB2 := Lib.hid (HB.out.less hoj hv)
                      clear hc hoj HB hvj hvk hv
                      go_wp2_with fail
                      have keepc : ∀ {W : World}, But No wr W → W.cell? ⟨g, j, none⟩ = some (.bool true) ∧ W.cell? ⟨b, off + j, none⟩ = some (.int .i64 zj) ∧ W.cell? ⟨b, off + kb, none⟩ = some (.int .i64 zk) := fun hb => ⟨cell_keep hcj hb, cell_keep hcl hb, cell_keep hck2 hb⟩
                      go_region_held3 (fun w' => w'.cell? ⟨g, j, none⟩ = some (.bool true) ∧ w'.cell? ⟨b, off + j, none⟩ = some (.int .i64 zj) ∧ w'.cell? ⟨b, off + kb, none⟩ = some (.int .i64 zk))
                        (first | with_reducible exact ⟨hcj, hcl, hck2⟩ | with_reducible exact keepc (But.refl No wr).drew | with_reducible exact keepc ((But.refl No wr).drewN _))
                        (first | (go_at_call 10; ((with_reducible refine (pick_any _ 1125899906842624 _ (by assumption) (by omega) (by omega)).mono ?_); rintro e w4 ⟨rfl, rfl⟩)))
                      go_wp2_with fail
                      go_roundw
                      case rel => exact ⟨(j : Int), j + 1, rfl, by go_num, by omega, HB2, (by first | exact HBX.out | exact HBX.out.drew | exact HBX.out.drewN _)⟩
                      case measure => simp [intOf]; omega
                    · have hv2 : decide (pk zj 1125899906842624 < pk zk 1125899906842624) = false := by rw [← hvj, ← hvk]; simp; omega
                      have HB2 := Lib.hid (HB.out.more hv)
                      clear hc hoj HB hvj hvk hv
                      go_wp2_with fail
                      have keepc : ∀ {W : World}, But No wr W → W.cell? ⟨g, j, none⟩ = some (.bool true) ∧ W.cell? ⟨b, off + j, none⟩ = some (.int .i64 zj) ∧ W.cell? ⟨b, off + kb, none⟩ = some (.int .i64 zk) := fun hb => ⟨cell_keep hcj hb, cell_keep hcl hb, cell_keep hck2 hb⟩
                      go_region_held3 (fun w' => w'.cell? ⟨g, j, none⟩ = some (.bool true) ∧ w'.cell? ⟨b, off + j, none⟩ = some (.int .i64 zj) ∧ w'.cell? ⟨b, off + kb, none⟩ = some (.int .i64 zk))
                        (first | with_reducible exact ⟨hcj, hcl, hck2⟩ | with_reducible exact keepc (But.refl No wr).drew | with_reducible exact keepc ((But.refl No wr).drewN _))
                        (first | (go_at_call 10; ((with_reducible refine (pick_any _ 1125899906842624 _ (by assumption) (by omega) (by omega)).mono ?_); rintro e w4 ⟨rfl, rfl⟩)))
                      go_wp2_with fail
                      go_roundw
                      case rel => exact ⟨(kb : Int), j + 1, rfl, by go_num, by omega, HB2, (by first | exact HBX.out | exact HBX.out.drew | exact HBX.out.drewN _)⟩
                      case measure => simp [intOf]; omega
              · have ejm : m = j := by omega
                subst ejm
                have HFI : Hid (firE (addL L k (v k)) = bb) := HB.out.fir HR3.out.inn HR3.out.hw.qp.ok
                have CF := Lib.hid (first_any q 2 _ _ S3 wr (HR3.out.hw.no HBX.out).qp)
                rw [HFI.out] at CF
                have eb : (bb != bb) = false := by simp
                have HR4 := Lib.hid (HR3.out.no HBX.out)
                clear HB HBX HFI hlj
                go_wp2_with (go_at_call 24; ((with_reducible refine CF.out.mono ?_); rintro e w4 ⟨rfl, hb⟩; have HR5 := Lib.hid (HR4.out.no hb); clear hb))
                go_roundw
                case rel => exact ⟨i + 1, S3, on B k, addL L k (v k), by go_num, by omega, HR5⟩
                case measure => simp [intOf]; omega
      · have hlt2 : decide ((i : Int) < (N : Int) + (m : Int)) = false := by simp; omega
        have hLm := HR.out.inn.all hm0 HVR.out HR.out.hw.qp.ok (fun k hk => HR.out.all k hk (by omega))
        have CL := Lib.hid (all_any q 2 _ L S' _ HR.out.hw.qp)
        have HLm := Lib.hid hLm
        have em : ((m : Int) == (m : Int)) = true := by simp
        go_wp2_with (go_at_call 22; ((with_reducible refine CL.out.mono ?_); rintro e w12 ⟨b3, rfl, hbk, hb, hlt⟩; rw [HLm.out]; have HB12 := Lib.hid hb; clear hbk hb hlt))
        go_ret
        exact ⟨rfl, HR.out.hw.but.trans HB12.out⟩
end Go.Proofs.Ytbfmoaojimimjaa.readyLeast
