/- The contract of the document's Ask (chapter 15). -/
import Derived.Test.YtfpcnilcbaiojaaDeR1
import Derived.Deep.DeepCutAuto
namespace Go.Proofs.Ytfpcnilcbaiojaa.dem
open Go.ChangeShapes Go.WideShapes Go.ChangeAt Go.RowKit Go.Deep
theorem ask_bad {l : List Wk} {bl rl t : Int} (h : ¬ (right l bl rl = true ∧ 1 ≤ t)) : askE l bl rl t = 1 ∧ askV l bl rl t = 0 := by
  rcases ask_cases l bl rl t with ⟨e, v, _⟩ | ⟨h1, h2, _⟩ | ⟨h1, h2, _⟩
  · exact ⟨e, v⟩
  · exact absurd ⟨h1, h2⟩ h
  · exact absurd ⟨h1, h2⟩ h
set_option maxRecDepth 100000 in
set_option maxHeartbeats 8000000 in
theorem rask_any (A : Option Addr) (n c : Nat) (l : List Wk) (bl rl t : Int) (w : World) (h : RWk w A n l) (ht : t ≤ 9223372036854775807) : Calls Try.prog 12 #[.slice A n c, .int .i64 bl, .int .i64 rl, .int .i64 t] w fun e w' => e = .returned (.tuple #[.int .i64 (askV l bl rl t), .int .i64 (askE l bl rl t)]) ∧ But No w w' := by
  have HN := Lib.hid h.len
  have HL := Lib.hid h
  have CR : Hid (∀ W, But No w W → Calls Try.prog 22 #[.slice A n c, .int .i64 bl, .int .i64 rl] W fun e w' => e = .returned (.bool (right l bl rl)) ∧ But No W w') := fun W hb => rright_any A n c l bl rl W (h.no hb)
  clear h
  cases hrt : right l bl rl with
  | false =>
    obtain ⟨he, hv⟩ := ask_bad (l := l) (bl := bl) (rl := rl) (t := t) (by rw [hrt]; simp)
    have HE := Lib.hid (And.intro he hv)
    rw [hrt] at CR
    clear hrt he hv
    go_enter Try.func12, Try.ntmps12
    go_wp2_with (go_at_call 22; (with_reducible refine (CR.out _ (But.refl No w)).mono ?_); rintro e w1 ⟨rfl, hb1⟩; have HB1 := Lib.hid hb1; clear hb1)
    go_ret2
    exact ⟨retp HE.out.2.symm HE.out.1.symm, HB1.out⟩
  | true =>
    by_cases ht0 : t < 1
    · obtain ⟨he, hv⟩ := ask_bad (l := l) (bl := bl) (rl := rl) (t := t) (by omega)
      have HE := Lib.hid (And.intro he hv)
      have b1 : decide (t < 1) = true := by simp [ht0]
      rw [hrt] at CR
      clear hrt he hv
      go_enter Try.func12, Try.ntmps12
      go_wp2_with (go_at_call 22; (with_reducible refine (CR.out _ (But.refl No w)).mono ?_); rintro e w1 ⟨rfl, hb1⟩; have HB1 := Lib.hid hb1; clear hb1)
      go_ret2
      exact ⟨retp HE.out.2.symm HE.out.1.symm, HB1.out⟩
    · have b1 : decide (t < 1) = false := by simp; omega
      have ht1 : 1 ≤ t := by omega
      have HRT := Lib.hid hrt
      obtain ⟨hn72, ⟨hb0, hb1⟩, ⟨hr0, hr1⟩, hok⟩ := right_iff.1 hrt
      have hn72' : n ≤ 72 := by have := HN.out; omega
      have HOK := Lib.hid hok
      have HTA := Lib.hid (trm_all hrt ht1)
      rw [hrt] at CR
      clear hrt hok hn72 ht0
      go_enter Try.func12, Try.ntmps12
      go_upto_region 6 with (go_at_call 22; (with_reducible refine (CR.out _ (But.refl No w)).mono ?_); rintro e w1 ⟨rfl, hb1⟩; have HB1 := Lib.hid hb1; clear hb1)
      have HLW := Lib.hid (HL.out.no HB1.out)
      clear HL CR
      go_wp2_with fail
      go_loopw [11, 12, 13] (fun s e i wr => ∃ (sv ev : Int) (q : Nat), s = .int .i64 sv ∧ e = .int .i64 ev ∧ i = .int .i64 (q : Int) ∧ q ≤ n ∧ Hid ((ev = 0 ∧ ov bl (trm rl t) t l q = false ∧ sv = sN bl (trm rl t) l q) ∨ (ev = 2 ∧ ov bl (trm rl t) t l q = true)) ∧ Hid (But No w1 wr)) (fun _ _ i _ => n - (intOf i).toNat)
      case atStart => exact ⟨bl, 0, 0, rfl, rfl, rfl, by omega, .inl ⟨rfl, ov_zero (by omega), rfl⟩, But.refl No w1⟩
      case round =>
        obtain ⟨S, ev, i, rfl, rfl, rfl, hi, HST, HBR⟩ := hrel
        rcases HST.out with ⟨hev, hov, hS⟩ | ⟨hev, hov⟩
        · subst hev
          clear HST
          by_cases hin : i < n
          · have hin2 : (i : Int) < (n : Int) := by omega
            have hi0 : (0 : Int) ≤ (i : Int) := Int.natCast_nonneg i
            obtain ⟨x, hx⟩ : ∃ x, l[i]? = some x := ⟨_, List.getElem?_eq_getElem (by rw [HN.out]; exact hin)⟩
            obtain ⟨b, off, rfl, _, e0, e1, e2, e3⟩ := (HLW.out.no HBR.out).at1 hx
            have hxok := HOK.out x (List.mem_of_getElem? hx)
            obtain ⟨⟨hw0, hw1⟩, ⟨hp0, hp1⟩, hd0, hd1⟩ := okW_iff.1 hxok
            have hub := up_bd ht1 hp0
            have hf := fst_bd ht1 hxok
            have hg := snd_bd (rl := rl) ht1 hr0 hxok
            have hS0 : 0 ≤ S := by rw [hS]; exact sN_pos hb0 HTA.out (by rw [HN.out]; omega)
            have hS1 : S ≤ 9223372036854775807 := by rw [hS]; exact (ov_not hov).1
            have SN := Lib.hid (show sN bl (trm rl t) l (i + 1) = S + fst t x + (up t x.p + 2) * rl by rw [sN_succ hx, ← hS]; unfold trm; omega)
            have OVS : Hid (9223372036854775807 < S + fst t x + (up t x.p + 2) * rl → ov bl (trm rl t) t l (i + 1) = true) := Lib.hid (fun h => ov_iff.2 (.inl (by rw [SN.out]; exact h)))
            have OVF : Hid (9223372036854775807 < up t x.p + 2 → ov bl (trm rl t) t l (i + 1) = true) := Lib.hid (fun h => ov_iff.2 (.inr ⟨i, x, by omega, hx, h⟩))
            have OVN : Hid (S + fst t x + (up t x.p + 2) * rl ≤ 9223372036854775807 → up t x.p + 2 ≤ 9223372036854775807 → ov bl (trm rl t) t l (i + 1) = false) := Lib.hid (fun h h' => by
              cases e : ov bl (trm rl t) t l (i + 1) with
              | false => rfl
              | true =>
                rcases ov_iff.1 e with e | ⟨j, y, hj, hy, e⟩
                · rw [SN.out] at e; omega
                · by_cases ej : j = i
                  · subst ej; rw [hx] at hy; cases hy; omega
                  · have := (ov_not hov).2 j y (by omega) hy; omega)
            have CU : Hid (∀ W, Calls Try.prog 24 #[.int .i64 t, .int .i64 x.p] W fun e w' => e = .returned (.int .i64 (up t x.p)) ∧ w' = W) := Lib.hid (fun W => rup_any t x.p ht1 hp0 (by omega) (by omega) W)
            have HDU := Lib.hid (fun h => div_up (t := t) (e := x.d) hd0 h hp0)
            have HS := Lib.hid hS
            clear hov hx hxok hS
            obtain ⟨x0, x1, x2, x3⟩ := x
            dsimp only at e0 e1 e2 e3 hw0 hw1 hp0 hp1 hd0 hd1 hub hg CU HDU SN OVS OVF OVN
            have HU : Hid (up t x1 = up t x1) := Lib.hid rfl
            obtain ⟨f1, hf1⟩ : ∃ f1, fst t ⟨x0, x1, x2, x3⟩ = f1 := ⟨_, rfl⟩
            have HF1 := Lib.hid hf1
            obtain ⟨u, hu⟩ : ∃ u, up t x1 = u := ⟨_, rfl⟩
            have HU := Lib.hid hu
            obtain ⟨g2, hg2⟩ : ∃ g2, (u + 2) * rl = g2 := ⟨_, rfl⟩
            rw [hu] at hub hg CU SN OVS OVF OVN HDU
            rw [hf1] at hf SN OVS OVN
            rw [hg2] at hg SN OVS OVN
            have HG2 := Lib.hid hg2
            clear hf1 hu hg2
            cases x3 with
            | true =>
              have HF : Hid (f1 = (u + 1) * x0) := Lib.hid (by have h9 := HF1.out; rw [← h9]; unfold fst; simp [HU.out])
              by_cases k0 : 9223372036854775807 < u + 1
              · have CA : Hid (∀ W, Calls Try.prog 23 #[.int .i64 u, .int .i64 1] W fun e w' => e = .returned (.tuple #[.int .i64 0, .int .i64 2]) ∧ w' = W) := Lib.hid (fun W => radd_bad u 1 (by omega) (by omega) (by omega) (by omega) (by omega) W)
                have HO : Hid (ov bl (trm rl t) t l (i + 1) = true) := Lib.hid (OVF.out (by omega))
                clear k0
                go_wp2_with (first | (go_at_call 24; ((with_reducible refine (CU.out _).mono ?_); rintro e wC ⟨rfl, rfl⟩)) | (go_at_call 23; ((with_reducible refine (CA.out _).mono ?_); rintro e wC ⟨rfl, rfl⟩)))
                go_roundw
                case rel => exact ⟨S, 2, i + 1, rfl, rfl, by go_num, by omega, .inr ⟨rfl, HO.out⟩, HBR.out.alloc _⟩
                case measure => simp [intOf]; omega
              · have CA : Hid (∀ W, Calls Try.prog 23 #[.int .i64 u, .int .i64 1] W fun e w' => e = .returned (.tuple #[.int .i64 (u + 1), .int .i64 0]) ∧ w' = W) := Lib.hid (fun W => radd_good u 1 (by omega) (by omega) (by omega) W)
                by_cases k1 : 9223372036854775807 < S + f1
                · have CT : Hid (∀ W, Calls Try.prog 25 #[.int .i64 S, .int .i64 (u + 1), .int .i64 x0] W fun e w' => e = .returned (.tuple #[.int .i64 0, .int .i64 2]) ∧ w' = W) := Lib.hid (fun W => rtimes_bad S (u + 1) x0 (by omega) (by omega) (by omega) (by omega) (by omega) (by omega) (by rw [← HF.out]; omega) W)
                  have HO : Hid (ov bl (trm rl t) t l (i + 1) = true) := Lib.hid (OVS.out (by omega))
                  clear k0 k1
                  go_wp2_with (first | (go_at_call 24; ((with_reducible refine (CU.out _).mono ?_); rintro e wC ⟨rfl, rfl⟩)) | (go_at_call 23; ((with_reducible refine (CA.out _).mono ?_); rintro e wC ⟨rfl, rfl⟩)) | (go_at_call 25; ((with_reducible refine (CT.out _).mono ?_); rintro e wC ⟨rfl, rfl⟩)))
                  go_roundw
                  case rel => exact ⟨0, 2, i + 1, rfl, rfl, by go_num, by omega, .inr ⟨rfl, HO.out⟩, HBR.out.alloc _⟩
                  case measure => simp [intOf]; omega
                · have CT : Hid (∀ W, Calls Try.prog 25 #[.int .i64 S, .int .i64 (u + 1), .int .i64 x0] W fun e w' => e = .returned (.tuple #[.int .i64 (S + f1), .int .i64 0]) ∧ w' = W) := Lib.hid (fun W => by have := rtimes_good S (u + 1) x0 (by omega) (by omega) (by omega) (by omega) (by omega) (by rw [← HF.out]; omega) W; rw [← HF.out] at this; exact this)
                  obtain ⟨P1, hP1⟩ : ∃ P1, S + f1 = P1 := ⟨_, rfl⟩
                  have SS : Hid (P1 + g2 = sN bl (trm rl t) l (i + 1)) := Lib.hid (by have := SN.out; omega)
                  rw [hP1] at k1 CT
                  have hP0 : 0 ≤ P1 := by omega
                  have OVS : Hid (9223372036854775807 < P1 + g2 → ov bl (trm rl t) t l (i + 1) = true) := Lib.hid (fun h => OVS.out (by omega))
                  have OVN : Hid (P1 + g2 ≤ 9223372036854775807 → u + 2 ≤ 9223372036854775807 → ov bl (trm rl t) t l (i + 1) = false) := Lib.hid (fun h h' => OVN.out (by omega) h')
                  clear k0 hP1 SN HF HF1 hf
                  by_cases k2 : 9223372036854775807 < u + 2
                  · have CB : Hid (∀ W, Calls Try.prog 23 #[.int .i64 u, .int .i64 2] W fun e w' => e = .returned (.tuple #[.int .i64 0, .int .i64 2]) ∧ w' = W) := Lib.hid (fun W => radd_bad u 2 (by omega) (by omega) (by omega) (by omega) (by omega) W)
                    have HO : Hid (ov bl (trm rl t) t l (i + 1) = true) := Lib.hid (OVF.out k2)
                    clear k2
                    go_wp2_with (first | (go_at_call 23; ((with_reducible refine (CA.out _).mono ?_); rintro e wC ⟨rfl, rfl⟩)) | (go_at_call 25; ((with_reducible refine (CT.out _).mono ?_); rintro e wC ⟨rfl, rfl⟩)) | (go_at_call 24; ((with_reducible refine (CU.out _).mono ?_); rintro e wC ⟨rfl, rfl⟩)) | (go_at_call 23; ((with_reducible refine (CB.out _).mono ?_); rintro e wC ⟨rfl, rfl⟩)))
                    go_roundw
                    case rel => exact ⟨P1, 2, i + 1, rfl, rfl, by go_num, by omega, .inr ⟨rfl, HO.out⟩, HBR.out.alloc _⟩
                    case measure => simp [intOf]; omega
                  · have CB : Hid (∀ W, Calls Try.prog 23 #[.int .i64 u, .int .i64 2] W fun e w' => e = .returned (.tuple #[.int .i64 (u + 2), .int .i64 0]) ∧ w' = W) := Lib.hid (fun W => radd_good u 2 (by omega) (by omega) (by omega) W)
                    by_cases k3 : 9223372036854775807 < P1 + g2
                    · have CS : Hid (∀ W, Calls Try.prog 25 #[.int .i64 P1, .int .i64 (u + 2), .int .i64 rl] W fun e w' => e = .returned (.tuple #[.int .i64 0, .int .i64 2]) ∧ w' = W) := Lib.hid (fun W => rtimes_bad P1 (u + 2) rl (by omega) (by omega) (by omega) (by omega) (by omega) (by omega) (by rw [HG2.out]; omega) W)
                      have HO : Hid (ov bl (trm rl t) t l (i + 1) = true) := Lib.hid (OVS.out (by omega))
                      clear k2 k3
                      go_wp2_with (first | (go_at_call 23; ((with_reducible refine (CA.out _).mono ?_); rintro e wC ⟨rfl, rfl⟩)) | (go_at_call 25; ((with_reducible refine (CT.out _).mono ?_); rintro e wC ⟨rfl, rfl⟩)) | (go_at_call 24; ((with_reducible refine (CU.out _).mono ?_); rintro e wC ⟨rfl, rfl⟩)) | (go_at_call 23; ((with_reducible refine (CB.out _).mono ?_); rintro e wC ⟨rfl, rfl⟩)) | (go_at_call 25; ((with_reducible refine (CS.out _).mono ?_); rintro e wC ⟨rfl, rfl⟩)))
                      go_roundw
                      case rel => exact ⟨0, 2, i + 1, rfl, rfl, by go_num, by omega, .inr ⟨rfl, HO.out⟩, HBR.out.alloc _⟩
                      case measure => simp [intOf]; omega
                    · have CS : Hid (∀ W, Calls Try.prog 25 #[.int .i64 P1, .int .i64 (u + 2), .int .i64 rl] W fun e w' => e = .returned (.tuple #[.int .i64 (P1 + g2), .int .i64 0]) ∧ w' = W) := Lib.hid (fun W => by have := rtimes_good P1 (u + 2) rl (by omega) (by omega) (by omega) (by omega) (by omega) (by rw [HG2.out]; omega) W; rw [HG2.out] at this; exact this)
                      have HO : Hid (ov bl (trm rl t) t l (i + 1) = false ∧ P1 + g2 = sN bl (trm rl t) l (i + 1)) := Lib.hid ⟨OVN.out (by omega) (by omega), by have := SS.out; omega⟩
                      clear k2 k3
                      go_wp2_with (first | (go_at_call 23; ((with_reducible refine (CA.out _).mono ?_); rintro e wC ⟨rfl, rfl⟩)) | (go_at_call 25; ((with_reducible refine (CT.out _).mono ?_); rintro e wC ⟨rfl, rfl⟩)) | (go_at_call 24; ((with_reducible refine (CU.out _).mono ?_); rintro e wC ⟨rfl, rfl⟩)) | (go_at_call 23; ((with_reducible refine (CB.out _).mono ?_); rintro e wC ⟨rfl, rfl⟩)) | (go_at_call 25; ((with_reducible refine (CS.out _).mono ?_); rintro e wC ⟨rfl, rfl⟩)))
                      go_roundw
                      case rel => exact ⟨P1 + g2, 0, i + 1, rfl, rfl, by go_num, by omega, .inl ⟨rfl, HO.out.1, HO.out.2⟩, HBR.out.alloc _⟩
                      case measure => simp [intOf]; omega
            | false =>
              by_cases hd : x2 ≤ t
              · have hdd := HDU.out hd
                have b2 : decide (x2 ≤ t) = true := by simp [hd]
                obtain ⟨q, hq⟩ : ∃ q, (t - x2) / x1 = q := ⟨_, rfl⟩
                rw [hq] at hdd
                have hq9 : q ≤ t - x2 := by rw [← hq]; exact Int.ediv_le_self _ (by omega)
                have w1_ : IntKind.i64.wrap (t - x2) = t - x2 := IntWalk.i64_in (t - x2) (by omega)
                have w2_ : (t - x2).tdiv x1 = q := by rw [Int.tdiv_eq_ediv_of_nonneg (by omega)]; exact hq
                have HQ := Lib.hid hq
                clear hq
                have w3_ : IntKind.i64.wrap q = q := IntWalk.i64_in q (by omega)
                have w4_ : IntKind.i64.wrap (q + 1) = q + 1 := IntWalk.i64_in (q + 1) (by omega)
                have hx10 : x1 ≠ 0 := by omega
                have HF : Hid (f1 = (q + 1) * x0) := Lib.hid (by have h9 := HF1.out; rw [← h9]; unfold fst; rw [if_neg (by simp), if_pos hd]; dsimp only; rw [HQ.out])
                by_cases k1 : 9223372036854775807 < S + f1
                · have CT : Hid (∀ W, Calls Try.prog 25 #[.int .i64 S, .int .i64 (q + 1), .int .i64 x0] W fun e w' => e = .returned (.tuple #[.int .i64 0, .int .i64 2]) ∧ w' = W) := Lib.hid (fun W => rtimes_bad S (q + 1) x0 (by omega) (by omega) (by omega) (by omega) (by omega) (by omega) (by rw [← HF.out]; omega) W)
                  have HO : Hid (ov bl (trm rl t) t l (i + 1) = true) := Lib.hid (OVS.out (by omega))
                  clear k1
                  go_wp2_with fail
                  have hb9 : But No wr (wr.alloc (.cells #[.int .i64 x0, .int .i64 x1, .int .i64 x2, .bool false] 47)) := (But.refl No wr).alloc _
                  have hx9 := Blk.new wr #[.int .i64 x0, .int .i64 x1, .int .i64 x2, .bool false] 47
                  generalize wr.alloc (.cells #[.int .i64 x0, .int .i64 x1, .int .i64 x2, .bool false] 47) = w9 at hb9 hx9 ⊢
                  generalize wr.heap.size = bx at hx9 ⊢
                  have HB9 := Lib.hid (HBR.out.trans hb9)
                  have KEEP : Hid (∀ w', But No w9 w' → (w'.cell? ⟨bx, 0, none⟩ = some (.int .i64 x0) ∧ w'.cell? ⟨bx, 1, none⟩ = some (.int .i64 x1) ∧ w'.cell? ⟨bx, 2, none⟩ = some (.int .i64 x2)) ∧ But No w9 w') := Lib.hid (fun w' hb => ⟨⟨(hx9.but hb (fun f => f)).cell (o := 0) rfl, (hx9.but hb (fun f => f)).cell (o := 1) rfl, (hx9.but hb (fun f => f)).cell (o := 2) rfl⟩, hb⟩)
                  clear hb9 hx9
                  go_region_held3 (fun w' => (w'.cell? ⟨bx, 0, none⟩ = some (.int .i64 x0) ∧ w'.cell? ⟨bx, 1, none⟩ = some (.int .i64 x1) ∧ w'.cell? ⟨bx, 2, none⟩ = some (.int .i64 x2)) ∧ But No w9 w')
                    (first | exact KEEP.out _ (But.refl No w9).drew)
                    (first | (go_at_call 25; ((with_reducible refine (CT.out _).mono ?_); rintro e wC ⟨rfl, rfl⟩)))
                  rename_i hHeld
                  obtain ⟨⟨y0, y1, y2⟩, hg9⟩ := hHeld
                  have HB8 := Lib.hid (HB9.out.trans hg9)
                  clear hg9
                  go_wp2_with (first | (go_at_call 24; ((with_reducible refine (CU.out _).mono ?_); rintro e wC ⟨rfl, rfl⟩)))
                  go_roundw
                  case rel => exact ⟨0, 2, i + 1, rfl, rfl, by go_num, by omega, .inr ⟨rfl, HO.out⟩, HB8.out⟩
                  case measure => simp [intOf]; omega
                · have CT : Hid (∀ W, Calls Try.prog 25 #[.int .i64 S, .int .i64 (q + 1), .int .i64 x0] W fun e w' => e = .returned (.tuple #[.int .i64 (S + f1), .int .i64 0]) ∧ w' = W) := Lib.hid (fun W => by have := rtimes_good S (q + 1) x0 (by omega) (by omega) (by omega) (by omega) (by omega) (by rw [← HF.out]; omega) W; rw [← HF.out] at this; exact this)
                  obtain ⟨P1, hP1⟩ : ∃ P1, S + f1 = P1 := ⟨_, rfl⟩
                  have SS : Hid (P1 + g2 = sN bl (trm rl t) l (i + 1)) := Lib.hid (by have := SN.out; omega)
                  rw [hP1] at k1 CT
                  have hP0 : 0 ≤ P1 := by omega
                  have OVS : Hid (9223372036854775807 < P1 + g2 → ov bl (trm rl t) t l (i + 1) = true) := Lib.hid (fun h => OVS.out (by omega))
                  have OVN : Hid (P1 + g2 ≤ 9223372036854775807 → u + 2 ≤ 9223372036854775807 → ov bl (trm rl t) t l (i + 1) = false) := Lib.hid (fun h h' => OVN.out (by omega) h')
                  clear hP1 SN HF HF1 hf
                  go_wp2_with fail
                  have hb9 : But No wr (wr.alloc (.cells #[.int .i64 x0, .int .i64 x1, .int .i64 x2, .bool false] 47)) := (But.refl No wr).alloc _
                  have hx9 := Blk.new wr #[.int .i64 x0, .int .i64 x1, .int .i64 x2, .bool false] 47
                  generalize wr.alloc (.cells #[.int .i64 x0, .int .i64 x1, .int .i64 x2, .bool false] 47) = w9 at hb9 hx9 ⊢
                  generalize wr.heap.size = bx at hx9 ⊢
                  have HB9 := Lib.hid (HBR.out.trans hb9)
                  have KEEP : Hid (∀ w', But No w9 w' → (w'.cell? ⟨bx, 0, none⟩ = some (.int .i64 x0) ∧ w'.cell? ⟨bx, 1, none⟩ = some (.int .i64 x1) ∧ w'.cell? ⟨bx, 2, none⟩ = some (.int .i64 x2)) ∧ But No w9 w') := Lib.hid (fun w' hb => ⟨⟨(hx9.but hb (fun f => f)).cell (o := 0) rfl, (hx9.but hb (fun f => f)).cell (o := 1) rfl, (hx9.but hb (fun f => f)).cell (o := 2) rfl⟩, hb⟩)
                  clear hb9 hx9
                  go_region_held3 (fun w' => (w'.cell? ⟨bx, 0, none⟩ = some (.int .i64 x0) ∧ w'.cell? ⟨bx, 1, none⟩ = some (.int .i64 x1) ∧ w'.cell? ⟨bx, 2, none⟩ = some (.int .i64 x2)) ∧ But No w9 w')
                    (first | exact KEEP.out _ (But.refl No w9).drew)
                    (first | (go_at_call 25; ((with_reducible refine (CT.out _).mono ?_); rintro e wC ⟨rfl, rfl⟩)))
                  rename_i hHeld
                  obtain ⟨⟨y0, y1, y2⟩, hg9⟩ := hHeld
                  have HB8 := Lib.hid (HB9.out.trans hg9)
                  clear hg9
                  by_cases k2 : 9223372036854775807 < u + 2
                  · have CB : Hid (∀ W, Calls Try.prog 23 #[.int .i64 u, .int .i64 2] W fun e w' => e = .returned (.tuple #[.int .i64 0, .int .i64 2]) ∧ w' = W) := Lib.hid (fun W => radd_bad u 2 (by omega) (by omega) (by omega) (by omega) (by omega) W)
                    have HO : Hid (ov bl (trm rl t) t l (i + 1) = true) := Lib.hid (OVF.out k2)
                    clear k2
                    go_wp2_with (first | (go_at_call 24; ((with_reducible refine (CU.out _).mono ?_); rintro e wC ⟨rfl, rfl⟩)) | (go_at_call 23; ((with_reducible refine (CB.out _).mono ?_); rintro e wC ⟨rfl, rfl⟩)))
                    go_roundw
                    case rel => exact ⟨P1, 2, i + 1, rfl, rfl, by go_num, by omega, .inr ⟨rfl, HO.out⟩, HB8.out⟩
                    case measure => simp [intOf]; omega
                  · have CB : Hid (∀ W, Calls Try.prog 23 #[.int .i64 u, .int .i64 2] W fun e w' => e = .returned (.tuple #[.int .i64 (u + 2), .int .i64 0]) ∧ w' = W) := Lib.hid (fun W => radd_good u 2 (by omega) (by omega) (by omega) W)
                    by_cases k3 : 9223372036854775807 < P1 + g2
                    · have CS : Hid (∀ W, Calls Try.prog 25 #[.int .i64 P1, .int .i64 (u + 2), .int .i64 rl] W fun e w' => e = .returned (.tuple #[.int .i64 0, .int .i64 2]) ∧ w' = W) := Lib.hid (fun W => rtimes_bad P1 (u + 2) rl (by omega) (by omega) (by omega) (by omega) (by omega) (by omega) (by rw [HG2.out]; omega) W)
                      have HO : Hid (ov bl (trm rl t) t l (i + 1) = true) := Lib.hid (OVS.out (by omega))
                      clear k2 k3
                      go_wp2_with (first | (go_at_call 24; ((with_reducible refine (CU.out _).mono ?_); rintro e wC ⟨rfl, rfl⟩)) | (go_at_call 23; ((with_reducible refine (CB.out _).mono ?_); rintro e wC ⟨rfl, rfl⟩)) | (go_at_call 25; ((with_reducible refine (CS.out _).mono ?_); rintro e wC ⟨rfl, rfl⟩)))
                      go_roundw
                      case rel => exact ⟨0, 2, i + 1, rfl, rfl, by go_num, by omega, .inr ⟨rfl, HO.out⟩, HB8.out⟩
                      case measure => simp [intOf]; omega
                    · have CS : Hid (∀ W, Calls Try.prog 25 #[.int .i64 P1, .int .i64 (u + 2), .int .i64 rl] W fun e w' => e = .returned (.tuple #[.int .i64 (P1 + g2), .int .i64 0]) ∧ w' = W) := Lib.hid (fun W => by have := rtimes_good P1 (u + 2) rl (by omega) (by omega) (by omega) (by omega) (by omega) (by rw [HG2.out]; omega) W; rw [HG2.out] at this; exact this)
                      have HO : Hid (ov bl (trm rl t) t l (i + 1) = false ∧ P1 + g2 = sN bl (trm rl t) l (i + 1)) := Lib.hid ⟨OVN.out (by omega) (by omega), by have := SS.out; omega⟩
                      clear k2 k3
                      go_wp2_with (first | (go_at_call 24; ((with_reducible refine (CU.out _).mono ?_); rintro e wC ⟨rfl, rfl⟩)) | (go_at_call 23; ((with_reducible refine (CB.out _).mono ?_); rintro e wC ⟨rfl, rfl⟩)) | (go_at_call 25; ((with_reducible refine (CS.out _).mono ?_); rintro e wC ⟨rfl, rfl⟩)))
                      go_roundw
                      case rel => exact ⟨P1 + g2, 0, i + 1, rfl, rfl, by go_num, by omega, .inl ⟨rfl, HO.out.1, HO.out.2⟩, HB8.out⟩
                      case measure => simp [intOf]; omega
              · have b2 : decide (x2 ≤ t) = false := by simp; omega
                have hf0 : f1 = 0 := by have h9 := HF1.out; rw [← h9]; unfold fst; rw [if_neg (by simp), if_neg hd]
                obtain ⟨P1, hP1⟩ : ∃ P1, S = P1 := ⟨_, rfl⟩
                have SS : Hid (P1 + g2 = sN bl (trm rl t) l (i + 1)) := Lib.hid (by have := SN.out; omega)
                have hP0 : 0 ≤ P1 := by omega
                have OVS : Hid (9223372036854775807 < P1 + g2 → ov bl (trm rl t) t l (i + 1) = true) := Lib.hid (fun h => OVS.out (by omega))
                have OVN : Hid (P1 + g2 ≤ 9223372036854775807 → u + 2 ≤ 9223372036854775807 → ov bl (trm rl t) t l (i + 1) = false) := Lib.hid (fun h h' => OVN.out (by omega) h')
                rw [hP1] at hS1 ⊢
                clear hP1 SN HF1 hf hf0
                by_cases k2 : 9223372036854775807 < u + 2
                · have CB : Hid (∀ W, Calls Try.prog 23 #[.int .i64 u, .int .i64 2] W fun e w' => e = .returned (.tuple #[.int .i64 0, .int .i64 2]) ∧ w' = W) := Lib.hid (fun W => radd_bad u 2 (by omega) (by omega) (by omega) (by omega) (by omega) W)
                  have HO : Hid (ov bl (trm rl t) t l (i + 1) = true) := Lib.hid (OVF.out k2)
                  clear k2
                  go_wp2_with (first | (go_at_call 24; ((with_reducible refine (CU.out _).mono ?_); rintro e wC ⟨rfl, rfl⟩)) | (go_at_call 23; ((with_reducible refine (CB.out _).mono ?_); rintro e wC ⟨rfl, rfl⟩)))
                  go_roundw
                  case rel => exact ⟨P1, 2, i + 1, rfl, rfl, by go_num, by omega, .inr ⟨rfl, HO.out⟩, HBR.out.alloc _⟩
                  case measure => simp [intOf]; omega
                · have CB : Hid (∀ W, Calls Try.prog 23 #[.int .i64 u, .int .i64 2] W fun e w' => e = .returned (.tuple #[.int .i64 (u + 2), .int .i64 0]) ∧ w' = W) := Lib.hid (fun W => radd_good u 2 (by omega) (by omega) (by omega) W)
                  by_cases k3 : 9223372036854775807 < P1 + g2
                  · have CS : Hid (∀ W, Calls Try.prog 25 #[.int .i64 P1, .int .i64 (u + 2), .int .i64 rl] W fun e w' => e = .returned (.tuple #[.int .i64 0, .int .i64 2]) ∧ w' = W) := Lib.hid (fun W => rtimes_bad P1 (u + 2) rl (by omega) (by omega) (by omega) (by omega) (by omega) (by omega) (by rw [HG2.out]; omega) W)
                    have HO : Hid (ov bl (trm rl t) t l (i + 1) = true) := Lib.hid (OVS.out (by omega))
                    clear k2 k3
                    go_wp2_with (first | (go_at_call 24; ((with_reducible refine (CU.out _).mono ?_); rintro e wC ⟨rfl, rfl⟩)) | (go_at_call 23; ((with_reducible refine (CB.out _).mono ?_); rintro e wC ⟨rfl, rfl⟩)) | (go_at_call 25; ((with_reducible refine (CS.out _).mono ?_); rintro e wC ⟨rfl, rfl⟩)))
                    go_roundw
                    case rel => exact ⟨0, 2, i + 1, rfl, rfl, by go_num, by omega, .inr ⟨rfl, HO.out⟩, HBR.out.alloc _⟩
                    case measure => simp [intOf]; omega
                  · have CS : Hid (∀ W, Calls Try.prog 25 #[.int .i64 P1, .int .i64 (u + 2), .int .i64 rl] W fun e w' => e = .returned (.tuple #[.int .i64 (P1 + g2), .int .i64 0]) ∧ w' = W) := Lib.hid (fun W => by have := rtimes_good P1 (u + 2) rl (by omega) (by omega) (by omega) (by omega) (by omega) (by rw [HG2.out]; omega) W; rw [HG2.out] at this; exact this)
                    have HO : Hid (ov bl (trm rl t) t l (i + 1) = false ∧ P1 + g2 = sN bl (trm rl t) l (i + 1)) := Lib.hid ⟨OVN.out (by omega) (by omega), by have := SS.out; omega⟩
                    clear k2 k3
                    go_wp2_with (first | (go_at_call 24; ((with_reducible refine (CU.out _).mono ?_); rintro e wC ⟨rfl, rfl⟩)) | (go_at_call 23; ((with_reducible refine (CB.out _).mono ?_); rintro e wC ⟨rfl, rfl⟩)) | (go_at_call 25; ((with_reducible refine (CS.out _).mono ?_); rintro e wC ⟨rfl, rfl⟩)))
                    go_roundw
                    case rel => exact ⟨P1 + g2, 0, i + 1, rfl, rfl, by go_num, by omega, .inl ⟨rfl, HO.out.1, HO.out.2⟩, HBR.out.alloc _⟩
                    case measure => simp [intOf]; omega
          · have HI : Hid (i = n) := Lib.hid (by omega)
            have b3 : decide ((i : Int) < (n : Int)) = false := by simp; omega
            have HV : Hid (askV l bl rl t = S ∧ askE l bl rl t = 0) := Lib.hid (by
              have ho : askO l bl rl t = false := by unfold askO; rw [HN.out, ← HI.out]; exact hov
              obtain ⟨e, v⟩ := ask_is HRT.out ht1 ho
              refine ⟨?_, e⟩
              rw [v, hS, HI.out, ← HN.out]; rfl)
            clear hov hS
            go_wp2
            go_ret2
            exact ⟨retp HV.out.1.symm HV.out.2.symm, HB1.out.trans HBR.out⟩
        · subst hev
          clear HST
          have HV : Hid (askV l bl rl t = 0 ∧ askE l bl rl t = 2) := Lib.hid (by
            have ho : askO l bl rl t = true := ov_mono HTA.out (by rw [HN.out]; exact hi) (Nat.le_refl _) hov
            rcases ask_cases l bl rl t with ⟨_, _, e⟩ | ⟨_, _, _, e, v⟩ | ⟨_, _, o, _⟩
            · exact absurd ⟨HRT.out, ht1⟩ e
            · exact ⟨v, e⟩
            · rw [ho] at o; cases o)
          clear hov
          by_cases hin : i < n
          · have hin2 : (i : Int) < (n : Int) := by omega
            go_wp2
            go_ret2
            exact ⟨retp HV.out.1.symm HV.out.2.symm, HB1.out.trans HBR.out⟩
          · have b3 : decide ((i : Int) < (n : Int)) = false := by simp; omega
            go_wp2
            go_ret2
            exact ⟨retp HV.out.1.symm HV.out.2.symm, HB1.out.trans HBR.out⟩
end Go.Proofs.Ytfpcnilcbaiojaa.dem
