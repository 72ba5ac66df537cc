/- LocksFirst: the walk. -/
import Derived.Test.YtimkdcpghhkloaaF
namespace Go.Proofs.Ytimkdcpghhkloaa.locksFirst
open Go.ChangeShapes Go.WideShapes Go.ChangeAt Go.RowKit Go.Deep Go.Proofs.Ytimkdcpghhkloaa
open Go.Proofs.Ytimkdcpghhkloaa.lok
def Bo (w0 w : World) (p ab hb : Nat) (k : Nat) : Prop := ∃ q aq had v, Fe q aq had k ∧ Fs w0 w p ab hb k q aq had v
set_option maxHeartbeats 16000000 in
set_option maxRecDepth 100000 in
theorem walk (A : Option Addr) (n c : Nat) (kd di dk : Nat → Int) (w : World) (hd : RdD w A n kd di dk) :
    Calls Try.prog 4 #[.slice A n c] w fun e w' => e = .returned (.bool true) ∧ But No w w' := by
  have HD := Lib.hid hd
  have hmx := hd.max
  obtain ⟨i4, hi0, hz0, hz1, hz2⟩ := info_parts info41
  have I4 : Hid (Try.prog.info? 41 = some i4 ∧ i4.zero = some (.slice none 0 0) ∧ i4.size = 1 ∧ i4.bytes = 24) := ⟨hi0, hz0, hz1, hz2⟩
  clear hi0 hz0 hz1 hz2
  obtain ⟨i3, hi0, hz0, hz1, hz2⟩ := info_parts info3
  have I3 : Hid (Try.prog.info? 3 = some i3 ∧ i3.zero = some (.int .i64 0) ∧ i3.size = 1 ∧ i3.bytes = 8) := ⟨hi0, hz0, hz1, hz2⟩
  clear hd hi0 hz0 hz1 hz2
  go_enter Try.func4, Try.ntmps4
  go_wp2_with fail
  refine (examples_any w).mono ?_
  rintro e w1 ⟨rfl, hb1⟩
  have HB1 := Lib.hid hb1
  clear hb1
  go_wp2_with fail
  refine (new_ok 8 w1 (by omega)).mono ?_
  rintro e w2 ⟨p, S, rfl, h1, hb, hs⟩
  have H1 := Lib.hid (Hw.made h1 HB1.out hb hs)
  clear h1 hb hs HB1
  go_wp2_with (first
    | (at_make; refine wpList_make_full _ rfl _ _ 44 rfl 0 41 i4 _ 1 Try.underlying44 I4.out.1 I4.out.2.1 I4.out.2.2.1 .i64 .i64 _ _ 8 rfl rfl (by omega) (by omega) (by rw [I4.out.2.2.2]; omega) (by unfold maxLen; omega) (Nat.zero_le _) ?_; intro w3 hown0 hgrow0; have hB0 : But No w2 w3 := (But.refl No w2).grown hgrow0 (fun k e => by cases e); have HB3 := Lib.hid hB0; have HV3 := Lib.hid (vals_made (z := .slice none 0 0) rfl hown0); clear hown0 hgrow0 hB0)
    | (at_make; refine wpList_make_full _ rfl _ _ 41 rfl 0 3 i3 _ 1 Try.underlying41 I3.out.1 I3.out.2.1 I3.out.2.2.1 .i64 .i64 _ _ 8 rfl rfl (by omega) (by omega) (by rw [I3.out.2.2.2]; omega) (by unfold maxLen; omega) (Nat.zero_le _) ?_; intro w4 hown0 hgrow0; have hB0 : But No w3 w4 := (But.refl No w3).grown hgrow0 (fun k e => by cases e); have HB4 := Lib.hid hB0; have HV4 := Lib.hid (vals_made (z := .int .i64 0) rfl hown0); clear hown0 hgrow0 hB0))
  have H2 : Hid (Bo w w4 p w2.heap.size w3.heap.size 0) := by
    have hlt := H1.out.lp.lt
    have s1 := H1.out.but.size
    have s2 := HV3.out.lt
    refine ⟨_, _, _, _, Fe.nil, ⟨⟨S, (H1.out.lp.no HB3.out).no HB4.out, H1.out.new, ?_, fun e => by have := hlt _ e; omega⟩, RoR.made (HV3.out.but HB4.out (fun f => f)), HV4.out, ?_, ?_, by omega, (H1.out.but.trans HB3.out).trans HB4.out⟩⟩
    · rintro k (rfl | ⟨r, _, hk⟩) e
      · have := hlt _ e; omega
      · simp [Value.ownBlock] at hk
    · rintro (e | ⟨r, _, hk⟩)
      · omega
      · simp [Value.ownBlock] at hk
    · rintro k (rfl | ⟨r, _, hk⟩)
      · omega
      · simp [Value.ownBlock] at hk
  generalize w2.heap.size = ab at *
  generalize w3.heap.size = hb at *
  clear HB3 HB4 HV3 HV4 H1
  go_wp2_with fail
  go_loopw [8] (fun i wr => ∃ k : Nat, i = .int .i64 (k : Int) ∧ k ≤ n ∧ k ≤ 300 ∧ Hid (Bo w wr p ab hb k)) (fun i _ => n - (intOf i).toNat)
  case atStart => exact ⟨0, rfl, by omega, by omega, H2⟩
  case round =>
    clear H2
    obtain ⟨k, rfl, hk, hk2, HB⟩ := hrel
    by_cases hlt : k < n
    · have kn : (k : Int) < (n : Int) := by omega
      by_cases h2 : k < 300
      · have k2 : (k : Int) < 300 := by omega
        obtain ⟨q, aq, had, v, hfe, hfs⟩ := HB.out
        have hbut : But No w wr := hfs.but
        obtain ⟨b, off, rfl, hlb, hc⟩ := (HD.out.no hbut).at_ (by omega)
        obtain ⟨c0, c1, c2⟩ := hc k hlt
        have HF := Lib.hid (HD.out.fit k hlt)
        have HE0 := Lib.hid hfe
        have HS0 := Lib.hid (hfs.no ((But.refl No wr).alloc (.cells #[.int .i64 (kd k), .int .i64 (di k), .int .i64 (dk k)] 31)))
        have BX := Lib.hid (Blk.new wr #[.int .i64 (kd k), .int .i64 (di k), .int .i64 (dk k)] 31)
        clear hc hbut hfe hfs HB
        generalize kd k = x0 at *
        generalize di k = x1 at *
        generalize dk k = x2 at *
        go_wp2_with fail
        have u0 := BX.out.cell (o := 0) (v := .int .i64 x0) rfl
        have u1 := BX.out.cell (o := 1) (v := .int .i64 x1) rfl
        have u2 := BX.out.cell (o := 2) (v := .int .i64 x2) rfl
        clear BX
        generalize hw4 : wr.alloc (.cells #[.int .i64 x0, .int .i64 x1, .int .i64 x2] 31) = w4 at *
        clear hw4
        generalize wr.heap.size = bx at *
        have pl0 := pk_lt x0 2 (by omega)
        have pl1 := pk_lt x1 8 (by omega)
        have pl2 := pk_lt x2 24 (by omega)
        have CP0 := Lib.hid (fun W => pick_any x0 2 W HF.out.1 (by omega) (by omega))
        have CP1 := Lib.hid (fun W => pick_any x1 8 W HF.out.2.1 (by omega) (by omega))
        have CP2 := Lib.hid (fun W => pick_any x2 24 W HF.out.2.2 (by omega) (by omega))
        generalize pk x0 2 = y0 at CP0 pl0
        generalize pk x1 8 = y1 at CP1 pl1
        generalize pk x2 24 = t at CP2 pl2
        obtain ⟨t0, t1⟩ := pl2
        obtain ⟨r, rfl⟩ : ∃ r : Nat, y1 = r := ⟨y1.toNat, by omega⟩
        have hr : r < 8 := by omega
        have hr' : (r : Int) < 8 := by omega
        have HT : Hid (inR t) := inR_small (by omega)
        clear c0 c1 c2 hlb pl1
        rcases (by omega : y0 = 0 ∨ y0 = 1) with rfl | rfl
        · rcases (show askE 8 q r t = 0 ∨ askE 8 q r t ≠ 0 by omega) with he | he
          · have HA : Hid (∀ W, Fs w W p ab hb k q aq had v → Calls Try.prog 10 #[.pointer (some ⟨p, 0, none⟩), .int .i64 r, .int .i64 t] W fun e w' => e = .returned (.tuple #[.int .i64 (q r).length, .int .i64 0]) ∧ Fs w w' p ab hb ((k + 1 : Nat) : Int) (askQ 8 q r t) aq had v) := fun W h => by
              have := h.ask r t (by omega)
              have e : askA 8 q r t = (q r).length := by unfold askA; rw [if_pos he]; rfl
              have e2 : (k : Int) + 1 = ((k + 1 : Nat) : Int) := by omega
              rw [he, e, e2] at this
              exact this
            have HEf := Lib.hid (HE0.out.ask hr he)
            have hlen := HE0.out.len hr
            have hln := HE0.out.ln r hr
            obtain ⟨Ar, cr, hvr, hcr⟩ := HS0.out.ror.slice hr
            have CELL : Hid (∀ W N' q', Fs w W p ab hb N' q' aq had v → W.cell? ⟨ab, r, none⟩ = some (.slice Ar (aq r).length cr) ∧ W.cell? ⟨hb, r, none⟩ = some (.int .i64 (had r)) ∧ W.frozen? ⟨ab, r, none⟩ = false) := fun W N' q' h => ⟨by rw [← hvr]; exact h.ror.cell hr, h.hrow.cell hr, h.ror.frozen r⟩
            have ROW : Hid (∀ W N' q', Fs w W p ab hb N' q' aq had v → (W.alloc (.cells #[.int .i64 t] 3)).ownsRow 0 3 1 (.slice Ar (aq r).length cr) (aq r).length ((aq r).map (Value.int .i64))) := fun W N' q' h => by rw [← hvr]; exact h.ror.own_alloc hr _
            have PUSH : Hid (∀ (W W2 : World) (A' : Option Addr) (c' : Nat), Fs w W p ab hb ((k + 1 : Nat) : Int) (askQ 8 q r t) aq had v → W2.ownsRow 0 3 1 (.slice A' ((aq r).length + 1) c') ((aq r).length + 1) ((aq r).map (Value.int .i64) ++ [.int .i64 t]) → (W.alloc (.cells #[.int .i64 t] 3)).grownBy W2 (Value.slice Ar (aq r).length cr).ownBlock → ((Value.slice A' ((aq r).length + 1) c').ownBlock = (Value.slice Ar (aq r).length cr).ownBlock ∨ (Value.slice A' ((aq r).length + 1) c').ownBlock = some (W.alloc (.cells #[.int .i64 t] 3)).heap.size) → W2.cell? ⟨ab, r, none⟩ = some (.slice Ar (aq r).length cr) ∧ W2.frozen? ⟨ab, r, none⟩ = false ∧ Fs w (W2.setCell ⟨ab, r, none⟩ (.slice A' ((aq r).length + 1) c')) p ab hb ((k + 1 : Nat) : Int) (askQ 8 q r t) (upd aq r (aq r ++ [t])) had (updv v r (.slice A' ((aq r).length + 1) c'))) := fun W W2 A' c' h ho hg hat => by
              rw [← hvr] at hg hat
              have hbb : But (fun j => (v r).ownBlock = some j) W W2 := ((But.refl _ W).alloc _).grown hg (fun k e => .inl e)
              have hro := h.ror.row.but hbb (fun e => h.ror.nb r ab hr e rfl)
              exact ⟨by rw [← hvr]; exact hro.cell hr, Vals.frozen hro r, h.push hr ho hg hat⟩
            have hql : ((q r).length : Int) = ((aq r).length : Int) - (had r : Int) := by omega
            have hh1 : (had r : Int) ≤ 300 := by omega
            have hh2 : (aq r).length ≤ 300 := by omega
            have hh3 : had r ≤ (aq r).length := by omega
            rw [hql] at HA
            generalize (aq r).length = m at *
            obtain ⟨g, hg⟩ : ∃ g, had r = g := ⟨_, rfl⟩
            rw [hg] at CELL hh1 hh3
            rw [hg] at HA
            have b1 : (((m : Int) - (g : Int)) != ((m : Int) - (g : Int))) = false := by simp
            clear hlen hln hvr hcr hql he hg pl0
            go_wp2_with (first | (go_at_call 9; ((with_reducible refine (CP1.out _).mono ?_); rintro e wa ⟨rfl, rfl⟩)) | (go_at_call 9; ((with_reducible refine (CP2.out _).mono ?_); rintro e wa ⟨rfl, rfl⟩)) | (go_at_call 9; ((with_reducible refine (CP0.out _).mono ?_); rintro e wa ⟨rfl, rfl⟩)) | (go_at_call 10; ((with_reducible refine (HA.out _ HS0.out).mono ?_); rintro e wb ⟨rfl, hp⟩; have HS1 := Lib.hid hp; obtain ⟨d0, d1, d2⟩ := CELL.out _ _ _ hp; clear hp)))
            go_quiet (fail)
            go_wp2_with (at_builtin; refine wpList_append_sh _ rfl _ _ 41 rfl 3 i3 _ 1 8 Try.underlying41 I3.out.1 I3.out.2.1 I3.out.2.2.1 I3.out.2.2.2 rfl (by omega) (.slice Ar m cr) m _ rfl (ROW.out _ _ _ (HS1.out.no ((But.refl No _).drewN _))) _ _ 1 1 [.int .i64 t] rfl (one_reads _ t) (one_cell t) (by unfold maxLen; omega) (by omega) ?_; intro A3 c3 w3 hown hgrow hat; have HP := Lib.hid (PUSH.out _ w3 A3 c3 (HS1.out.no ((But.refl No _).drewN _)) hown hgrow hat); have hcell := HP.out.1; have hfz := HP.out.2.1; have HSg := Lib.hid HP.out.2.2; clear hown hgrow hat)
            clear hcell hfz HP CELL ROW PUSH HA HS1 d0 d1 d2
            obtain ⟨qq, aa, hh, vv, HEf, HSf⟩ : ∃ qq aa hh vv, Hid (Fe qq aa hh (k + 1)) ∧ Hid (Fs w (w3.setCell ⟨ab, r, none⟩ (.slice A3 (m + 1) c3)) p ab hb ((k + 1 : Nat) : Int) qq aa hh vv) := ⟨_, _, _, _, HEf, HSg⟩
            clear HSg
            go_loopw [18] (fun i wq => ∃ j : Nat, i = .int .i64 (j : Int) ∧ j ≤ 8 ∧ Hid (Fs w wq p ab hb ((k + 1 : Nat) : Int) qq aa hh vv)) (fun i _ => 8 - (intOf i).toNat)
            case atStart => exact ⟨0, rfl, by omega, HSf⟩
            case round =>
              clear HSf
              obtain ⟨j, rfl, hj, HS⟩ := hrel
              by_cases hj8 : j < 8
              · have hj' : (j : Int) < 8 := by omega
                have hlen := HEf.out.len hj8
                have hln := HEf.out.ln j hj8
                have hhe := HEf.out.head hj8
                obtain ⟨Aj, cj, hvj, hcj⟩ := HS.out.ror.slice hj8
                have hrl := Lib.hid (HS.out.ror.own j hj8)
                rw [hvj] at hrl
                have CELL : Hid (∀ W, Fs w W p ab hb ((k + 1 : Nat) : Int) qq aa hh vv → W.cell? ⟨ab, j, none⟩ = some (.slice Aj (aa j).length cj) ∧ W.cell? ⟨hb, j, none⟩ = some (.int .i64 (hh j))) := fun W h => ⟨by rw [← hvj]; exact h.ror.cell hj8, h.hrow.cell hj8⟩
                have L1 : Hid (∀ W, Fs w W p ab hb ((k + 1 : Nat) : Int) qq aa hh vv → Calls Try.prog 14 #[.pointer (some ⟨p, 0, none⟩), .int .i64 j] W fun e w' => e = .returned (.int .i64 (lok.hd (qq j))) ∧ Fs w w' p ab hb ((k + 1 : Nat) : Int) qq aa hh vv) := fun W h => h.hold hj8
                have L2 : Hid (∀ W, Fs w W p ab hb ((k + 1 : Nat) : Int) qq aa hh vv → Calls Try.prog 20 #[.pointer (some ⟨p, 0, none⟩), .int .i64 j] W fun e w' => ∃ b, e = .returned (.slice (some ⟨b, 0, none⟩) (qq j).length (qq j).length) ∧ Fs w w' p ab hb ((k + 1 : Nat) : Int) qq aa hh vv) := fun W h => h.que hj8
                have hq1 : ((qq j).length : Int) = ((aa j).length : Int) - (hh j : Int) := by omega
                rcases hhe with ⟨hl1, hl2, hl3, hl4, hl5⟩ | ⟨hl1, hl2⟩
                · have L3 : Hid (∀ W, Fs w W p ab hb ((k + 1 : Nat) : Int) qq aa hh vv → Calls Try.prog 18 #[.pointer (some ⟨p, 0, none⟩), .int .i64 (lok.hd (qq j))] W fun e w' => e = .returned (.bool true) ∧ Fs w w' p ab hb ((k + 1 : Nat) : Int) qq aa hh vv) := fun W h => by
                    have := h.has (lok.hd (qq j)) (inR_small (by omega))
                    rw [hl5] at this
                    exact this
                  obtain ⟨eb, eoff, eA, _, hcl⟩ := (hrl.out.rl (by omega)).1.at_ (by omega)
                  subst eA
                  have d2 := hcl (hh j) hl1
                  rw [hl2] at d2
                  have FR : Hid (∀ W, But No wr W → W.cell? ⟨eb, eoff + hh j, none⟩ = some (.int .i64 (lok.hd (qq j)))) := fun W hb => by
                    have h1 := cell_keep (d2) hb
                    exact h1
                  obtain ⟨d0, d1⟩ := CELL.out _ HS.out
                  generalize lok.hd (qq j) = x at *
                  generalize hqm : (qq j).length = qm at *
                  generalize hgj : hh j = gj at *
                  generalize hmj : (aa j).length = mj at *
                  have b1 : decide ((gj : Int) < (mj : Int)) = true := by simp; omega
                  have b2 : (x != x) = false := by simp
                  have b4 : mj ≤ 300 := by omega
                  have b3 : ((qm : Int) != IntKind.i64.wrap ((mj : Int) - (gj : Int))) = false := by rw [IntWalk.i64_in ((mj : Int) - (gj : Int)) (by omega), hq1]; simp
                  have b5 : (gj : Int) < (mj : Int) := by omega
                  have b6 : decide (0 ≤ x) = true := by simpa using hl3
                  clear hrl hcl hvj hcj hlen hln hl1 hl2 hl3 hl4 hl5 hq1 hqm hgj hmj
                  go_wp2_with fail
                  go_quiet (fail)
                  go_wp2_with fail
                  go_quiet (fail)
                  go_wp2_with fail
                  go_region_held3 (fun w' => w'.cell? ⟨ab, j, none⟩ = some (.slice (some ⟨eb, eoff, none⟩) mj cj) ∧ w'.cell? ⟨hb, j, none⟩ = some (.int .i64 gj))
                    (first | exact CELL.out _ HQ3.out | exact CELL.out _ HQ2.out | exact CELL.out _ HQ1.out | exact CELL.out _ (HS.out.no (by first | exact (((But.refl No _).drewN _).drewN _).drew | exact ((But.refl No _).drewN _).drew | exact (((But.refl No _).drewN _).drewN _).drew.drewN _ | exact ((But.refl No _).drewN _).drew.drewN _ | exact ((But.refl No _).drewN _).drewN _ | exact (But.refl No _).drewN _)))
                    (first | (go_at_call 14; ((with_reducible refine (L1.out _ (HS.out.no (by first | exact (((But.refl No _).drewN _).drewN _).drew | exact ((But.refl No _).drewN _).drew | exact (((But.refl No _).drewN _).drewN _).drew.drewN _ | exact ((But.refl No _).drewN _).drew.drewN _ | exact ((But.refl No _).drewN _).drewN _ | exact (But.refl No _).drewN _))).mono ?_); rintro e wq1 ⟨rfl, hp⟩; have HQ1 := Lib.hid hp; clear hp)) | (go_at_call 20; ((with_reducible refine (L2.out _ HQ1.out).mono ?_); rintro e wq2 ⟨b1, rfl, hp⟩; have HQ2 := Lib.hid hp; clear hp)) | (go_at_call 18; ((with_reducible refine (L3.out _ HQ2.out).mono ?_); rintro e wq3 ⟨rfl, hp⟩; have HQ3 := Lib.hid hp; clear hp)))
                  clear d0 d1 d2 FR CELL L1 L2 L3
                  go_wp2
                  go_roundw
                  case rel => exact ⟨j + 1, by go_num, by omega, HQ3⟩
                  case measure => simp [intOf]; omega
                · obtain ⟨d0, d1⟩ := CELL.out _ HS.out
                  rw [hl2] at L1
                  generalize hqm : (qq j).length = qm at *
                  generalize hgj : hh j = gj at *
                  generalize hmj : (aa j).length = mj at *
                  subst hl1
                  have b1 : decide ((mj : Int) < (mj : Int)) = false := by simp
                  have b4 : mj ≤ 300 := by omega
                  have b3 : ((qm : Int) != IntKind.i64.wrap 0) = false := by rw [show IntKind.i64.wrap 0 = 0 from rfl, hq1]; simp
                  have b6 : decide ((0 : Int) ≤ -1) = false := by decide
                  clear hrl hvj hcj hlen hln hl2 hq1 hqm hgj hmj
                  go_wp2_with fail
                  go_quiet (fail)
                  go_wp2_with fail
                  refine wp_region_noPanic ?_
                  refine wp_region_held_drew (S := (fun w' => w'.cell? ⟨ab, j, none⟩ = some (.slice Aj mj cj) ∧ w'.cell? ⟨hb, j, none⟩ = some (.int .i64 mj))) (by kernel_rfl) (CELL.out _ (HS.out.no (by first | exact (((But.refl No _).drewN _).drewN _).drew | exact ((But.refl No _).drewN _).drew | exact (((But.refl No _).drewN _).drewN _).drew.drewN _ | exact ((But.refl No _).drewN _).drew.drewN _ | exact ((But.refl No _).drewN _).drewN _ | exact (But.refl No _).drewN _))) (fun hHeld => ?_)
                  refine wpAnyH_take (i := 0) (oi := { dst := some 131, op := Op.move (Operand.tmp 4), type := 24, pos := "keeps.go:45", after := #[], guard := none }) (v := ?v1) rfl (by kernel_rfl) (by kernel_rfl) (by kernel_rfl) (fun _ _ _ h => h) (Or.inl ⟨by rfl, ?hy1⟩) (by assumption) ?rest1
                  case hy1 => (intro w hSw; (try dsimp only at hSw); go_simp <;> with_reducible rfl)
                  try simp only [Act.put, List.setIfInBounds_toArray, List.set_cons_zero, List.set_cons_succ]
                  refine wpAnyH_take (i := 1) (oi := { dst := some 132, op := Op.move (Operand.tmp 18), type := 3, pos := "keeps.go:45", after := #[], guard := none }) (v := ?v2) rfl (by kernel_rfl) (by kernel_rfl) (by kernel_rfl) (fun _ _ _ h => h) (Or.inl ⟨by rfl, ?hy2⟩) (by assumption) ?rest2
                  case hy2 => (intro w hSw; (try dsimp only at hSw); go_simp <;> with_reducible rfl)
                  try simp only [Act.put, List.setIfInBounds_toArray, List.set_cons_zero, List.set_cons_succ]
                  refine wpAnyH_take (i := 3) (oi := { dst := some 134, op := Op.move (Operand.tmp 19), type := 3, pos := "keeps.go:45", after := #[], guard := none }) (v := ?v3) rfl (by kernel_rfl) (by kernel_rfl) (by kernel_rfl) (fun _ _ _ h => h) (Or.inl ⟨by rfl, ?hy3⟩) (by assumption) ?rest3
                  case hy3 => (intro w hSw; (try dsimp only at hSw); go_simp <;> with_reducible rfl)
                  try simp only [Act.put, List.setIfInBounds_toArray, List.set_cons_zero, List.set_cons_succ]
                  refine wpAnyH_ready (rs := [2]) (by kernel_rfl) (by simp) ?_
                  refine AllReadyH.cons (o := { dst := some 133, op := Op.call { callee := Callee.value (Operand.func 14), args := #[Operand.tmp 131, Operand.tmp 132], argTypes := #[24, 3] }, type := 3, pos := "keeps.go:45", after := #[{ on := 0, ground := Ground.data }, { on := 1, ground := Ground.data }], guard := none }) rfl (fun K hK => ?_) AllReadyH.nil
                  go_simp
                  go_at_call 14; ((with_reducible refine (L1.out _ (HS.out.no (by first | exact (((But.refl No _).drewN _).drewN _).drew | exact ((But.refl No _).drewN _).drew | exact (((But.refl No _).drewN _).drewN _).drew.drewN _ | exact ((But.refl No _).drewN _).drew.drewN _ | exact ((But.refl No _).drewN _).drewN _ | exact (But.refl No _).drewN _))).mono ?_); rintro e wq1 ⟨rfl, hp⟩; have HQ1 := Lib.hid hp; clear hp)
                  (try go_wp2_with fail)
                  refine hK.out _ _ (CELL.out _ HQ1.out) (fun hHeld => ?_)
                  clear hK K
                  try simp only [Act.put, List.setIfInBounds_toArray, List.set_cons_zero, List.set_cons_succ]
                  refine wpAnyH_take (i := 4) (oi := { dst := some 135, op := Op.binOp BinOp.neq 3 (Operand.tmp 133) (Operand.tmp 134) 3, type := 4, pos := "keeps.go:45", after := #[{ on := 2, ground := Ground.data }, { on := 3, ground := Ground.data }], guard := none }) (v := ?v4) rfl (by kernel_rfl) (by kernel_rfl) (by kernel_rfl) (fun _ _ _ h => h) (Or.inl ⟨by rfl, ?hy4⟩) (by assumption) ?rest4
                  case hy4 => (intro w hSw; (try dsimp only at hSw); go_simp <;> with_reducible rfl)
                  try simp only [Act.put, List.setIfInBounds_toArray, List.set_cons_zero, List.set_cons_succ]
                  refine wpAnyH_take (i := 5) (oi := { dst := some 136, op := Op.move (Operand.tmp 135), type := 4, pos := "keeps.go:45", after := #[{ on := 4, ground := Ground.data }, { on := 2, ground := Ground.chain }], guard := none }) (v := ?v5) rfl (by kernel_rfl) (by kernel_rfl) (by kernel_rfl) (fun _ _ _ h => h) (Or.inl ⟨by rfl, ?hy5⟩) (by assumption) ?rest5
                  case hy5 => (intro w hSw; (try dsimp only at hSw); go_simp <;> with_reducible rfl)
                  try simp only [Act.put, List.setIfInBounds_toArray, List.set_cons_zero, List.set_cons_succ]
                  refine wpAnyH_take (i := 6) (oi := { dst := some 137, op := Op.move (Operand.tmp 4), type := 24, pos := "keeps.go:45", after := #[{ on := 5, ground := Ground.guard }], guard := some (5, false) }) (v := ?v6) rfl (by kernel_rfl) (by kernel_rfl) (by kernel_rfl) (fun _ _ _ h => h) (Or.inl ⟨by rfl, ?hy6⟩) (by assumption) ?rest6
                  case hy6 => (intro w hSw; (try dsimp only at hSw); go_simp <;> with_reducible rfl)
                  try simp only [Act.put, List.setIfInBounds_toArray, List.set_cons_zero, List.set_cons_succ]
                  refine wpAnyH_take (i := 7) (oi := { dst := some 138, op := Op.move (Operand.tmp 18), type := 3, pos := "keeps.go:45", after := #[{ on := 5, ground := Ground.guard }], guard := some (5, false) }) (v := ?v7) rfl (by kernel_rfl) (by kernel_rfl) (by kernel_rfl) (fun _ _ _ h => h) (Or.inl ⟨by rfl, ?hy7⟩) (by assumption) ?rest7
                  case hy7 => (intro w hSw; (try dsimp only at hSw); go_simp <;> with_reducible rfl)
                  try simp only [Act.put, List.setIfInBounds_toArray, List.set_cons_zero, List.set_cons_succ]
                  refine wpAnyH_take (i := 10) (oi := { dst := some 141, op := Op.move (Operand.tmp 6), type := 44, pos := "keeps.go:45", after := #[{ on := 5, ground := Ground.guard }], guard := some (5, false) }) (v := ?v8) rfl (by kernel_rfl) (by kernel_rfl) (by kernel_rfl) (fun _ _ _ h => h) (Or.inl ⟨by rfl, ?hy8⟩) (by assumption) ?rest8
                  case hy8 => (intro w hSw; (try dsimp only at hSw); go_simp <;> with_reducible rfl)
                  try simp only [Act.put, List.setIfInBounds_toArray, List.set_cons_zero, List.set_cons_succ]
                  refine wpAnyH_take (i := 11) (oi := { dst := some 142, op := Op.move (Operand.tmp 18), type := 3, pos := "keeps.go:45", after := #[{ on := 5, ground := Ground.guard }], guard := some (5, false) }) (v := ?v9) rfl (by kernel_rfl) (by kernel_rfl) (by kernel_rfl) (fun _ _ _ h => h) (Or.inl ⟨by rfl, ?hy9⟩) (by assumption) ?rest9
                  case hy9 => (intro w hSw; (try dsimp only at hSw); go_simp <;> with_reducible rfl)
                  try simp only [Act.put, List.setIfInBounds_toArray, List.set_cons_zero, List.set_cons_succ]
                  refine wpAnyH_take (i := 12) (oi := { dst := some 143, op := Op.indexAddr 44 (Operand.tmp 141) (Operand.tmp 142), type := 0, pos := "keeps.go:45", after := #[{ on := 10, ground := Ground.data }, { on := 11, ground := Ground.data }, { on := 5, ground := Ground.guard }], guard := some (5, false) }) (v := ?v10) rfl (by kernel_rfl) (by kernel_rfl) (by kernel_rfl) (fun _ _ _ h => h) (Or.inl ⟨by rfl, ?hy10⟩) (by assumption) ?rest10
                  case hy10 => (intro w hSw; (try dsimp only at hSw); go_simp <;> with_reducible rfl)
                  try simp only [Act.put, List.setIfInBounds_toArray, List.set_cons_zero, List.set_cons_succ]
                  refine wpAnyH_take (i := 13) (oi := { dst := some 144, op := Op.load 41 (Operand.tmp 143), type := 41, pos := "keeps.go:45", after := #[{ on := 12, ground := Ground.data }, { on := 5, ground := Ground.guard }], guard := some (5, false) }) (v := ?v11) rfl (by kernel_rfl) (by kernel_rfl) (by kernel_rfl) (fun _ _ _ h => h) (Or.inl ⟨by rfl, ?hy11⟩) (by assumption) ?rest11
                  case hy11 => (intro w hSw; (try dsimp only at hSw); go_simp <;> with_reducible rfl)
                  try simp only [Act.put, List.setIfInBounds_toArray, List.set_cons_zero, List.set_cons_succ]
                  refine wpAnyH_take (i := 14) (oi := { dst := some 145, op := Op.call { callee := Callee.builtin Builtin.len, args := #[Operand.tmp 144], argTypes := #[41] }, type := 3, pos := "keeps.go:45", after := #[{ on := 13, ground := Ground.data }, { on := 5, ground := Ground.guard }], guard := some (5, false) }) (v := ?v12) rfl (by kernel_rfl) (by kernel_rfl) (by kernel_rfl) (fun _ _ _ h => h) (Or.inl ⟨by rfl, ?hy12⟩) (by assumption) ?rest12
                  case hy12 => (intro w hSw; (try dsimp only at hSw); go_simp <;> with_reducible rfl)
                  try simp only [Act.put, List.setIfInBounds_toArray, List.set_cons_zero, List.set_cons_succ]
                  refine wpAnyH_take (i := 15) (oi := { dst := some 146, op := Op.move (Operand.tmp 7), type := 41, pos := "keeps.go:45", after := #[{ on := 5, ground := Ground.guard }], guard := some (5, false) }) (v := ?v13) rfl (by kernel_rfl) (by kernel_rfl) (by kernel_rfl) (fun _ _ _ h => h) (Or.inl ⟨by rfl, ?hy13⟩) (by assumption) ?rest13
                  case hy13 => (intro w hSw; (try dsimp only at hSw); go_simp <;> with_reducible rfl)
                  try simp only [Act.put, List.setIfInBounds_toArray, List.set_cons_zero, List.set_cons_succ]
                  refine wpAnyH_take (i := 16) (oi := { dst := some 147, op := Op.move (Operand.tmp 18), type := 3, pos := "keeps.go:45", after := #[{ on := 5, ground := Ground.guard }], guard := some (5, false) }) (v := ?v14) rfl (by kernel_rfl) (by kernel_rfl) (by kernel_rfl) (fun _ _ _ h => h) (Or.inl ⟨by rfl, ?hy14⟩) (by assumption) ?rest14
                  case hy14 => (intro w hSw; (try dsimp only at hSw); go_simp <;> with_reducible rfl)
                  try simp only [Act.put, List.setIfInBounds_toArray, List.set_cons_zero, List.set_cons_succ]
                  refine wpAnyH_take (i := 17) (oi := { dst := some 148, op := Op.indexAddr 41 (Operand.tmp 146) (Operand.tmp 147), type := 0, pos := "keeps.go:45", after := #[{ on := 15, ground := Ground.data }, { on := 16, ground := Ground.data }, { on := 5, ground := Ground.guard }], guard := some (5, false) }) (v := ?v15) rfl (by kernel_rfl) (by kernel_rfl) (by kernel_rfl) (fun _ _ _ h => h) (Or.inl ⟨by rfl, ?hy15⟩) (by assumption) ?rest15
                  case hy15 => (intro w hSw; (try dsimp only at hSw); go_simp <;> with_reducible rfl)
                  try simp only [Act.put, List.setIfInBounds_toArray, List.set_cons_zero, List.set_cons_succ]
                  refine wpAnyH_take (i := 18) (oi := { dst := some 149, op := Op.load 3 (Operand.tmp 148), type := 3, pos := "keeps.go:45", after := #[{ on := 17, ground := Ground.data }, { on := 5, ground := Ground.guard }], guard := some (5, false) }) (v := ?v16) rfl (by kernel_rfl) (by kernel_rfl) (by kernel_rfl) (fun _ _ _ h => h) (Or.inl ⟨by rfl, ?hy16⟩) (by assumption) ?rest16
                  case hy16 => (intro w hSw; (try dsimp only at hSw); go_simp <;> with_reducible rfl)
                  try simp only [Act.put, List.setIfInBounds_toArray, List.set_cons_zero, List.set_cons_succ]
                  refine wpAnyH_take (i := 19) (oi := { dst := some 150, op := Op.binOp BinOp.sub 3 (Operand.tmp 145) (Operand.tmp 149) 3, type := 3, pos := "keeps.go:45", after := #[{ on := 14, ground := Ground.data }, { on := 18, ground := Ground.data }, { on := 5, ground := Ground.guard }], guard := some (5, false) }) (v := ?v17) rfl (by kernel_rfl) (by kernel_rfl) (by kernel_rfl) (fun _ _ _ h => h) (Or.inl ⟨by rfl, ?hy17⟩) (by assumption) ?rest17
                  case hy17 => (intro w hSw; (try dsimp only at hSw); go_simp <;> with_reducible rfl)
                  try simp only [Act.put, List.setIfInBounds_toArray, List.set_cons_zero, List.set_cons_succ]
                  refine wpAnyH_ready (rs := [8]) (by kernel_rfl) (by simp) ?_
                  refine AllReadyH.cons (o := { dst := some 139, op := Op.call { callee := Callee.value (Operand.func 20), args := #[Operand.tmp 137, Operand.tmp 138], argTypes := #[24, 3] }, type := 41, pos := "keeps.go:45", after := #[{ on := 6, ground := Ground.data }, { on := 7, ground := Ground.data }, { on := 5, ground := Ground.chain }, { on := 5, ground := Ground.guard }], guard := some (5, false) }) rfl (fun K hK => ?_) AllReadyH.nil
                  go_simp
                  go_at_call 20; ((with_reducible refine (L2.out _ HQ1.out).mono ?_); rintro e wq2 ⟨b1, rfl, hp⟩; have HQ2 := Lib.hid hp; clear hp)
                  (try go_wp2_with fail)
                  refine hK.out _ _ (CELL.out _ HQ2.out) (fun hHeld => ?_)
                  clear hK K
                  try simp only [Act.put, List.setIfInBounds_toArray, List.set_cons_zero, List.set_cons_succ]
                  refine wpAnyH_take (i := 9) (oi := { dst := some 140, op := Op.call { callee := Callee.builtin Builtin.len, args := #[Operand.tmp 139], argTypes := #[41] }, type := 3, pos := "keeps.go:45", after := #[{ on := 8, ground := Ground.data }, { on := 5, ground := Ground.guard }], guard := some (5, false) }) (v := ?v18) rfl (by kernel_rfl) (by kernel_rfl) (by kernel_rfl) (fun _ _ _ h => h) (Or.inl ⟨by rfl, ?hy18⟩) (by assumption) ?rest18
                  case hy18 => (intro w hSw; (try dsimp only at hSw); go_simp <;> with_reducible rfl)
                  try simp only [Act.put, List.setIfInBounds_toArray, List.set_cons_zero, List.set_cons_succ]
                  refine wpAnyH_take (i := 20) (oi := { dst := some 151, op := Op.binOp BinOp.neq 3 (Operand.tmp 140) (Operand.tmp 150) 3, type := 4, pos := "keeps.go:45", after := #[{ on := 9, ground := Ground.data }, { on := 19, ground := Ground.data }, { on := 5, ground := Ground.guard }], guard := some (5, false) }) (v := ?v19) rfl (by kernel_rfl) (by kernel_rfl) (by kernel_rfl) (fun _ _ _ h => h) (Or.inl ⟨by rfl, ?hy19⟩) (by assumption) ?rest19
                  case hy19 => (intro w hSw; (try dsimp only at hSw); go_simp <;> with_reducible rfl)
                  try simp only [Act.put, List.setIfInBounds_toArray, List.set_cons_zero, List.set_cons_succ]
                  refine wpAnyH_take (i := 21) (oi := { dst := some 152, op := Op.pick (Operand.tmp 136) (Operand.const (Value.bool true)) (Operand.tmp 151), type := 4, pos := "keeps.go:45", after := #[{ on := 5, ground := Ground.data }, { on := 20, ground := Ground.data }], guard := none }) (v := ?v20) rfl (by kernel_rfl) (by kernel_rfl) (by kernel_rfl) (fun _ _ _ h => h) (Or.inl ⟨by rfl, ?hy20⟩) (by assumption) ?rest20
                  case hy20 => (intro w hSw; (try dsimp only at hSw); go_simp <;> with_reducible rfl)
                  try simp only [Act.put, List.setIfInBounds_toArray, List.set_cons_zero, List.set_cons_succ]
                  refine wpAnyH_take (i := 22) (oi := { dst := some 153, op := Op.move (Operand.tmp 152), type := 4, pos := "keeps.go:45", after := #[{ on := 21, ground := Ground.data }, { on := 8, ground := Ground.chain }], guard := none }) (v := ?v21) rfl (by kernel_rfl) (by kernel_rfl) (by kernel_rfl) (fun _ _ _ h => h) (Or.inl ⟨by rfl, ?hy21⟩) (by assumption) ?rest21
                  case hy21 => (intro w hSw; (try dsimp only at hSw); go_simp <;> with_reducible rfl)
                  try simp only [Act.put, List.setIfInBounds_toArray, List.set_cons_zero, List.set_cons_succ]
                  refine wpAnyH_take (i := 23) (oi := { dst := some 154, op := Op.move (Operand.tmp 19), type := 3, pos := "keeps.go:45", after := #[{ on := 22, ground := Ground.guard }], guard := some (22, false) }) (v := ?v22) rfl (by kernel_rfl) (by kernel_rfl) (by kernel_rfl) (fun _ _ _ h => h) (Or.inl ⟨by rfl, ?hy22⟩) (by assumption) ?rest22
                  case hy22 => (intro w hSw; (try dsimp only at hSw); go_simp <;> with_reducible rfl)
                  try simp only [Act.put, List.setIfInBounds_toArray, List.set_cons_zero, List.set_cons_succ]
                  refine wpAnyH_take (i := 24) (oi := { dst := some 155, op := Op.binOp BinOp.geq 3 (Operand.tmp 154) (Operand.const (Value.int IntKind.i64 0)) 3, type := 4, pos := "keeps.go:45", after := #[{ on := 23, ground := Ground.data }, { on := 22, ground := Ground.guard }], guard := some (22, false) }) (v := ?v23) rfl (by kernel_rfl) (by kernel_rfl) (by kernel_rfl) (fun _ _ _ h => h) (Or.inl ⟨by rfl, ?hy23⟩) (by assumption) ?rest23
                  case hy23 => (intro w hSw; (try dsimp only at hSw); go_simp <;> with_reducible rfl)
                  try simp only [Act.put, List.setIfInBounds_toArray, List.set_cons_zero, List.set_cons_succ]
                  refine wpAnyH_take (i := 25) (oi := { dst := some 156, op := Op.move (Operand.tmp 155), type := 4, pos := "keeps.go:45", after := #[{ on := 24, ground := Ground.data }, { on := 22, ground := Ground.chain }, { on := 22, ground := Ground.guard }], guard := some (22, false) }) (v := ?v24) rfl (by kernel_rfl) (by kernel_rfl) (by kernel_rfl) (fun _ _ _ h => h) (Or.inl ⟨by rfl, ?hy24⟩) (by assumption) ?rest24
                  case hy24 => (intro w hSw; (try dsimp only at hSw); go_simp <;> with_reducible rfl)
                  try simp only [Act.put, List.setIfInBounds_toArray, List.set_cons_zero, List.set_cons_succ]
                  refine wpAnyH_take (i := 26) (oi := { dst := some 157, op := Op.move (Operand.tmp 4), type := 24, pos := "keeps.go:45", after := #[{ on := 25, ground := Ground.guard }], guard := some (25, true) }) (v := undef) rfl (by kernel_rfl) (by kernel_rfl) (by kernel_rfl) (fun _ _ _ h => h) (Or.inr ⟨by rfl, rfl⟩) (by assumption) ?_
                  try simp only [Act.put, List.setIfInBounds_toArray, List.set_cons_zero, List.set_cons_succ]
                  refine wpAnyH_take (i := 27) (oi := { dst := some 158, op := Op.move (Operand.tmp 19), type := 3, pos := "keeps.go:45", after := #[{ on := 25, ground := Ground.guard }], guard := some (25, true) }) (v := undef) rfl (by kernel_rfl) (by kernel_rfl) (by kernel_rfl) (fun _ _ _ h => h) (Or.inr ⟨by rfl, rfl⟩) (by assumption) ?_
                  try simp only [Act.put, List.setIfInBounds_toArray, List.set_cons_zero, List.set_cons_succ]
                  refine wpAnyH_take (i := 28) (oi := { dst := some 159, op := Op.call { callee := Callee.value (Operand.func 18), args := #[Operand.tmp 157, Operand.tmp 158], argTypes := #[24, 3] }, type := 4, pos := "keeps.go:45", after := #[{ on := 26, ground := Ground.data }, { on := 27, ground := Ground.data }, { on := 25, ground := Ground.chain }, { on := 25, ground := Ground.guard }], guard := some (25, true) }) (v := undef) rfl (by kernel_rfl) (by kernel_rfl) (by kernel_rfl) (fun _ _ _ h => h) (Or.inr ⟨by rfl, rfl⟩) (by assumption) ?_
                  try simp only [Act.put, List.setIfInBounds_toArray, List.set_cons_zero, List.set_cons_succ]
                  refine wpAnyH_take (i := 29) (oi := { dst := some 160, op := Op.unOp UnOp.not 4 (Operand.tmp 159), type := 4, pos := "keeps.go:45", after := #[{ on := 28, ground := Ground.data }, { on := 25, ground := Ground.guard }], guard := some (25, true) }) (v := undef) rfl (by kernel_rfl) (by kernel_rfl) (by kernel_rfl) (fun _ _ _ h => h) (Or.inr ⟨by rfl, rfl⟩) (by assumption) ?_
                  try simp only [Act.put, List.setIfInBounds_toArray, List.set_cons_zero, List.set_cons_succ]
                  refine wpAnyH_take (i := 30) (oi := { dst := some 161, op := Op.pick (Operand.tmp 156) (Operand.tmp 160) (Operand.const (Value.bool false)), type := 4, pos := "keeps.go:45", after := #[{ on := 25, ground := Ground.data }, { on := 29, ground := Ground.data }, { on := 22, ground := Ground.guard }], guard := some (22, false) }) (v := ?v25) rfl (by kernel_rfl) (by kernel_rfl) (by kernel_rfl) (fun _ _ _ h => h) (Or.inl ⟨by rfl, ?hy25⟩) (by assumption) ?rest25
                  case hy25 => (intro w hSw; (try dsimp only at hSw); go_simp <;> with_reducible rfl)
                  try simp only [Act.put, List.setIfInBounds_toArray, List.set_cons_zero, List.set_cons_succ]
                  refine wpAnyH_take (i := 31) (oi := { dst := some 162, op := Op.pick (Operand.tmp 153) (Operand.const (Value.bool true)) (Operand.tmp 161), type := 4, pos := "keeps.go:45", after := #[{ on := 22, ground := Ground.data }, { on := 30, ground := Ground.data }], guard := none }) (v := ?v26) rfl (by kernel_rfl) (by kernel_rfl) (by kernel_rfl) (fun _ _ _ h => h) (Or.inl ⟨by rfl, ?hy26⟩) (by assumption) ?rest26
                  case hy26 => (intro w hSw; (try dsimp only at hSw); go_simp <;> with_reducible rfl)
                  try simp only [Act.put, List.setIfInBounds_toArray, List.set_cons_zero, List.set_cons_succ]
                  refine wpAnyH_done (by kernel_rfl) ?_ _
                  refine NoPanic.normal ?_
                  clear d0 d1 CELL L1 L2
                  go_wp2
                  go_roundw
                  case rel => exact ⟨j + 1, by go_num, by omega, HQ2⟩
                  case measure => simp [intOf]; omega
              · have HZ : Hid (Bo w _ p ab hb (k + 1)) := ⟨_, _, _, _, HEf.out, HS.out⟩
                have b1 : decide ((j : Int) < 8) = false := by simp; omega
                go_wp2
                go_roundw
                case rel => exact ⟨k + 1, by go_num, by omega, by omega, HZ⟩
                case measure => simp [intOf]; omega
          · have HA : Hid (∀ W, Fs w W p ab hb k q aq had v → Calls Try.prog 10 #[.pointer (some ⟨p, 0, none⟩), .int .i64 r, .int .i64 t] W fun e w' => e = .returned (.tuple #[.int .i64 0, .int .i64 4]) ∧ Fs w w' p ab hb ((k + 1 : Nat) : Int) q aq had v) := fun W h => by
              have := h.ask r t (by omega)
              have e0 : askE 8 q r t = 4 := by
                rcases lok.ask_cases 8 q r t with ⟨e | e, _⟩ | ⟨_, _, _, e⟩ | ⟨_, _, _, e⟩
                · rw [resB_nat hr] at e; cases e
                · rw [taskB_iff.2 ⟨t0, t1⟩] at e; cases e
                · exact e
                · exact absurd e he
              have e : askA 8 q r t = 0 := by unfold askA; rw [if_neg he]
              have e2 : (k : Int) + 1 = ((k + 1 : Nat) : Int) := by omega
              have e3 : askQ 8 q r t = q := by unfold askQ; rw [if_neg he]
              rw [e, e0, e2, e3] at this
              exact this
            clear he pl0
            go_wp2_with (first | (go_at_call 9; ((with_reducible refine (CP1.out _).mono ?_); rintro e wa ⟨rfl, rfl⟩)) | (go_at_call 9; ((with_reducible refine (CP2.out _).mono ?_); rintro e wa ⟨rfl, rfl⟩)) | (go_at_call 9; ((with_reducible refine (CP0.out _).mono ?_); rintro e wa ⟨rfl, rfl⟩)) | (go_at_call 10; ((with_reducible refine (HA.out _ HS0.out).mono ?_); rintro e wb ⟨rfl, hp⟩; have HSg := Lib.hid hp; clear hp)))
            obtain ⟨qq, aa, hh, vv, HEf, HSf⟩ : ∃ qq aa hh vv, Hid (Fe qq aa hh (k + 1)) ∧ Hid (Fs w wb p ab hb ((k + 1 : Nat) : Int) qq aa hh vv) := ⟨q, aq, had, v, HE0.out.more (by omega), HSg⟩
            clear HSg HA
            go_loopw [18] (fun i wq => ∃ j : Nat, i = .int .i64 (j : Int) ∧ j ≤ 8 ∧ Hid (Fs w wq p ab hb ((k + 1 : Nat) : Int) qq aa hh vv)) (fun i _ => 8 - (intOf i).toNat)
            case atStart => exact ⟨0, rfl, by omega, HSf⟩
            case round =>
              clear HSf
              obtain ⟨j, rfl, hj, HS⟩ := hrel
              by_cases hj8 : j < 8
              · have hj' : (j : Int) < 8 := by omega
                have hlen := HEf.out.len hj8
                have hln := HEf.out.ln j hj8
                have hhe := HEf.out.head hj8
                obtain ⟨Aj, cj, hvj, hcj⟩ := HS.out.ror.slice hj8
                have hrl := Lib.hid (HS.out.ror.own j hj8)
                rw [hvj] at hrl
                have CELL : Hid (∀ W, Fs w W p ab hb ((k + 1 : Nat) : Int) qq aa hh vv → W.cell? ⟨ab, j, none⟩ = some (.slice Aj (aa j).length cj) ∧ W.cell? ⟨hb, j, none⟩ = some (.int .i64 (hh j))) := fun W h => ⟨by rw [← hvj]; exact h.ror.cell hj8, h.hrow.cell hj8⟩
                have L1 : Hid (∀ W, Fs w W p ab hb ((k + 1 : Nat) : Int) qq aa hh vv → Calls Try.prog 14 #[.pointer (some ⟨p, 0, none⟩), .int .i64 j] W fun e w' => e = .returned (.int .i64 (lok.hd (qq j))) ∧ Fs w w' p ab hb ((k + 1 : Nat) : Int) qq aa hh vv) := fun W h => h.hold hj8
                have L2 : Hid (∀ W, Fs w W p ab hb ((k + 1 : Nat) : Int) qq aa hh vv → Calls Try.prog 20 #[.pointer (some ⟨p, 0, none⟩), .int .i64 j] W fun e w' => ∃ b, e = .returned (.slice (some ⟨b, 0, none⟩) (qq j).length (qq j).length) ∧ Fs w w' p ab hb ((k + 1 : Nat) : Int) qq aa hh vv) := fun W h => h.que hj8
                have hq1 : ((qq j).length : Int) = ((aa j).length : Int) - (hh j : Int) := by omega
                rcases hhe with ⟨hl1, hl2, hl3, hl4, hl5⟩ | ⟨hl1, hl2⟩
                · have L3 : Hid (∀ W, Fs w W p ab hb ((k + 1 : Nat) : Int) qq aa hh vv → Calls Try.prog 18 #[.pointer (some ⟨p, 0, none⟩), .int .i64 (lok.hd (qq j))] W fun e w' => e = .returned (.bool true) ∧ Fs w w' p ab hb ((k + 1 : Nat) : Int) qq aa hh vv) := fun W h => by
                    have := h.has (lok.hd (qq j)) (inR_small (by omega))
                    rw [hl5] at this
                    exact this
                  obtain ⟨eb, eoff, eA, _, hcl⟩ := (hrl.out.rl (by omega)).1.at_ (by omega)
                  subst eA
                  have d2 := hcl (hh j) hl1
                  rw [hl2] at d2
                  have FR : Hid (∀ W, But No wr W → W.cell? ⟨eb, eoff + hh j, none⟩ = some (.int .i64 (lok.hd (qq j)))) := fun W hb => by
                    have h1 := cell_keep (d2) hb
                    exact h1
                  obtain ⟨d0, d1⟩ := CELL.out _ HS.out
                  generalize lok.hd (qq j) = x at *
                  generalize hqm : (qq j).length = qm at *
                  generalize hgj : hh j = gj at *
                  generalize hmj : (aa j).length = mj at *
                  have b1 : decide ((gj : Int) < (mj : Int)) = true := by simp; omega
                  have b2 : (x != x) = false := by simp
                  have b4 : mj ≤ 300 := by omega
                  have b3 : ((qm : Int) != IntKind.i64.wrap ((mj : Int) - (gj : Int))) = false := by rw [IntWalk.i64_in ((mj : Int) - (gj : Int)) (by omega), hq1]; simp
                  have b5 : (gj : Int) < (mj : Int) := by omega
                  have b6 : decide (0 ≤ x) = true := by simpa using hl3
                  clear hrl hcl hvj hcj hlen hln hl1 hl2 hl3 hl4 hl5 hq1 hqm hgj hmj
                  go_wp2_with fail
                  go_quiet (fail)
                  go_wp2_with fail
                  go_quiet (fail)
                  go_wp2_with fail
                  go_region_held3 (fun w' => w'.cell? ⟨ab, j, none⟩ = some (.slice (some ⟨eb, eoff, none⟩) mj cj) ∧ w'.cell? ⟨hb, j, none⟩ = some (.int .i64 gj))
                    (first | exact CELL.out _ HQ3.out | exact CELL.out _ HQ2.out | exact CELL.out _ HQ1.out | exact CELL.out _ (HS.out.no (by first | exact (((But.refl No _).drewN _).drewN _).drew | exact ((But.refl No _).drewN _).drew | exact (((But.refl No _).drewN _).drewN _).drew.drewN _ | exact ((But.refl No _).drewN _).drew.drewN _ | exact ((But.refl No _).drewN _).drewN _ | exact (But.refl No _).drewN _)))
                    (first | (go_at_call 14; ((with_reducible refine (L1.out _ (HS.out.no (by first | exact (((But.refl No _).drewN _).drewN _).drew | exact ((But.refl No _).drewN _).drew | exact (((But.refl No _).drewN _).drewN _).drew.drewN _ | exact ((But.refl No _).drewN _).drew.drewN _ | exact ((But.refl No _).drewN _).drewN _ | exact (But.refl No _).drewN _))).mono ?_); rintro e wq1 ⟨rfl, hp⟩; have HQ1 := Lib.hid hp; clear hp)) | (go_at_call 20; ((with_reducible refine (L2.out _ HQ1.out).mono ?_); rintro e wq2 ⟨b1, rfl, hp⟩; have HQ2 := Lib.hid hp; clear hp)) | (go_at_call 18; ((with_reducible refine (L3.out _ HQ2.out).mono ?_); rintro e wq3 ⟨rfl, hp⟩; have HQ3 := Lib.hid hp; clear hp)))
                  clear d0 d1 d2 FR CELL L1 L2 L3
                  go_wp2
                  go_roundw
                  case rel => exact ⟨j + 1, by go_num, by omega, HQ3⟩
                  case measure => simp [intOf]; omega
                · obtain ⟨d0, d1⟩ := CELL.out _ HS.out
                  rw [hl2] at L1
                  generalize hqm : (qq j).length = qm at *
                  generalize hgj : hh j = gj at *
                  generalize hmj : (aa j).length = mj at *
                  subst hl1
                  have b1 : decide ((mj : Int) < (mj : Int)) = false := by simp
                  have b4 : mj ≤ 300 := by omega
                  have b3 : ((qm : Int) != IntKind.i64.wrap 0) = false := by rw [show IntKind.i64.wrap 0 = 0 from rfl, hq1]; simp
                  have b6 : decide ((0 : Int) ≤ -1) = false := by decide
                  clear hrl hvj hcj hlen hln hl2 hq1 hqm hgj hmj
                  go_wp2_with fail
                  go_quiet (fail)
                  go_wp2_with fail
                  refine wp_region_noPanic ?_
                  refine wp_region_held_drew (S := (fun w' => w'.cell? ⟨ab, j, none⟩ = some (.slice Aj mj cj) ∧ w'.cell? ⟨hb, j, none⟩ = some (.int .i64 mj))) (by kernel_rfl) (CELL.out _ (HS.out.no (by first | exact (((But.refl No _).drewN _).drewN _).drew | exact ((But.refl No _).drewN _).drew | exact (((But.refl No _).drewN _).drewN _).drew.drewN _ | exact ((But.refl No _).drewN _).drew.drewN _ | exact ((But.refl No _).drewN _).drewN _ | exact (But.refl No _).drewN _))) (fun hHeld => ?_)
                  refine wpAnyH_take (i := 0) (oi := { dst := some 131, op := Op.move (Operand.tmp 4), type := 24, pos := "keeps.go:45", after := #[], guard := none }) (v := ?v27) rfl (by kernel_rfl) (by kernel_rfl) (by kernel_rfl) (fun _ _ _ h => h) (Or.inl ⟨by rfl, ?hy27⟩) (by assumption) ?rest27
                  case hy27 => (intro w hSw; (try dsimp only at hSw); go_simp <;> with_reducible rfl)
                  try simp only [Act.put, List.setIfInBounds_toArray, List.set_cons_zero, List.set_cons_succ]
                  refine wpAnyH_take (i := 1) (oi := { dst := some 132, op := Op.move (Operand.tmp 18), type := 3, pos := "keeps.go:45", after := #[], guard := none }) (v := ?v28) rfl (by kernel_rfl) (by kernel_rfl) (by kernel_rfl) (fun _ _ _ h => h) (Or.inl ⟨by rfl, ?hy28⟩) (by assumption) ?rest28
                  case hy28 => (intro w hSw; (try dsimp only at hSw); go_simp <;> with_reducible rfl)
                  try simp only [Act.put, List.setIfInBounds_toArray, List.set_cons_zero, List.set_cons_succ]
                  refine wpAnyH_take (i := 3) (oi := { dst := some 134, op := Op.move (Operand.tmp 19), type := 3, pos := "keeps.go:45", after := #[], guard := none }) (v := ?v29) rfl (by kernel_rfl) (by kernel_rfl) (by kernel_rfl) (fun _ _ _ h => h) (Or.inl ⟨by rfl, ?hy29⟩) (by assumption) ?rest29
                  case hy29 => (intro w hSw; (try dsimp only at hSw); go_simp <;> with_reducible rfl)
                  try simp only [Act.put, List.setIfInBounds_toArray, List.set_cons_zero, List.set_cons_succ]
                  refine wpAnyH_ready (rs := [2]) (by kernel_rfl) (by simp) ?_
                  refine AllReadyH.cons (o := { dst := some 133, op := Op.call { callee := Callee.value (Operand.func 14), args := #[Operand.tmp 131, Operand.tmp 132], argTypes := #[24, 3] }, type := 3, pos := "keeps.go:45", after := #[{ on := 0, ground := Ground.data }, { on := 1, ground := Ground.data }], guard := none }) rfl (fun K hK => ?_) AllReadyH.nil
                  go_simp
                  go_at_call 14; ((with_reducible refine (L1.out _ (HS.out.no (by first | exact (((But.refl No _).drewN _).drewN _).drew | exact ((But.refl No _).drewN _).drew | exact (((But.refl No _).drewN _).drewN _).drew.drewN _ | exact ((But.refl No _).drewN _).drew.drewN _ | exact ((But.refl No _).drewN _).drewN _ | exact (But.refl No _).drewN _))).mono ?_); rintro e wq1 ⟨rfl, hp⟩; have HQ1 := Lib.hid hp; clear hp)
                  (try go_wp2_with fail)
                  refine hK.out _ _ (CELL.out _ HQ1.out) (fun hHeld => ?_)
                  clear hK K
                  try simp only [Act.put, List.setIfInBounds_toArray, List.set_cons_zero, List.set_cons_succ]
                  refine wpAnyH_take (i := 4) (oi := { dst := some 135, op := Op.binOp BinOp.neq 3 (Operand.tmp 133) (Operand.tmp 134) 3, type := 4, pos := "keeps.go:45", after := #[{ on := 2, ground := Ground.data }, { on := 3, ground := Ground.data }], guard := none }) (v := ?v30) rfl (by kernel_rfl) (by kernel_rfl) (by kernel_rfl) (fun _ _ _ h => h) (Or.inl ⟨by rfl, ?hy30⟩) (by assumption) ?rest30
                  case hy30 => (intro w hSw; (try dsimp only at hSw); go_simp <;> with_reducible rfl)
                  try simp only [Act.put, List.setIfInBounds_toArray, List.set_cons_zero, List.set_cons_succ]
                  refine wpAnyH_take (i := 5) (oi := { dst := some 136, op := Op.move (Operand.tmp 135), type := 4, pos := "keeps.go:45", after := #[{ on := 4, ground := Ground.data }, { on := 2, ground := Ground.chain }], guard := none }) (v := ?v31) rfl (by kernel_rfl) (by kernel_rfl) (by kernel_rfl) (fun _ _ _ h => h) (Or.inl ⟨by rfl, ?hy31⟩) (by assumption) ?rest31
                  case hy31 => (intro w hSw; (try dsimp only at hSw); go_simp <;> with_reducible rfl)
                  try simp only [Act.put, List.setIfInBounds_toArray, List.set_cons_zero, List.set_cons_succ]
                  refine wpAnyH_take (i := 6) (oi := { dst := some 137, op := Op.move (Operand.tmp 4), type := 24, pos := "keeps.go:45", after := #[{ on := 5, ground := Ground.guard }], guard := some (5, false) }) (v := ?v32) rfl (by kernel_rfl) (by kernel_rfl) (by kernel_rfl) (fun _ _ _ h => h) (Or.inl ⟨by rfl, ?hy32⟩) (by assumption) ?rest32
                  case hy32 => (intro w hSw; (try dsimp only at hSw); go_simp <;> with_reducible rfl)
                  try simp only [Act.put, List.setIfInBounds_toArray, List.set_cons_zero, List.set_cons_succ]
                  refine wpAnyH_take (i := 7) (oi := { dst := some 138, op := Op.move (Operand.tmp 18), type := 3, pos := "keeps.go:45", after := #[{ on := 5, ground := Ground.guard }], guard := some (5, false) }) (v := ?v33) rfl (by kernel_rfl) (by kernel_rfl) (by kernel_rfl) (fun _ _ _ h => h) (Or.inl ⟨by rfl, ?hy33⟩) (by assumption) ?rest33
                  case hy33 => (intro w hSw; (try dsimp only at hSw); go_simp <;> with_reducible rfl)
                  try simp only [Act.put, List.setIfInBounds_toArray, List.set_cons_zero, List.set_cons_succ]
                  refine wpAnyH_take (i := 10) (oi := { dst := some 141, op := Op.move (Operand.tmp 6), type := 44, pos := "keeps.go:45", after := #[{ on := 5, ground := Ground.guard }], guard := some (5, false) }) (v := ?v34) rfl (by kernel_rfl) (by kernel_rfl) (by kernel_rfl) (fun _ _ _ h => h) (Or.inl ⟨by rfl, ?hy34⟩) (by assumption) ?rest34
                  case hy34 => (intro w hSw; (try dsimp only at hSw); go_simp <;> with_reducible rfl)
                  try simp only [Act.put, List.setIfInBounds_toArray, List.set_cons_zero, List.set_cons_succ]
                  refine wpAnyH_take (i := 11) (oi := { dst := some 142, op := Op.move (Operand.tmp 18), type := 3, pos := "keeps.go:45", after := #[{ on := 5, ground := Ground.guard }], guard := some (5, false) }) (v := ?v35) rfl (by kernel_rfl) (by kernel_rfl) (by kernel_rfl) (fun _ _ _ h => h) (Or.inl ⟨by rfl, ?hy35⟩) (by assumption) ?rest35
                  case hy35 => (intro w hSw; (try dsimp only at hSw); go_simp <;> with_reducible rfl)
                  try simp only [Act.put, List.setIfInBounds_toArray, List.set_cons_zero, List.set_cons_succ]
                  refine wpAnyH_take (i := 12) (oi := { dst := some 143, op := Op.indexAddr 44 (Operand.tmp 141) (Operand.tmp 142), type := 0, pos := "keeps.go:45", after := #[{ on := 10, ground := Ground.data }, { on := 11, ground := Ground.data }, { on := 5, ground := Ground.guard }], guard := some (5, false) }) (v := ?v36) rfl (by kernel_rfl) (by kernel_rfl) (by kernel_rfl) (fun _ _ _ h => h) (Or.inl ⟨by rfl, ?hy36⟩) (by assumption) ?rest36
                  case hy36 => (intro w hSw; (try dsimp only at hSw); go_simp <;> with_reducible rfl)
                  try simp only [Act.put, List.setIfInBounds_toArray, List.set_cons_zero, List.set_cons_succ]
                  refine wpAnyH_take (i := 13) (oi := { dst := some 144, op := Op.load 41 (Operand.tmp 143), type := 41, pos := "keeps.go:45", after := #[{ on := 12, ground := Ground.data }, { on := 5, ground := Ground.guard }], guard := some (5, false) }) (v := ?v37) rfl (by kernel_rfl) (by kernel_rfl) (by kernel_rfl) (fun _ _ _ h => h) (Or.inl ⟨by rfl, ?hy37⟩) (by assumption) ?rest37
                  case hy37 => (intro w hSw; (try dsimp only at hSw); go_simp <;> with_reducible rfl)
                  try simp only [Act.put, List.setIfInBounds_toArray, List.set_cons_zero, List.set_cons_succ]
                  refine wpAnyH_take (i := 14) (oi := { dst := some 145, op := Op.call { callee := Callee.builtin Builtin.len, args := #[Operand.tmp 144], argTypes := #[41] }, type := 3, pos := "keeps.go:45", after := #[{ on := 13, ground := Ground.data }, { on := 5, ground := Ground.guard }], guard := some (5, false) }) (v := ?v38) rfl (by kernel_rfl) (by kernel_rfl) (by kernel_rfl) (fun _ _ _ h => h) (Or.inl ⟨by rfl, ?hy38⟩) (by assumption) ?rest38
                  case hy38 => (intro w hSw; (try dsimp only at hSw); go_simp <;> with_reducible rfl)
                  try simp only [Act.put, List.setIfInBounds_toArray, List.set_cons_zero, List.set_cons_succ]
                  refine wpAnyH_take (i := 15) (oi := { dst := some 146, op := Op.move (Operand.tmp 7), type := 41, pos := "keeps.go:45", after := #[{ on := 5, ground := Ground.guard }], guard := some (5, false) }) (v := ?v39) rfl (by kernel_rfl) (by kernel_rfl) (by kernel_rfl) (fun _ _ _ h => h) (Or.inl ⟨by rfl, ?hy39⟩) (by assumption) ?rest39
                  case hy39 => (intro w hSw; (try dsimp only at hSw); go_simp <;> with_reducible rfl)
                  try simp only [Act.put, List.setIfInBounds_toArray, List.set_cons_zero, List.set_cons_succ]
                  refine wpAnyH_take (i := 16) (oi := { dst := some 147, op := Op.move (Operand.tmp 18), type := 3, pos := "keeps.go:45", after := #[{ on := 5, ground := Ground.guard }], guard := some (5, false) }) (v := ?v40) rfl (by kernel_rfl) (by kernel_rfl) (by kernel_rfl) (fun _ _ _ h => h) (Or.inl ⟨by rfl, ?hy40⟩) (by assumption) ?rest40
                  case hy40 => (intro w hSw; (try dsimp only at hSw); go_simp <;> with_reducible rfl)
                  try simp only [Act.put, List.setIfInBounds_toArray, List.set_cons_zero, List.set_cons_succ]
                  refine wpAnyH_take (i := 17) (oi := { dst := some 148, op := Op.indexAddr 41 (Operand.tmp 146) (Operand.tmp 147), type := 0, pos := "keeps.go:45", after := #[{ on := 15, ground := Ground.data }, { on := 16, ground := Ground.data }, { on := 5, ground := Ground.guard }], guard := some (5, false) }) (v := ?v41) rfl (by kernel_rfl) (by kernel_rfl) (by kernel_rfl) (fun _ _ _ h => h) (Or.inl ⟨by rfl, ?hy41⟩) (by assumption) ?rest41
                  case hy41 => (intro w hSw; (try dsimp only at hSw); go_simp <;> with_reducible rfl)
                  try simp only [Act.put, List.setIfInBounds_toArray, List.set_cons_zero, List.set_cons_succ]
                  refine wpAnyH_take (i := 18) (oi := { dst := some 149, op := Op.load 3 (Operand.tmp 148), type := 3, pos := "keeps.go:45", after := #[{ on := 17, ground := Ground.data }, { on := 5, ground := Ground.guard }], guard := some (5, false) }) (v := ?v42) rfl (by kernel_rfl) (by kernel_rfl) (by kernel_rfl) (fun _ _ _ h => h) (Or.inl ⟨by rfl, ?hy42⟩) (by assumption) ?rest42
                  case hy42 => (intro w hSw; (try dsimp only at hSw); go_simp <;> with_reducible rfl)
                  try simp only [Act.put, List.setIfInBounds_toArray, List.set_cons_zero, List.set_cons_succ]
                  refine wpAnyH_take (i := 19) (oi := { dst := some 150, op := Op.binOp BinOp.sub 3 (Operand.tmp 145) (Operand.tmp 149) 3, type := 3, pos := "keeps.go:45", after := #[{ on := 14, ground := Ground.data }, { on := 18, ground := Ground.data }, { on := 5, ground := Ground.guard }], guard := some (5, false) }) (v := ?v43) rfl (by kernel_rfl) (by kernel_rfl) (by kernel_rfl) (fun _ _ _ h => h) (Or.inl ⟨by rfl, ?hy43⟩) (by assumption) ?rest43
                  case hy43 => (intro w hSw; (try dsimp only at hSw); go_simp <;> with_reducible rfl)
                  try simp only [Act.put, List.setIfInBounds_toArray, List.set_cons_zero, List.set_cons_succ]
                  refine wpAnyH_ready (rs := [8]) (by kernel_rfl) (by simp) ?_
                  refine AllReadyH.cons (o := { dst := some 139, op := Op.call { callee := Callee.value (Operand.func 20), args := #[Operand.tmp 137, Operand.tmp 138], argTypes := #[24, 3] }, type := 41, pos := "keeps.go:45", after := #[{ on := 6, ground := Ground.data }, { on := 7, ground := Ground.data }, { on := 5, ground := Ground.chain }, { on := 5, ground := Ground.guard }], guard := some (5, false) }) rfl (fun K hK => ?_) AllReadyH.nil
                  go_simp
                  go_at_call 20; ((with_reducible refine (L2.out _ HQ1.out).mono ?_); rintro e wq2 ⟨b1, rfl, hp⟩; have HQ2 := Lib.hid hp; clear hp)
                  (try go_wp2_with fail)
                  refine hK.out _ _ (CELL.out _ HQ2.out) (fun hHeld => ?_)
                  clear hK K
                  try simp only [Act.put, List.setIfInBounds_toArray, List.set_cons_zero, List.set_cons_succ]
                  refine wpAnyH_take (i := 9) (oi := { dst := some 140, op := Op.call { callee := Callee.builtin Builtin.len, args := #[Operand.tmp 139], argTypes := #[41] }, type := 3, pos := "keeps.go:45", after := #[{ on := 8, ground := Ground.data }, { on := 5, ground := Ground.guard }], guard := some (5, false) }) (v := ?v44) rfl (by kernel_rfl) (by kernel_rfl) (by kernel_rfl) (fun _ _ _ h => h) (Or.inl ⟨by rfl, ?hy44⟩) (by assumption) ?rest44
                  case hy44 => (intro w hSw; (try dsimp only at hSw); go_simp <;> with_reducible rfl)
                  try simp only [Act.put, List.setIfInBounds_toArray, List.set_cons_zero, List.set_cons_succ]
                  refine wpAnyH_take (i := 20) (oi := { dst := some 151, op := Op.binOp BinOp.neq 3 (Operand.tmp 140) (Operand.tmp 150) 3, type := 4, pos := "keeps.go:45", after := #[{ on := 9, ground := Ground.data }, { on := 19, ground := Ground.data }, { on := 5, ground := Ground.guard }], guard := some (5, false) }) (v := ?v45) rfl (by kernel_rfl) (by kernel_rfl) (by kernel_rfl) (fun _ _ _ h => h) (Or.inl ⟨by rfl, ?hy45⟩) (by assumption) ?rest45
                  case hy45 => (intro w hSw; (try dsimp only at hSw); go_simp <;> with_reducible rfl)
                  try simp only [Act.put, List.setIfInBounds_toArray, List.set_cons_zero, List.set_cons_succ]
                  refine wpAnyH_take (i := 21) (oi := { dst := some 152, op := Op.pick (Operand.tmp 136) (Operand.const (Value.bool true)) (Operand.tmp 151), type := 4, pos := "keeps.go:45", after := #[{ on := 5, ground := Ground.data }, { on := 20, ground := Ground.data }], guard := none }) (v := ?v46) rfl (by kernel_rfl) (by kernel_rfl) (by kernel_rfl) (fun _ _ _ h => h) (Or.inl ⟨by rfl, ?hy46⟩) (by assumption) ?rest46
                  case hy46 => (intro w hSw; (try dsimp only at hSw); go_simp <;> with_reducible rfl)
                  try simp only [Act.put, List.setIfInBounds_toArray, List.set_cons_zero, List.set_cons_succ]
                  refine wpAnyH_take (i := 22) (oi := { dst := some 153, op := Op.move (Operand.tmp 152), type := 4, pos := "keeps.go:45", after := #[{ on := 21, ground := Ground.data }, { on := 8, ground := Ground.chain }], guard := none }) (v := ?v47) rfl (by kernel_rfl) (by kernel_rfl) (by kernel_rfl) (fun _ _ _ h => h) (Or.inl ⟨by rfl, ?hy47⟩) (by assumption) ?rest47
                  case hy47 => (intro w hSw; (try dsimp only at hSw); go_simp <;> with_reducible rfl)
                  try simp only [Act.put, List.setIfInBounds_toArray, List.set_cons_zero, List.set_cons_succ]
                  refine wpAnyH_take (i := 23) (oi := { dst := some 154, op := Op.move (Operand.tmp 19), type := 3, pos := "keeps.go:45", after := #[{ on := 22, ground := Ground.guard }], guard := some (22, false) }) (v := ?v48) rfl (by kernel_rfl) (by kernel_rfl) (by kernel_rfl) (fun _ _ _ h => h) (Or.inl ⟨by rfl, ?hy48⟩) (by assumption) ?rest48
                  case hy48 => (intro w hSw; (try dsimp only at hSw); go_simp <;> with_reducible rfl)
                  try simp only [Act.put, List.setIfInBounds_toArray, List.set_cons_zero, List.set_cons_succ]
                  refine wpAnyH_take (i := 24) (oi := { dst := some 155, op := Op.binOp BinOp.geq 3 (Operand.tmp 154) (Operand.const (Value.int IntKind.i64 0)) 3, type := 4, pos := "keeps.go:45", after := #[{ on := 23, ground := Ground.data }, { on := 22, ground := Ground.guard }], guard := some (22, false) }) (v := ?v49) rfl (by kernel_rfl) (by kernel_rfl) (by kernel_rfl) (fun _ _ _ h => h) (Or.inl ⟨by rfl, ?hy49⟩) (by assumption) ?rest49
                  case hy49 => (intro w hSw; (try dsimp only at hSw); go_simp <;> with_reducible rfl)
                  try simp only [Act.put, List.setIfInBounds_toArray, List.set_cons_zero, List.set_cons_succ]
                  refine wpAnyH_take (i := 25) (oi := { dst := some 156, op := Op.move (Operand.tmp 155), type := 4, pos := "keeps.go:45", after := #[{ on := 24, ground := Ground.data }, { on := 22, ground := Ground.chain }, { on := 22, ground := Ground.guard }], guard := some (22, false) }) (v := ?v50) rfl (by kernel_rfl) (by kernel_rfl) (by kernel_rfl) (fun _ _ _ h => h) (Or.inl ⟨by rfl, ?hy50⟩) (by assumption) ?rest50
                  case hy50 => (intro w hSw; (try dsimp only at hSw); go_simp <;> with_reducible rfl)
                  try simp only [Act.put, List.setIfInBounds_toArray, List.set_cons_zero, List.set_cons_succ]
                  refine wpAnyH_take (i := 26) (oi := { dst := some 157, op := Op.move (Operand.tmp 4), type := 24, pos := "keeps.go:45", after := #[{ on := 25, ground := Ground.guard }], guard := some (25, true) }) (v := undef) rfl (by kernel_rfl) (by kernel_rfl) (by kernel_rfl) (fun _ _ _ h => h) (Or.inr ⟨by rfl, rfl⟩) (by assumption) ?_
                  try simp only [Act.put, List.setIfInBounds_toArray, List.set_cons_zero, List.set_cons_succ]
                  refine wpAnyH_take (i := 27) (oi := { dst := some 158, op := Op.move (Operand.tmp 19), type := 3, pos := "keeps.go:45", after := #[{ on := 25, ground := Ground.guard }], guard := some (25, true) }) (v := undef) rfl (by kernel_rfl) (by kernel_rfl) (by kernel_rfl) (fun _ _ _ h => h) (Or.inr ⟨by rfl, rfl⟩) (by assumption) ?_
                  try simp only [Act.put, List.setIfInBounds_toArray, List.set_cons_zero, List.set_cons_succ]
                  refine wpAnyH_take (i := 28) (oi := { dst := some 159, op := Op.call { callee := Callee.value (Operand.func 18), args := #[Operand.tmp 157, Operand.tmp 158], argTypes := #[24, 3] }, type := 4, pos := "keeps.go:45", after := #[{ on := 26, ground := Ground.data }, { on := 27, ground := Ground.data }, { on := 25, ground := Ground.chain }, { on := 25, ground := Ground.guard }], guard := some (25, true) }) (v := undef) rfl (by kernel_rfl) (by kernel_rfl) (by kernel_rfl) (fun _ _ _ h => h) (Or.inr ⟨by rfl, rfl⟩) (by assumption) ?_
                  try simp only [Act.put, List.setIfInBounds_toArray, List.set_cons_zero, List.set_cons_succ]
                  refine wpAnyH_take (i := 29) (oi := { dst := some 160, op := Op.unOp UnOp.not 4 (Operand.tmp 159), type := 4, pos := "keeps.go:45", after := #[{ on := 28, ground := Ground.data }, { on := 25, ground := Ground.guard }], guard := some (25, true) }) (v := undef) rfl (by kernel_rfl) (by kernel_rfl) (by kernel_rfl) (fun _ _ _ h => h) (Or.inr ⟨by rfl, rfl⟩) (by assumption) ?_
                  try simp only [Act.put, List.setIfInBounds_toArray, List.set_cons_zero, List.set_cons_succ]
                  refine wpAnyH_take (i := 30) (oi := { dst := some 161, op := Op.pick (Operand.tmp 156) (Operand.tmp 160) (Operand.const (Value.bool false)), type := 4, pos := "keeps.go:45", after := #[{ on := 25, ground := Ground.data }, { on := 29, ground := Ground.data }, { on := 22, ground := Ground.guard }], guard := some (22, false) }) (v := ?v51) rfl (by kernel_rfl) (by kernel_rfl) (by kernel_rfl) (fun _ _ _ h => h) (Or.inl ⟨by rfl, ?hy51⟩) (by assumption) ?rest51
                  case hy51 => (intro w hSw; (try dsimp only at hSw); go_simp <;> with_reducible rfl)
                  try simp only [Act.put, List.setIfInBounds_toArray, List.set_cons_zero, List.set_cons_succ]
                  refine wpAnyH_take (i := 31) (oi := { dst := some 162, op := Op.pick (Operand.tmp 153) (Operand.const (Value.bool true)) (Operand.tmp 161), type := 4, pos := "keeps.go:45", after := #[{ on := 22, ground := Ground.data }, { on := 30, ground := Ground.data }], guard := none }) (v := ?v52) rfl (by kernel_rfl) (by kernel_rfl) (by kernel_rfl) (fun _ _ _ h => h) (Or.inl ⟨by rfl, ?hy52⟩) (by assumption) ?rest52
                  case hy52 => (intro w hSw; (try dsimp only at hSw); go_simp <;> with_reducible rfl)
                  try simp only [Act.put, List.setIfInBounds_toArray, List.set_cons_zero, List.set_cons_succ]
                  refine wpAnyH_done (by kernel_rfl) ?_ _
                  refine NoPanic.normal ?_
                  clear d0 d1 CELL L1 L2
                  go_wp2
                  go_roundw
                  case rel => exact ⟨j + 1, by go_num, by omega, HQ2⟩
                  case measure => simp [intOf]; omega
              · have HZ : Hid (Bo w _ p ab hb (k + 1)) := ⟨_, _, _, _, HEf.out, HS.out⟩
                have b1 : decide ((j : Int) < 8) = false := by simp; omega
                go_wp2
                go_roundw
                case rel => exact ⟨k + 1, by go_num, by omega, by omega, HZ⟩
                case measure => simp [intOf]; omega
        · rcases (show hasV 8 q t = true ∨ hasV 8 q t = false by cases hasV 8 q t <;> simp) with hh0 | hh0
          · obtain ⟨r2, hr2, hw2, hfe⟩ := HE0.out.fre hh0
            have HEf := Lib.hid (hfe.more (N' := k + 1) (by omega))
            have A1 : Hid (∀ W, Fs w W p ab hb k q aq had v → Calls Try.prog 16 #[.pointer (some ⟨p, 0, none⟩), .int .i64 t] W fun e w' => e = .returned (.int .i64 (r2 : Int)) ∧ Fs w w' p ab hb k q aq had v) := fun W h => by have := h.wants t HT.out; rw [hw2] at this; exact this
            have A2 : Hid (∀ W, Fs w W p ab hb k q aq had v → Calls Try.prog 18 #[.pointer (some ⟨p, 0, none⟩), .int .i64 t] W fun e w' => e = .returned (.bool true) ∧ Fs w w' p ab hb k q aq had v) := fun W h => by have := h.has t HT.out; rw [hh0] at this; exact this
            have A3 : Hid (∀ W, Fs w W p ab hb k q aq had v → Calls Try.prog 12 #[.pointer (some ⟨p, 0, none⟩), .int .i64 t] W fun e w' => e = .returned (.tuple #[.int .i64 (freA 8 q t), .int .i64 0]) ∧ Fs w w' p ab hb k (freQ 8 q t) aq had v) := fun W h => by
              have := h.fre t HT.out
              have e : freE 8 q t = 0 := by unfold freE; rw [if_pos hh0]
              rw [e] at this
              exact this
            have hln := HE0.out.ln r2 hr2
            have hle := HE0.out.le r2 hr2
            have BUMP : Hid (∀ W, Fs w W p ab hb k (freQ 8 q t) aq had v → W.cell? ⟨hb, r2, none⟩ = some (.int .i64 (had r2)) ∧ W.frozen? ⟨hb, r2, none⟩ = false ∧ Fs w (W.setCell ⟨hb, r2, none⟩ (.int .i64 ((had r2 : Int) + 1))) p ab hb ((k + 1 : Nat) : Int) (freQ 8 q t) aq (updn had r2 (had r2 + 1)) v) := fun W h => by
              have h1 := (h.bump (r := r2)).more (N' := ((k + 1 : Nat) : Int)) (by omega)
              have e : ((had r2 + 1 : Nat) : Int) = (had r2 : Int) + 1 := by omega
              rw [e] at h1
              exact ⟨h.hrow.cell hr2, Vals.frozen h.hrow r2, h1⟩
            have hh1 : (had r2 : Int) ≤ 300 := by omega
            have hr2' : (r2 : Int) < 8 := by omega
            obtain ⟨qq, hqq⟩ : ∃ qq, freQ 8 q t = qq := ⟨_, rfl⟩
            obtain ⟨hh, hhh⟩ : ∃ hh, updn had r2 (had r2 + 1) = hh := ⟨_, rfl⟩
            rw [hqq] at A3 BUMP HEf
            rw [hhh] at BUMP HEf
            generalize freA 8 q t = xa at *
            generalize had r2 = g at *
            clear hqq hhh hfe hw2 hln hle hh0 pl0
            go_wp2_with (first | (go_at_call 9; ((with_reducible refine (CP1.out _).mono ?_); rintro e wa ⟨rfl, rfl⟩)) | (go_at_call 9; ((with_reducible refine (CP2.out _).mono ?_); rintro e wa ⟨rfl, rfl⟩)) | (go_at_call 9; ((with_reducible refine (CP0.out _).mono ?_); rintro e wa ⟨rfl, rfl⟩)) | (go_at_call 16; ((with_reducible refine (A1.out _ HS0.out).mono ?_); rintro e wb ⟨rfl, hp⟩; have HS1 := Lib.hid hp; clear hp)) | (go_at_call 18; ((with_reducible refine (A2.out _ HS1.out).mono ?_); rintro e wc ⟨rfl, hp⟩; have HS2 := Lib.hid hp; clear hp)) | (go_at_call 12; ((with_reducible refine (A3.out _ HS2.out).mono ?_); rintro e wd ⟨rfl, hp⟩; have HS3 := Lib.hid hp; obtain ⟨d1, hfz, _⟩ := BUMP.out _ hp; clear hp)))
            have HSg := Lib.hid (BUMP.out _ HS3.out).2.2
            clear d1 hfz BUMP A1 A2 A3 HS1 HS2 HS3
            obtain ⟨aa, vv, HEf, HSf⟩ : ∃ aa vv, Hid (Fe qq aa hh (k + 1)) ∧ Hid (Fs w (wd.setCell ⟨hb, r2, none⟩ (.int .i64 ((g : Int) + 1))) p ab hb ((k + 1 : Nat) : Int) qq aa hh vv) := ⟨_, _, HEf, HSg⟩
            clear HSg
            go_loopw [18] (fun i wq => ∃ j : Nat, i = .int .i64 (j : Int) ∧ j ≤ 8 ∧ Hid (Fs w wq p ab hb ((k + 1 : Nat) : Int) qq aa hh vv)) (fun i _ => 8 - (intOf i).toNat)
            case atStart => exact ⟨0, rfl, by omega, HSf⟩
            case round =>
              clear HSf
              obtain ⟨j, rfl, hj, HS⟩ := hrel
              by_cases hj8 : j < 8
              · have hj' : (j : Int) < 8 := by omega
                have hlen := HEf.out.len hj8
                have hln := HEf.out.ln j hj8
                have hhe := HEf.out.head hj8
                obtain ⟨Aj, cj, hvj, hcj⟩ := HS.out.ror.slice hj8
                have hrl := Lib.hid (HS.out.ror.own j hj8)
                rw [hvj] at hrl
                have CELL : Hid (∀ W, Fs w W p ab hb ((k + 1 : Nat) : Int) qq aa hh vv → W.cell? ⟨ab, j, none⟩ = some (.slice Aj (aa j).length cj) ∧ W.cell? ⟨hb, j, none⟩ = some (.int .i64 (hh j))) := fun W h => ⟨by rw [← hvj]; exact h.ror.cell hj8, h.hrow.cell hj8⟩
                have L1 : Hid (∀ W, Fs w W p ab hb ((k + 1 : Nat) : Int) qq aa hh vv → Calls Try.prog 14 #[.pointer (some ⟨p, 0, none⟩), .int .i64 j] W fun e w' => e = .returned (.int .i64 (lok.hd (qq j))) ∧ Fs w w' p ab hb ((k + 1 : Nat) : Int) qq aa hh vv) := fun W h => h.hold hj8
                have L2 : Hid (∀ W, Fs w W p ab hb ((k + 1 : Nat) : Int) qq aa hh vv → Calls Try.prog 20 #[.pointer (some ⟨p, 0, none⟩), .int .i64 j] W fun e w' => ∃ b, e = .returned (.slice (some ⟨b, 0, none⟩) (qq j).length (qq j).length) ∧ Fs w w' p ab hb ((k + 1 : Nat) : Int) qq aa hh vv) := fun W h => h.que hj8
                have hq1 : ((qq j).length : Int) = ((aa j).length : Int) - (hh j : Int) := by omega
                rcases hhe with ⟨hl1, hl2, hl3, hl4, hl5⟩ | ⟨hl1, hl2⟩
                · have L3 : Hid (∀ W, Fs w W p ab hb ((k + 1 : Nat) : Int) qq aa hh vv → Calls Try.prog 18 #[.pointer (some ⟨p, 0, none⟩), .int .i64 (lok.hd (qq j))] W fun e w' => e = .returned (.bool true) ∧ Fs w w' p ab hb ((k + 1 : Nat) : Int) qq aa hh vv) := fun W h => by
                    have := h.has (lok.hd (qq j)) (inR_small (by omega))
                    rw [hl5] at this
                    exact this
                  obtain ⟨eb, eoff, eA, _, hcl⟩ := (hrl.out.rl (by omega)).1.at_ (by omega)
                  subst eA
                  have d2 := hcl (hh j) hl1
                  rw [hl2] at d2
                  have FR : Hid (∀ W, But No wr W → W.cell? ⟨eb, eoff + hh j, none⟩ = some (.int .i64 (lok.hd (qq j)))) := fun W hb => by
                    have h1 := cell_keep (d2) hb
                    exact h1
                  obtain ⟨d0, d1⟩ := CELL.out _ HS.out
                  generalize lok.hd (qq j) = x at *
                  generalize hqm : (qq j).length = qm at *
                  generalize hgj : hh j = gj at *
                  generalize hmj : (aa j).length = mj at *
                  have b1 : decide ((gj : Int) < (mj : Int)) = true := by simp; omega
                  have b2 : (x != x) = false := by simp
                  have b4 : mj ≤ 300 := by omega
                  have b3 : ((qm : Int) != IntKind.i64.wrap ((mj : Int) - (gj : Int))) = false := by rw [IntWalk.i64_in ((mj : Int) - (gj : Int)) (by omega), hq1]; simp
                  have b5 : (gj : Int) < (mj : Int) := by omega
                  have b6 : decide (0 ≤ x) = true := by simpa using hl3
                  clear hrl hcl hvj hcj hlen hln hl1 hl2 hl3 hl4 hl5 hq1 hqm hgj hmj
                  go_wp2_with fail
                  go_quiet (fail)
                  go_wp2_with fail
                  go_quiet (fail)
                  go_wp2_with fail
                  go_region_held3 (fun w' => w'.cell? ⟨ab, j, none⟩ = some (.slice (some ⟨eb, eoff, none⟩) mj cj) ∧ w'.cell? ⟨hb, j, none⟩ = some (.int .i64 gj))
                    (first | exact CELL.out _ HQ3.out | exact CELL.out _ HQ2.out | exact CELL.out _ HQ1.out | exact CELL.out _ (HS.out.no (by first | exact (((But.refl No _).drewN _).drewN _).drew | exact ((But.refl No _).drewN _).drew | exact (((But.refl No _).drewN _).drewN _).drew.drewN _ | exact ((But.refl No _).drewN _).drew.drewN _ | exact ((But.refl No _).drewN _).drewN _ | exact (But.refl No _).drewN _)))
                    (first | (go_at_call 14; ((with_reducible refine (L1.out _ (HS.out.no (by first | exact (((But.refl No _).drewN _).drewN _).drew | exact ((But.refl No _).drewN _).drew | exact (((But.refl No _).drewN _).drewN _).drew.drewN _ | exact ((But.refl No _).drewN _).drew.drewN _ | exact ((But.refl No _).drewN _).drewN _ | exact (But.refl No _).drewN _))).mono ?_); rintro e wq1 ⟨rfl, hp⟩; have HQ1 := Lib.hid hp; clear hp)) | (go_at_call 20; ((with_reducible refine (L2.out _ HQ1.out).mono ?_); rintro e wq2 ⟨b1, rfl, hp⟩; have HQ2 := Lib.hid hp; clear hp)) | (go_at_call 18; ((with_reducible refine (L3.out _ HQ2.out).mono ?_); rintro e wq3 ⟨rfl, hp⟩; have HQ3 := Lib.hid hp; clear hp)))
                  clear d0 d1 d2 FR CELL L1 L2 L3
                  go_wp2
                  go_roundw
                  case rel => exact ⟨j + 1, by go_num, by omega, HQ3⟩
                  case measure => simp [intOf]; omega
                · obtain ⟨d0, d1⟩ := CELL.out _ HS.out
                  rw [hl2] at L1
                  generalize hqm : (qq j).length = qm at *
                  generalize hgj : hh j = gj at *
                  generalize hmj : (aa j).length = mj at *
                  subst hl1
                  have b1 : decide ((mj : Int) < (mj : Int)) = false := by simp
                  have b4 : mj ≤ 300 := by omega
                  have b3 : ((qm : Int) != IntKind.i64.wrap 0) = false := by rw [show IntKind.i64.wrap 0 = 0 from rfl, hq1]; simp
                  have b6 : decide ((0 : Int) ≤ -1) = false := by decide
                  clear hrl hvj hcj hlen hln hl2 hq1 hqm hgj hmj
                  go_wp2_with fail
                  go_quiet (fail)
                  go_wp2_with fail
                  refine wp_region_noPanic ?_
                  refine wp_region_held_drew (S := (fun w' => w'.cell? ⟨ab, j, none⟩ = some (.slice Aj mj cj) ∧ w'.cell? ⟨hb, j, none⟩ = some (.int .i64 mj))) (by kernel_rfl) (CELL.out _ (HS.out.no (by first | exact (((But.refl No _).drewN _).drewN _).drew | exact ((But.refl No _).drewN _).drew | exact (((But.refl No _).drewN _).drewN _).drew.drewN _ | exact ((But.refl No _).drewN _).drew.drewN _ | exact ((But.refl No _).drewN _).drewN _ | exact (But.refl No _).drewN _))) (fun hHeld => ?_)
                  refine wpAnyH_take (i := 0) (oi := { dst := some 131, op := Op.move (Operand.tmp 4), type := 24, pos := "keeps.go:45", after := #[], guard := none }) (v := ?v53) rfl (by kernel_rfl) (by kernel_rfl) (by kernel_rfl) (fun _ _ _ h => h) (Or.inl ⟨by rfl, ?hy53⟩) (by assumption) ?rest53
                  case hy53 => (intro w hSw; (try dsimp only at hSw); go_simp <;> with_reducible rfl)
                  try simp only [Act.put, List.setIfInBounds_toArray, List.set_cons_zero, List.set_cons_succ]
                  refine wpAnyH_take (i := 1) (oi := { dst := some 132, op := Op.move (Operand.tmp 18), type := 3, pos := "keeps.go:45", after := #[], guard := none }) (v := ?v54) rfl (by kernel_rfl) (by kernel_rfl) (by kernel_rfl) (fun _ _ _ h => h) (Or.inl ⟨by rfl, ?hy54⟩) (by assumption) ?rest54
                  case hy54 => (intro w hSw; (try dsimp only at hSw); go_simp <;> with_reducible rfl)
                  try simp only [Act.put, List.setIfInBounds_toArray, List.set_cons_zero, List.set_cons_succ]
                  refine wpAnyH_take (i := 3) (oi := { dst := some 134, op := Op.move (Operand.tmp 19), type := 3, pos := "keeps.go:45", after := #[], guard := none }) (v := ?v55) rfl (by kernel_rfl) (by kernel_rfl) (by kernel_rfl) (fun _ _ _ h => h) (Or.inl ⟨by rfl, ?hy55⟩) (by assumption) ?rest55
                  case hy55 => (intro w hSw; (try dsimp only at hSw); go_simp <;> with_reducible rfl)
                  try simp only [Act.put, List.setIfInBounds_toArray, List.set_cons_zero, List.set_cons_succ]
                  refine wpAnyH_ready (rs := [2]) (by kernel_rfl) (by simp) ?_
                  refine AllReadyH.cons (o := { dst := some 133, op := Op.call { callee := Callee.value (Operand.func 14), args := #[Operand.tmp 131, Operand.tmp 132], argTypes := #[24, 3] }, type := 3, pos := "keeps.go:45", after := #[{ on := 0, ground := Ground.data }, { on := 1, ground := Ground.data }], guard := none }) rfl (fun K hK => ?_) AllReadyH.nil
                  go_simp
                  go_at_call 14; ((with_reducible refine (L1.out _ (HS.out.no (by first | exact (((But.refl No _).drewN _).drewN _).drew | exact ((But.refl No _).drewN _).drew | exact (((But.refl No _).drewN _).drewN _).drew.drewN _ | exact ((But.refl No _).drewN _).drew.drewN _ | exact ((But.refl No _).drewN _).drewN _ | exact (But.refl No _).drewN _))).mono ?_); rintro e wq1 ⟨rfl, hp⟩; have HQ1 := Lib.hid hp; clear hp)
                  (try go_wp2_with fail)
                  refine hK.out _ _ (CELL.out _ HQ1.out) (fun hHeld => ?_)
                  clear hK K
                  try simp only [Act.put, List.setIfInBounds_toArray, List.set_cons_zero, List.set_cons_succ]
                  refine wpAnyH_take (i := 4) (oi := { dst := some 135, op := Op.binOp BinOp.neq 3 (Operand.tmp 133) (Operand.tmp 134) 3, type := 4, pos := "keeps.go:45", after := #[{ on := 2, ground := Ground.data }, { on := 3, ground := Ground.data }], guard := none }) (v := ?v56) rfl (by kernel_rfl) (by kernel_rfl) (by kernel_rfl) (fun _ _ _ h => h) (Or.inl ⟨by rfl, ?hy56⟩) (by assumption) ?rest56
                  case hy56 => (intro w hSw; (try dsimp only at hSw); go_simp <;> with_reducible rfl)
                  try simp only [Act.put, List.setIfInBounds_toArray, List.set_cons_zero, List.set_cons_succ]
                  refine wpAnyH_take (i := 5) (oi := { dst := some 136, op := Op.move (Operand.tmp 135), type := 4, pos := "keeps.go:45", after := #[{ on := 4, ground := Ground.data }, { on := 2, ground := Ground.chain }], guard := none }) (v := ?v57) rfl (by kernel_rfl) (by kernel_rfl) (by kernel_rfl) (fun _ _ _ h => h) (Or.inl ⟨by rfl, ?hy57⟩) (by assumption) ?rest57
                  case hy57 => (intro w hSw; (try dsimp only at hSw); go_simp <;> with_reducible rfl)
                  try simp only [Act.put, List.setIfInBounds_toArray, List.set_cons_zero, List.set_cons_succ]
                  refine wpAnyH_take (i := 6) (oi := { dst := some 137, op := Op.move (Operand.tmp 4), type := 24, pos := "keeps.go:45", after := #[{ on := 5, ground := Ground.guard }], guard := some (5, false) }) (v := ?v58) rfl (by kernel_rfl) (by kernel_rfl) (by kernel_rfl) (fun _ _ _ h => h) (Or.inl ⟨by rfl, ?hy58⟩) (by assumption) ?rest58
                  case hy58 => (intro w hSw; (try dsimp only at hSw); go_simp <;> with_reducible rfl)
                  try simp only [Act.put, List.setIfInBounds_toArray, List.set_cons_zero, List.set_cons_succ]
                  refine wpAnyH_take (i := 7) (oi := { dst := some 138, op := Op.move (Operand.tmp 18), type := 3, pos := "keeps.go:45", after := #[{ on := 5, ground := Ground.guard }], guard := some (5, false) }) (v := ?v59) rfl (by kernel_rfl) (by kernel_rfl) (by kernel_rfl) (fun _ _ _ h => h) (Or.inl ⟨by rfl, ?hy59⟩) (by assumption) ?rest59
                  case hy59 => (intro w hSw; (try dsimp only at hSw); go_simp <;> with_reducible rfl)
                  try simp only [Act.put, List.setIfInBounds_toArray, List.set_cons_zero, List.set_cons_succ]
                  refine wpAnyH_take (i := 10) (oi := { dst := some 141, op := Op.move (Operand.tmp 6), type := 44, pos := "keeps.go:45", after := #[{ on := 5, ground := Ground.guard }], guard := some (5, false) }) (v := ?v60) rfl (by kernel_rfl) (by kernel_rfl) (by kernel_rfl) (fun _ _ _ h => h) (Or.inl ⟨by rfl, ?hy60⟩) (by assumption) ?rest60
                  case hy60 => (intro w hSw; (try dsimp only at hSw); go_simp <;> with_reducible rfl)
                  try simp only [Act.put, List.setIfInBounds_toArray, List.set_cons_zero, List.set_cons_succ]
                  refine wpAnyH_take (i := 11) (oi := { dst := some 142, op := Op.move (Operand.tmp 18), type := 3, pos := "keeps.go:45", after := #[{ on := 5, ground := Ground.guard }], guard := some (5, false) }) (v := ?v61) rfl (by kernel_rfl) (by kernel_rfl) (by kernel_rfl) (fun _ _ _ h => h) (Or.inl ⟨by rfl, ?hy61⟩) (by assumption) ?rest61
                  case hy61 => (intro w hSw; (try dsimp only at hSw); go_simp <;> with_reducible rfl)
                  try simp only [Act.put, List.setIfInBounds_toArray, List.set_cons_zero, List.set_cons_succ]
                  refine wpAnyH_take (i := 12) (oi := { dst := some 143, op := Op.indexAddr 44 (Operand.tmp 141) (Operand.tmp 142), type := 0, pos := "keeps.go:45", after := #[{ on := 10, ground := Ground.data }, { on := 11, ground := Ground.data }, { on := 5, ground := Ground.guard }], guard := some (5, false) }) (v := ?v62) rfl (by kernel_rfl) (by kernel_rfl) (by kernel_rfl) (fun _ _ _ h => h) (Or.inl ⟨by rfl, ?hy62⟩) (by assumption) ?rest62
                  case hy62 => (intro w hSw; (try dsimp only at hSw); go_simp <;> with_reducible rfl)
                  try simp only [Act.put, List.setIfInBounds_toArray, List.set_cons_zero, List.set_cons_succ]
                  refine wpAnyH_take (i := 13) (oi := { dst := some 144, op := Op.load 41 (Operand.tmp 143), type := 41, pos := "keeps.go:45", after := #[{ on := 12, ground := Ground.data }, { on := 5, ground := Ground.guard }], guard := some (5, false) }) (v := ?v63) rfl (by kernel_rfl) (by kernel_rfl) (by kernel_rfl) (fun _ _ _ h => h) (Or.inl ⟨by rfl, ?hy63⟩) (by assumption) ?rest63
                  case hy63 => (intro w hSw; (try dsimp only at hSw); go_simp <;> with_reducible rfl)
                  try simp only [Act.put, List.setIfInBounds_toArray, List.set_cons_zero, List.set_cons_succ]
                  refine wpAnyH_take (i := 14) (oi := { dst := some 145, op := Op.call { callee := Callee.builtin Builtin.len, args := #[Operand.tmp 144], argTypes := #[41] }, type := 3, pos := "keeps.go:45", after := #[{ on := 13, ground := Ground.data }, { on := 5, ground := Ground.guard }], guard := some (5, false) }) (v := ?v64) rfl (by kernel_rfl) (by kernel_rfl) (by kernel_rfl) (fun _ _ _ h => h) (Or.inl ⟨by rfl, ?hy64⟩) (by assumption) ?rest64
                  case hy64 => (intro w hSw; (try dsimp only at hSw); go_simp <;> with_reducible rfl)
                  try simp only [Act.put, List.setIfInBounds_toArray, List.set_cons_zero, List.set_cons_succ]
                  refine wpAnyH_take (i := 15) (oi := { dst := some 146, op := Op.move (Operand.tmp 7), type := 41, pos := "keeps.go:45", after := #[{ on := 5, ground := Ground.guard }], guard := some (5, false) }) (v := ?v65) rfl (by kernel_rfl) (by kernel_rfl) (by kernel_rfl) (fun _ _ _ h => h) (Or.inl ⟨by rfl, ?hy65⟩) (by assumption) ?rest65
                  case hy65 => (intro w hSw; (try dsimp only at hSw); go_simp <;> with_reducible rfl)
                  try simp only [Act.put, List.setIfInBounds_toArray, List.set_cons_zero, List.set_cons_succ]
                  refine wpAnyH_take (i := 16) (oi := { dst := some 147, op := Op.move (Operand.tmp 18), type := 3, pos := "keeps.go:45", after := #[{ on := 5, ground := Ground.guard }], guard := some (5, false) }) (v := ?v66) rfl (by kernel_rfl) (by kernel_rfl) (by kernel_rfl) (fun _ _ _ h => h) (Or.inl ⟨by rfl, ?hy66⟩) (by assumption) ?rest66
                  case hy66 => (intro w hSw; (try dsimp only at hSw); go_simp <;> with_reducible rfl)
                  try simp only [Act.put, List.setIfInBounds_toArray, List.set_cons_zero, List.set_cons_succ]
                  refine wpAnyH_take (i := 17) (oi := { dst := some 148, op := Op.indexAddr 41 (Operand.tmp 146) (Operand.tmp 147), type := 0, pos := "keeps.go:45", after := #[{ on := 15, ground := Ground.data }, { on := 16, ground := Ground.data }, { on := 5, ground := Ground.guard }], guard := some (5, false) }) (v := ?v67) rfl (by kernel_rfl) (by kernel_rfl) (by kernel_rfl) (fun _ _ _ h => h) (Or.inl ⟨by rfl, ?hy67⟩) (by assumption) ?rest67
                  case hy67 => (intro w hSw; (try dsimp only at hSw); go_simp <;> with_reducible rfl)
                  try simp only [Act.put, List.setIfInBounds_toArray, List.set_cons_zero, List.set_cons_succ]
                  refine wpAnyH_take (i := 18) (oi := { dst := some 149, op := Op.load 3 (Operand.tmp 148), type := 3, pos := "keeps.go:45", after := #[{ on := 17, ground := Ground.data }, { on := 5, ground := Ground.guard }], guard := some (5, false) }) (v := ?v68) rfl (by kernel_rfl) (by kernel_rfl) (by kernel_rfl) (fun _ _ _ h => h) (Or.inl ⟨by rfl, ?hy68⟩) (by assumption) ?rest68
                  case hy68 => (intro w hSw; (try dsimp only at hSw); go_simp <;> with_reducible rfl)
                  try simp only [Act.put, List.setIfInBounds_toArray, List.set_cons_zero, List.set_cons_succ]
                  refine wpAnyH_take (i := 19) (oi := { dst := some 150, op := Op.binOp BinOp.sub 3 (Operand.tmp 145) (Operand.tmp 149) 3, type := 3, pos := "keeps.go:45", after := #[{ on := 14, ground := Ground.data }, { on := 18, ground := Ground.data }, { on := 5, ground := Ground.guard }], guard := some (5, false) }) (v := ?v69) rfl (by kernel_rfl) (by kernel_rfl) (by kernel_rfl) (fun _ _ _ h => h) (Or.inl ⟨by rfl, ?hy69⟩) (by assumption) ?rest69
                  case hy69 => (intro w hSw; (try dsimp only at hSw); go_simp <;> with_reducible rfl)
                  try simp only [Act.put, List.setIfInBounds_toArray, List.set_cons_zero, List.set_cons_succ]
                  refine wpAnyH_ready (rs := [8]) (by kernel_rfl) (by simp) ?_
                  refine AllReadyH.cons (o := { dst := some 139, op := Op.call { callee := Callee.value (Operand.func 20), args := #[Operand.tmp 137, Operand.tmp 138], argTypes := #[24, 3] }, type := 41, pos := "keeps.go:45", after := #[{ on := 6, ground := Ground.data }, { on := 7, ground := Ground.data }, { on := 5, ground := Ground.chain }, { on := 5, ground := Ground.guard }], guard := some (5, false) }) rfl (fun K hK => ?_) AllReadyH.nil
                  go_simp
                  go_at_call 20; ((with_reducible refine (L2.out _ HQ1.out).mono ?_); rintro e wq2 ⟨b1, rfl, hp⟩; have HQ2 := Lib.hid hp; clear hp)
                  (try go_wp2_with fail)
                  refine hK.out _ _ (CELL.out _ HQ2.out) (fun hHeld => ?_)
                  clear hK K
                  try simp only [Act.put, List.setIfInBounds_toArray, List.set_cons_zero, List.set_cons_succ]
                  refine wpAnyH_take (i := 9) (oi := { dst := some 140, op := Op.call { callee := Callee.builtin Builtin.len, args := #[Operand.tmp 139], argTypes := #[41] }, type := 3, pos := "keeps.go:45", after := #[{ on := 8, ground := Ground.data }, { on := 5, ground := Ground.guard }], guard := some (5, false) }) (v := ?v70) rfl (by kernel_rfl) (by kernel_rfl) (by kernel_rfl) (fun _ _ _ h => h) (Or.inl ⟨by rfl, ?hy70⟩) (by assumption) ?rest70
                  case hy70 => (intro w hSw; (try dsimp only at hSw); go_simp <;> with_reducible rfl)
                  try simp only [Act.put, List.setIfInBounds_toArray, List.set_cons_zero, List.set_cons_succ]
                  refine wpAnyH_take (i := 20) (oi := { dst := some 151, op := Op.binOp BinOp.neq 3 (Operand.tmp 140) (Operand.tmp 150) 3, type := 4, pos := "keeps.go:45", after := #[{ on := 9, ground := Ground.data }, { on := 19, ground := Ground.data }, { on := 5, ground := Ground.guard }], guard := some (5, false) }) (v := ?v71) rfl (by kernel_rfl) (by kernel_rfl) (by kernel_rfl) (fun _ _ _ h => h) (Or.inl ⟨by rfl, ?hy71⟩) (by assumption) ?rest71
                  case hy71 => (intro w hSw; (try dsimp only at hSw); go_simp <;> with_reducible rfl)
                  try simp only [Act.put, List.setIfInBounds_toArray, List.set_cons_zero, List.set_cons_succ]
                  refine wpAnyH_take (i := 21) (oi := { dst := some 152, op := Op.pick (Operand.tmp 136) (Operand.const (Value.bool true)) (Operand.tmp 151), type := 4, pos := "keeps.go:45", after := #[{ on := 5, ground := Ground.data }, { on := 20, ground := Ground.data }], guard := none }) (v := ?v72) rfl (by kernel_rfl) (by kernel_rfl) (by kernel_rfl) (fun _ _ _ h => h) (Or.inl ⟨by rfl, ?hy72⟩) (by assumption) ?rest72
                  case hy72 => (intro w hSw; (try dsimp only at hSw); go_simp <;> with_reducible rfl)
                  try simp only [Act.put, List.setIfInBounds_toArray, List.set_cons_zero, List.set_cons_succ]
                  refine wpAnyH_take (i := 22) (oi := { dst := some 153, op := Op.move (Operand.tmp 152), type := 4, pos := "keeps.go:45", after := #[{ on := 21, ground := Ground.data }, { on := 8, ground := Ground.chain }], guard := none }) (v := ?v73) rfl (by kernel_rfl) (by kernel_rfl) (by kernel_rfl) (fun _ _ _ h => h) (Or.inl ⟨by rfl, ?hy73⟩) (by assumption) ?rest73
                  case hy73 => (intro w hSw; (try dsimp only at hSw); go_simp <;> with_reducible rfl)
                  try simp only [Act.put, List.setIfInBounds_toArray, List.set_cons_zero, List.set_cons_succ]
                  refine wpAnyH_take (i := 23) (oi := { dst := some 154, op := Op.move (Operand.tmp 19), type := 3, pos := "keeps.go:45", after := #[{ on := 22, ground := Ground.guard }], guard := some (22, false) }) (v := ?v74) rfl (by kernel_rfl) (by kernel_rfl) (by kernel_rfl) (fun _ _ _ h => h) (Or.inl ⟨by rfl, ?hy74⟩) (by assumption) ?rest74
                  case hy74 => (intro w hSw; (try dsimp only at hSw); go_simp <;> with_reducible rfl)
                  try simp only [Act.put, List.setIfInBounds_toArray, List.set_cons_zero, List.set_cons_succ]
                  refine wpAnyH_take (i := 24) (oi := { dst := some 155, op := Op.binOp BinOp.geq 3 (Operand.tmp 154) (Operand.const (Value.int IntKind.i64 0)) 3, type := 4, pos := "keeps.go:45", after := #[{ on := 23, ground := Ground.data }, { on := 22, ground := Ground.guard }], guard := some (22, false) }) (v := ?v75) rfl (by kernel_rfl) (by kernel_rfl) (by kernel_rfl) (fun _ _ _ h => h) (Or.inl ⟨by rfl, ?hy75⟩) (by assumption) ?rest75
                  case hy75 => (intro w hSw; (try dsimp only at hSw); go_simp <;> with_reducible rfl)
                  try simp only [Act.put, List.setIfInBounds_toArray, List.set_cons_zero, List.set_cons_succ]
                  refine wpAnyH_take (i := 25) (oi := { dst := some 156, op := Op.move (Operand.tmp 155), type := 4, pos := "keeps.go:45", after := #[{ on := 24, ground := Ground.data }, { on := 22, ground := Ground.chain }, { on := 22, ground := Ground.guard }], guard := some (22, false) }) (v := ?v76) rfl (by kernel_rfl) (by kernel_rfl) (by kernel_rfl) (fun _ _ _ h => h) (Or.inl ⟨by rfl, ?hy76⟩) (by assumption) ?rest76
                  case hy76 => (intro w hSw; (try dsimp only at hSw); go_simp <;> with_reducible rfl)
                  try simp only [Act.put, List.setIfInBounds_toArray, List.set_cons_zero, List.set_cons_succ]
                  refine wpAnyH_take (i := 26) (oi := { dst := some 157, op := Op.move (Operand.tmp 4), type := 24, pos := "keeps.go:45", after := #[{ on := 25, ground := Ground.guard }], guard := some (25, true) }) (v := undef) rfl (by kernel_rfl) (by kernel_rfl) (by kernel_rfl) (fun _ _ _ h => h) (Or.inr ⟨by rfl, rfl⟩) (by assumption) ?_
                  try simp only [Act.put, List.setIfInBounds_toArray, List.set_cons_zero, List.set_cons_succ]
                  refine wpAnyH_take (i := 27) (oi := { dst := some 158, op := Op.move (Operand.tmp 19), type := 3, pos := "keeps.go:45", after := #[{ on := 25, ground := Ground.guard }], guard := some (25, true) }) (v := undef) rfl (by kernel_rfl) (by kernel_rfl) (by kernel_rfl) (fun _ _ _ h => h) (Or.inr ⟨by rfl, rfl⟩) (by assumption) ?_
                  try simp only [Act.put, List.setIfInBounds_toArray, List.set_cons_zero, List.set_cons_succ]
                  refine wpAnyH_take (i := 28) (oi := { dst := some 159, op := Op.call { callee := Callee.value (Operand.func 18), args := #[Operand.tmp 157, Operand.tmp 158], argTypes := #[24, 3] }, type := 4, pos := "keeps.go:45", after := #[{ on := 26, ground := Ground.data }, { on := 27, ground := Ground.data }, { on := 25, ground := Ground.chain }, { on := 25, ground := Ground.guard }], guard := some (25, true) }) (v := undef) rfl (by kernel_rfl) (by kernel_rfl) (by kernel_rfl) (fun _ _ _ h => h) (Or.inr ⟨by rfl, rfl⟩) (by assumption) ?_
                  try simp only [Act.put, List.setIfInBounds_toArray, List.set_cons_zero, List.set_cons_succ]
                  refine wpAnyH_take (i := 29) (oi := { dst := some 160, op := Op.unOp UnOp.not 4 (Operand.tmp 159), type := 4, pos := "keeps.go:45", after := #[{ on := 28, ground := Ground.data }, { on := 25, ground := Ground.guard }], guard := some (25, true) }) (v := undef) rfl (by kernel_rfl) (by kernel_rfl) (by kernel_rfl) (fun _ _ _ h => h) (Or.inr ⟨by rfl, rfl⟩) (by assumption) ?_
                  try simp only [Act.put, List.setIfInBounds_toArray, List.set_cons_zero, List.set_cons_succ]
                  refine wpAnyH_take (i := 30) (oi := { dst := some 161, op := Op.pick (Operand.tmp 156) (Operand.tmp 160) (Operand.const (Value.bool false)), type := 4, pos := "keeps.go:45", after := #[{ on := 25, ground := Ground.data }, { on := 29, ground := Ground.data }, { on := 22, ground := Ground.guard }], guard := some (22, false) }) (v := ?v77) rfl (by kernel_rfl) (by kernel_rfl) (by kernel_rfl) (fun _ _ _ h => h) (Or.inl ⟨by rfl, ?hy77⟩) (by assumption) ?rest77
                  case hy77 => (intro w hSw; (try dsimp only at hSw); go_simp <;> with_reducible rfl)
                  try simp only [Act.put, List.setIfInBounds_toArray, List.set_cons_zero, List.set_cons_succ]
                  refine wpAnyH_take (i := 31) (oi := { dst := some 162, op := Op.pick (Operand.tmp 153) (Operand.const (Value.bool true)) (Operand.tmp 161), type := 4, pos := "keeps.go:45", after := #[{ on := 22, ground := Ground.data }, { on := 30, ground := Ground.data }], guard := none }) (v := ?v78) rfl (by kernel_rfl) (by kernel_rfl) (by kernel_rfl) (fun _ _ _ h => h) (Or.inl ⟨by rfl, ?hy78⟩) (by assumption) ?rest78
                  case hy78 => (intro w hSw; (try dsimp only at hSw); go_simp <;> with_reducible rfl)
                  try simp only [Act.put, List.setIfInBounds_toArray, List.set_cons_zero, List.set_cons_succ]
                  refine wpAnyH_done (by kernel_rfl) ?_ _
                  refine NoPanic.normal ?_
                  clear d0 d1 CELL L1 L2
                  go_wp2
                  go_roundw
                  case rel => exact ⟨j + 1, by go_num, by omega, HQ2⟩
                  case measure => simp [intOf]; omega
              · have HZ : Hid (Bo w _ p ab hb (k + 1)) := ⟨_, _, _, _, HEf.out, HS.out⟩
                have b1 : decide ((j : Int) < 8) = false := by simp; omega
                go_wp2
                go_roundw
                case rel => exact ⟨k + 1, by go_num, by omega, by omega, HZ⟩
                case measure => simp [intOf]; omega
          · have A1 : Hid (∀ W, Fs w W p ab hb k q aq had v → Calls Try.prog 16 #[.pointer (some ⟨p, 0, none⟩), .int .i64 t] W fun e w' => e = .returned (.int .i64 (wantV 8 q t)) ∧ Fs w w' p ab hb k q aq had v) := fun W h => h.wants t HT.out
            have A2 : Hid (∀ W, Fs w W p ab hb k q aq had v → Calls Try.prog 18 #[.pointer (some ⟨p, 0, none⟩), .int .i64 t] W fun e w' => e = .returned (.bool false) ∧ Fs w w' p ab hb k q aq had v) := fun W h => by have := h.has t HT.out; rw [hh0] at this; exact this
            have A3 : Hid (∀ W, Fs w W p ab hb k q aq had v → Calls Try.prog 12 #[.pointer (some ⟨p, 0, none⟩), .int .i64 t] W fun e w' => e = .returned (.tuple #[.int .i64 (freA 8 q t), .int .i64 5]) ∧ Fs w w' p ab hb ((k + 1 : Nat) : Int) q aq had v) := fun W h => by
              have := h.fre t HT.out
              have e : freE 8 q t = 5 := by unfold freE; rw [hh0]; rfl
              have e2 : freQ 8 q t = q := by unfold freQ; rw [hh0]; rfl
              rw [e, e2] at this
              exact this.mono fun _ _ ⟨h1, h2⟩ => ⟨h1, h2.more (by omega)⟩
            generalize freA 8 q t = xa at *
            generalize wantV 8 q t = xw at *
            clear hh0 pl0
            go_wp2_with (first | (go_at_call 9; ((with_reducible refine (CP1.out _).mono ?_); rintro e wa ⟨rfl, rfl⟩)) | (go_at_call 9; ((with_reducible refine (CP2.out _).mono ?_); rintro e wa ⟨rfl, rfl⟩)) | (go_at_call 9; ((with_reducible refine (CP0.out _).mono ?_); rintro e wa ⟨rfl, rfl⟩)) | (go_at_call 16; ((with_reducible refine (A1.out _ HS0.out).mono ?_); rintro e wb ⟨rfl, hp⟩; have HS1 := Lib.hid hp; clear hp)) | (go_at_call 18; ((with_reducible refine (A2.out _ HS1.out).mono ?_); rintro e wc ⟨rfl, hp⟩; have HS2 := Lib.hid hp; clear hp)) | (go_at_call 12; ((with_reducible refine (A3.out _ HS2.out).mono ?_); rintro e wd ⟨rfl, hp⟩; have HSg := Lib.hid hp; clear hp)))
            obtain ⟨qq, aa, hh, vv, HEf, HSf⟩ : ∃ qq aa hh vv, Hid (Fe qq aa hh (k + 1)) ∧ Hid (Fs w wd p ab hb ((k + 1 : Nat) : Int) qq aa hh vv) := ⟨q, aq, had, v, HE0.out.more (by omega), HSg⟩
            clear HSg A1 A2 A3 HS1 HS2
            go_loopw [18] (fun i wq => ∃ j : Nat, i = .int .i64 (j : Int) ∧ j ≤ 8 ∧ Hid (Fs w wq p ab hb ((k + 1 : Nat) : Int) qq aa hh vv)) (fun i _ => 8 - (intOf i).toNat)
            case atStart => exact ⟨0, rfl, by omega, HSf⟩
            case round =>
              clear HSf
              obtain ⟨j, rfl, hj, HS⟩ := hrel
              by_cases hj8 : j < 8
              · have hj' : (j : Int) < 8 := by omega
                have hlen := HEf.out.len hj8
                have hln := HEf.out.ln j hj8
                have hhe := HEf.out.head hj8
                obtain ⟨Aj, cj, hvj, hcj⟩ := HS.out.ror.slice hj8
                have hrl := Lib.hid (HS.out.ror.own j hj8)
                rw [hvj] at hrl
                have CELL : Hid (∀ W, Fs w W p ab hb ((k + 1 : Nat) : Int) qq aa hh vv → W.cell? ⟨ab, j, none⟩ = some (.slice Aj (aa j).length cj) ∧ W.cell? ⟨hb, j, none⟩ = some (.int .i64 (hh j))) := fun W h => ⟨by rw [← hvj]; exact h.ror.cell hj8, h.hrow.cell hj8⟩
                have L1 : Hid (∀ W, Fs w W p ab hb ((k + 1 : Nat) : Int) qq aa hh vv → Calls Try.prog 14 #[.pointer (some ⟨p, 0, none⟩), .int .i64 j] W fun e w' => e = .returned (.int .i64 (lok.hd (qq j))) ∧ Fs w w' p ab hb ((k + 1 : Nat) : Int) qq aa hh vv) := fun W h => h.hold hj8
                have L2 : Hid (∀ W, Fs w W p ab hb ((k + 1 : Nat) : Int) qq aa hh vv → Calls Try.prog 20 #[.pointer (some ⟨p, 0, none⟩), .int .i64 j] W fun e w' => ∃ b, e = .returned (.slice (some ⟨b, 0, none⟩) (qq j).length (qq j).length) ∧ Fs w w' p ab hb ((k + 1 : Nat) : Int) qq aa hh vv) := fun W h => h.que hj8
                have hq1 : ((qq j).length : Int) = ((aa j).length : Int) - (hh j : Int) := by omega
                rcases hhe with ⟨hl1, hl2, hl3, hl4, hl5⟩ | ⟨hl1, hl2⟩
                · have L3 : Hid (∀ W, Fs w W p ab hb ((k + 1 : Nat) : Int) qq aa hh vv → Calls Try.prog 18 #[.pointer (some ⟨p, 0, none⟩), .int .i64 (lok.hd (qq j))] W fun e w' => e = .returned (.bool true) ∧ Fs w w' p ab hb ((k + 1 : Nat) : Int) qq aa hh vv) := fun W h => by
                    have := h.has (lok.hd (qq j)) (inR_small (by omega))
                    rw [hl5] at this
                    exact this
                  obtain ⟨eb, eoff, eA, _, hcl⟩ := (hrl.out.rl (by omega)).1.at_ (by omega)
                  subst eA
                  have d2 := hcl (hh j) hl1
                  rw [hl2] at d2
                  have FR : Hid (∀ W, But No wr W → W.cell? ⟨eb, eoff + hh j, none⟩ = some (.int .i64 (lok.hd (qq j)))) := fun W hb => by
                    have h1 := cell_keep (d2) hb
                    exact h1
                  obtain ⟨d0, d1⟩ := CELL.out _ HS.out
                  generalize lok.hd (qq j) = x at *
                  generalize hqm : (qq j).length = qm at *
                  generalize hgj : hh j = gj at *
                  generalize hmj : (aa j).length = mj at *
                  have b1 : decide ((gj : Int) < (mj : Int)) = true := by simp; omega
                  have b2 : (x != x) = false := by simp
                  have b4 : mj ≤ 300 := by omega
                  have b3 : ((qm : Int) != IntKind.i64.wrap ((mj : Int) - (gj : Int))) = false := by rw [IntWalk.i64_in ((mj : Int) - (gj : Int)) (by omega), hq1]; simp
                  have b5 : (gj : Int) < (mj : Int) := by omega
                  have b6 : decide (0 ≤ x) = true := by simpa using hl3
                  clear hrl hcl hvj hcj hlen hln hl1 hl2 hl3 hl4 hl5 hq1 hqm hgj hmj
                  go_wp2_with fail
                  go_quiet (fail)
                  go_wp2_with fail
                  go_quiet (fail)
                  go_wp2_with fail
                  go_region_held3 (fun w' => w'.cell? ⟨ab, j, none⟩ = some (.slice (some ⟨eb, eoff, none⟩) mj cj) ∧ w'.cell? ⟨hb, j, none⟩ = some (.int .i64 gj))
                    (first | exact CELL.out _ HQ3.out | exact CELL.out _ HQ2.out | exact CELL.out _ HQ1.out | exact CELL.out _ (HS.out.no (by first | exact (((But.refl No _).drewN _).drewN _).drew | exact ((But.refl No _).drewN _).drew | exact (((But.refl No _).drewN _).drewN _).drew.drewN _ | exact ((But.refl No _).drewN _).drew.drewN _ | exact ((But.refl No _).drewN _).drewN _ | exact (But.refl No _).drewN _)))
                    (first | (go_at_call 14; ((with_reducible refine (L1.out _ (HS.out.no (by first | exact (((But.refl No _).drewN _).drewN _).drew | exact ((But.refl No _).drewN _).drew | exact (((But.refl No _).drewN _).drewN _).drew.drewN _ | exact ((But.refl No _).drewN _).drew.drewN _ | exact ((But.refl No _).drewN _).drewN _ | exact (But.refl No _).drewN _))).mono ?_); rintro e wq1 ⟨rfl, hp⟩; have HQ1 := Lib.hid hp; clear hp)) | (go_at_call 20; ((with_reducible refine (L2.out _ HQ1.out).mono ?_); rintro e wq2 ⟨b1, rfl, hp⟩; have HQ2 := Lib.hid hp; clear hp)) | (go_at_call 18; ((with_reducible refine (L3.out _ HQ2.out).mono ?_); rintro e wq3 ⟨rfl, hp⟩; have HQ3 := Lib.hid hp; clear hp)))
                  clear d0 d1 d2 FR CELL L1 L2 L3
                  go_wp2
                  go_roundw
                  case rel => exact ⟨j + 1, by go_num, by omega, HQ3⟩
                  case measure => simp [intOf]; omega
                · obtain ⟨d0, d1⟩ := CELL.out _ HS.out
                  rw [hl2] at L1
                  generalize hqm : (qq j).length = qm at *
                  generalize hgj : hh j = gj at *
                  generalize hmj : (aa j).length = mj at *
                  subst hl1
                  have b1 : decide ((mj : Int) < (mj : Int)) = false := by simp
                  have b4 : mj ≤ 300 := by omega
                  have b3 : ((qm : Int) != IntKind.i64.wrap 0) = false := by rw [show IntKind.i64.wrap 0 = 0 from rfl, hq1]; simp
                  have b6 : decide ((0 : Int) ≤ -1) = false := by decide
                  clear hrl hvj hcj hlen hln hl2 hq1 hqm hgj hmj
                  go_wp2_with fail
                  go_quiet (fail)
                  go_wp2_with fail
                  refine wp_region_noPanic ?_
                  refine wp_region_held_drew (S := (fun w' => w'.cell? ⟨ab, j, none⟩ = some (.slice Aj mj cj) ∧ w'.cell? ⟨hb, j, none⟩ = some (.int .i64 mj))) (by kernel_rfl) (CELL.out _ (HS.out.no (by first | exact (((But.refl No _).drewN _).drewN _).drew | exact ((But.refl No _).drewN _).drew | exact (((But.refl No _).drewN _).drewN _).drew.drewN _ | exact ((But.refl No _).drewN _).drew.drewN _ | exact ((But.refl No _).drewN _).drewN _ | exact (But.refl No _).drewN _))) (fun hHeld => ?_)
                  refine wpAnyH_take (i := 0) (oi := { dst := some 131, op := Op.move (Operand.tmp 4), type := 24, pos := "keeps.go:45", after := #[], guard := none }) (v := ?v79) rfl (by kernel_rfl) (by kernel_rfl) (by kernel_rfl) (fun _ _ _ h => h) (Or.inl ⟨by rfl, ?hy79⟩) (by assumption) ?rest79
                  case hy79 => (intro w hSw; (try dsimp only at hSw); go_simp <;> with_reducible rfl)
                  try simp only [Act.put, List.setIfInBounds_toArray, List.set_cons_zero, List.set_cons_succ]
                  refine wpAnyH_take (i := 1) (oi := { dst := some 132, op := Op.move (Operand.tmp 18), type := 3, pos := "keeps.go:45", after := #[], guard := none }) (v := ?v80) rfl (by kernel_rfl) (by kernel_rfl) (by kernel_rfl) (fun _ _ _ h => h) (Or.inl ⟨by rfl, ?hy80⟩) (by assumption) ?rest80
                  case hy80 => (intro w hSw; (try dsimp only at hSw); go_simp <;> with_reducible rfl)
                  try simp only [Act.put, List.setIfInBounds_toArray, List.set_cons_zero, List.set_cons_succ]
                  refine wpAnyH_take (i := 3) (oi := { dst := some 134, op := Op.move (Operand.tmp 19), type := 3, pos := "keeps.go:45", after := #[], guard := none }) (v := ?v81) rfl (by kernel_rfl) (by kernel_rfl) (by kernel_rfl) (fun _ _ _ h => h) (Or.inl ⟨by rfl, ?hy81⟩) (by assumption) ?rest81
                  case hy81 => (intro w hSw; (try dsimp only at hSw); go_simp <;> with_reducible rfl)
                  try simp only [Act.put, List.setIfInBounds_toArray, List.set_cons_zero, List.set_cons_succ]
                  refine wpAnyH_ready (rs := [2]) (by kernel_rfl) (by simp) ?_
                  refine AllReadyH.cons (o := { dst := some 133, op := Op.call { callee := Callee.value (Operand.func 14), args := #[Operand.tmp 131, Operand.tmp 132], argTypes := #[24, 3] }, type := 3, pos := "keeps.go:45", after := #[{ on := 0, ground := Ground.data }, { on := 1, ground := Ground.data }], guard := none }) rfl (fun K hK => ?_) AllReadyH.nil
                  go_simp
                  go_at_call 14; ((with_reducible refine (L1.out _ (HS.out.no (by first | exact (((But.refl No _).drewN _).drewN _).drew | exact ((But.refl No _).drewN _).drew | exact (((But.refl No _).drewN _).drewN _).drew.drewN _ | exact ((But.refl No _).drewN _).drew.drewN _ | exact ((But.refl No _).drewN _).drewN _ | exact (But.refl No _).drewN _))).mono ?_); rintro e wq1 ⟨rfl, hp⟩; have HQ1 := Lib.hid hp; clear hp)
                  (try go_wp2_with fail)
                  refine hK.out _ _ (CELL.out _ HQ1.out) (fun hHeld => ?_)
                  clear hK K
                  try simp only [Act.put, List.setIfInBounds_toArray, List.set_cons_zero, List.set_cons_succ]
                  refine wpAnyH_take (i := 4) (oi := { dst := some 135, op := Op.binOp BinOp.neq 3 (Operand.tmp 133) (Operand.tmp 134) 3, type := 4, pos := "keeps.go:45", after := #[{ on := 2, ground := Ground.data }, { on := 3, ground := Ground.data }], guard := none }) (v := ?v82) rfl (by kernel_rfl) (by kernel_rfl) (by kernel_rfl) (fun _ _ _ h => h) (Or.inl ⟨by rfl, ?hy82⟩) (by assumption) ?rest82
                  case hy82 => (intro w hSw; (try dsimp only at hSw); go_simp <;> with_reducible rfl)
                  try simp only [Act.put, List.setIfInBounds_toArray, List.set_cons_zero, List.set_cons_succ]
                  refine wpAnyH_take (i := 5) (oi := { dst := some 136, op := Op.move (Operand.tmp 135), type := 4, pos := "keeps.go:45", after := #[{ on := 4, ground := Ground.data }, { on := 2, ground := Ground.chain }], guard := none }) (v := ?v83) rfl (by kernel_rfl) (by kernel_rfl) (by kernel_rfl) (fun _ _ _ h => h) (Or.inl ⟨by rfl, ?hy83⟩) (by assumption) ?rest83
                  case hy83 => (intro w hSw; (try dsimp only at hSw); go_simp <;> with_reducible rfl)
                  try simp only [Act.put, List.setIfInBounds_toArray, List.set_cons_zero, List.set_cons_succ]
                  refine wpAnyH_take (i := 6) (oi := { dst := some 137, op := Op.move (Operand.tmp 4), type := 24, pos := "keeps.go:45", after := #[{ on := 5, ground := Ground.guard }], guard := some (5, false) }) (v := ?v84) rfl (by kernel_rfl) (by kernel_rfl) (by kernel_rfl) (fun _ _ _ h => h) (Or.inl ⟨by rfl, ?hy84⟩) (by assumption) ?rest84
                  case hy84 => (intro w hSw; (try dsimp only at hSw); go_simp <;> with_reducible rfl)
                  try simp only [Act.put, List.setIfInBounds_toArray, List.set_cons_zero, List.set_cons_succ]
                  refine wpAnyH_take (i := 7) (oi := { dst := some 138, op := Op.move (Operand.tmp 18), type := 3, pos := "keeps.go:45", after := #[{ on := 5, ground := Ground.guard }], guard := some (5, false) }) (v := ?v85) rfl (by kernel_rfl) (by kernel_rfl) (by kernel_rfl) (fun _ _ _ h => h) (Or.inl ⟨by rfl, ?hy85⟩) (by assumption) ?rest85
                  case hy85 => (intro w hSw; (try dsimp only at hSw); go_simp <;> with_reducible rfl)
                  try simp only [Act.put, List.setIfInBounds_toArray, List.set_cons_zero, List.set_cons_succ]
                  refine wpAnyH_take (i := 10) (oi := { dst := some 141, op := Op.move (Operand.tmp 6), type := 44, pos := "keeps.go:45", after := #[{ on := 5, ground := Ground.guard }], guard := some (5, false) }) (v := ?v86) rfl (by kernel_rfl) (by kernel_rfl) (by kernel_rfl) (fun _ _ _ h => h) (Or.inl ⟨by rfl, ?hy86⟩) (by assumption) ?rest86
                  case hy86 => (intro w hSw; (try dsimp only at hSw); go_simp <;> with_reducible rfl)
                  try simp only [Act.put, List.setIfInBounds_toArray, List.set_cons_zero, List.set_cons_succ]
                  refine wpAnyH_take (i := 11) (oi := { dst := some 142, op := Op.move (Operand.tmp 18), type := 3, pos := "keeps.go:45", after := #[{ on := 5, ground := Ground.guard }], guard := some (5, false) }) (v := ?v87) rfl (by kernel_rfl) (by kernel_rfl) (by kernel_rfl) (fun _ _ _ h => h) (Or.inl ⟨by rfl, ?hy87⟩) (by assumption) ?rest87
                  case hy87 => (intro w hSw; (try dsimp only at hSw); go_simp <;> with_reducible rfl)
                  try simp only [Act.put, List.setIfInBounds_toArray, List.set_cons_zero, List.set_cons_succ]
                  refine wpAnyH_take (i := 12) (oi := { dst := some 143, op := Op.indexAddr 44 (Operand.tmp 141) (Operand.tmp 142), type := 0, pos := "keeps.go:45", after := #[{ on := 10, ground := Ground.data }, { on := 11, ground := Ground.data }, { on := 5, ground := Ground.guard }], guard := some (5, false) }) (v := ?v88) rfl (by kernel_rfl) (by kernel_rfl) (by kernel_rfl) (fun _ _ _ h => h) (Or.inl ⟨by rfl, ?hy88⟩) (by assumption) ?rest88
                  case hy88 => (intro w hSw; (try dsimp only at hSw); go_simp <;> with_reducible rfl)
                  try simp only [Act.put, List.setIfInBounds_toArray, List.set_cons_zero, List.set_cons_succ]
                  refine wpAnyH_take (i := 13) (oi := { dst := some 144, op := Op.load 41 (Operand.tmp 143), type := 41, pos := "keeps.go:45", after := #[{ on := 12, ground := Ground.data }, { on := 5, ground := Ground.guard }], guard := some (5, false) }) (v := ?v89) rfl (by kernel_rfl) (by kernel_rfl) (by kernel_rfl) (fun _ _ _ h => h) (Or.inl ⟨by rfl, ?hy89⟩) (by assumption) ?rest89
                  case hy89 => (intro w hSw; (try dsimp only at hSw); go_simp <;> with_reducible rfl)
                  try simp only [Act.put, List.setIfInBounds_toArray, List.set_cons_zero, List.set_cons_succ]
                  refine wpAnyH_take (i := 14) (oi := { dst := some 145, op := Op.call { callee := Callee.builtin Builtin.len, args := #[Operand.tmp 144], argTypes := #[41] }, type := 3, pos := "keeps.go:45", after := #[{ on := 13, ground := Ground.data }, { on := 5, ground := Ground.guard }], guard := some (5, false) }) (v := ?v90) rfl (by kernel_rfl) (by kernel_rfl) (by kernel_rfl) (fun _ _ _ h => h) (Or.inl ⟨by rfl, ?hy90⟩) (by assumption) ?rest90
                  case hy90 => (intro w hSw; (try dsimp only at hSw); go_simp <;> with_reducible rfl)
                  try simp only [Act.put, List.setIfInBounds_toArray, List.set_cons_zero, List.set_cons_succ]
                  refine wpAnyH_take (i := 15) (oi := { dst := some 146, op := Op.move (Operand.tmp 7), type := 41, pos := "keeps.go:45", after := #[{ on := 5, ground := Ground.guard }], guard := some (5, false) }) (v := ?v91) rfl (by kernel_rfl) (by kernel_rfl) (by kernel_rfl) (fun _ _ _ h => h) (Or.inl ⟨by rfl, ?hy91⟩) (by assumption) ?rest91
                  case hy91 => (intro w hSw; (try dsimp only at hSw); go_simp <;> with_reducible rfl)
                  try simp only [Act.put, List.setIfInBounds_toArray, List.set_cons_zero, List.set_cons_succ]
                  refine wpAnyH_take (i := 16) (oi := { dst := some 147, op := Op.move (Operand.tmp 18), type := 3, pos := "keeps.go:45", after := #[{ on := 5, ground := Ground.guard }], guard := some (5, false) }) (v := ?v92) rfl (by kernel_rfl) (by kernel_rfl) (by kernel_rfl) (fun _ _ _ h => h) (Or.inl ⟨by rfl, ?hy92⟩) (by assumption) ?rest92
                  case hy92 => (intro w hSw; (try dsimp only at hSw); go_simp <;> with_reducible rfl)
                  try simp only [Act.put, List.setIfInBounds_toArray, List.set_cons_zero, List.set_cons_succ]
                  refine wpAnyH_take (i := 17) (oi := { dst := some 148, op := Op.indexAddr 41 (Operand.tmp 146) (Operand.tmp 147), type := 0, pos := "keeps.go:45", after := #[{ on := 15, ground := Ground.data }, { on := 16, ground := Ground.data }, { on := 5, ground := Ground.guard }], guard := some (5, false) }) (v := ?v93) rfl (by kernel_rfl) (by kernel_rfl) (by kernel_rfl) (fun _ _ _ h => h) (Or.inl ⟨by rfl, ?hy93⟩) (by assumption) ?rest93
                  case hy93 => (intro w hSw; (try dsimp only at hSw); go_simp <;> with_reducible rfl)
                  try simp only [Act.put, List.setIfInBounds_toArray, List.set_cons_zero, List.set_cons_succ]
                  refine wpAnyH_take (i := 18) (oi := { dst := some 149, op := Op.load 3 (Operand.tmp 148), type := 3, pos := "keeps.go:45", after := #[{ on := 17, ground := Ground.data }, { on := 5, ground := Ground.guard }], guard := some (5, false) }) (v := ?v94) rfl (by kernel_rfl) (by kernel_rfl) (by kernel_rfl) (fun _ _ _ h => h) (Or.inl ⟨by rfl, ?hy94⟩) (by assumption) ?rest94
                  case hy94 => (intro w hSw; (try dsimp only at hSw); go_simp <;> with_reducible rfl)
                  try simp only [Act.put, List.setIfInBounds_toArray, List.set_cons_zero, List.set_cons_succ]
                  refine wpAnyH_take (i := 19) (oi := { dst := some 150, op := Op.binOp BinOp.sub 3 (Operand.tmp 145) (Operand.tmp 149) 3, type := 3, pos := "keeps.go:45", after := #[{ on := 14, ground := Ground.data }, { on := 18, ground := Ground.data }, { on := 5, ground := Ground.guard }], guard := some (5, false) }) (v := ?v95) rfl (by kernel_rfl) (by kernel_rfl) (by kernel_rfl) (fun _ _ _ h => h) (Or.inl ⟨by rfl, ?hy95⟩) (by assumption) ?rest95
                  case hy95 => (intro w hSw; (try dsimp only at hSw); go_simp <;> with_reducible rfl)
                  try simp only [Act.put, List.setIfInBounds_toArray, List.set_cons_zero, List.set_cons_succ]
                  refine wpAnyH_ready (rs := [8]) (by kernel_rfl) (by simp) ?_
                  refine AllReadyH.cons (o := { dst := some 139, op := Op.call { callee := Callee.value (Operand.func 20), args := #[Operand.tmp 137, Operand.tmp 138], argTypes := #[24, 3] }, type := 41, pos := "keeps.go:45", after := #[{ on := 6, ground := Ground.data }, { on := 7, ground := Ground.data }, { on := 5, ground := Ground.chain }, { on := 5, ground := Ground.guard }], guard := some (5, false) }) rfl (fun K hK => ?_) AllReadyH.nil
                  go_simp
                  go_at_call 20; ((with_reducible refine (L2.out _ HQ1.out).mono ?_); rintro e wq2 ⟨b1, rfl, hp⟩; have HQ2 := Lib.hid hp; clear hp)
                  (try go_wp2_with fail)
                  refine hK.out _ _ (CELL.out _ HQ2.out) (fun hHeld => ?_)
                  clear hK K
                  try simp only [Act.put, List.setIfInBounds_toArray, List.set_cons_zero, List.set_cons_succ]
                  refine wpAnyH_take (i := 9) (oi := { dst := some 140, op := Op.call { callee := Callee.builtin Builtin.len, args := #[Operand.tmp 139], argTypes := #[41] }, type := 3, pos := "keeps.go:45", after := #[{ on := 8, ground := Ground.data }, { on := 5, ground := Ground.guard }], guard := some (5, false) }) (v := ?v96) rfl (by kernel_rfl) (by kernel_rfl) (by kernel_rfl) (fun _ _ _ h => h) (Or.inl ⟨by rfl, ?hy96⟩) (by assumption) ?rest96
                  case hy96 => (intro w hSw; (try dsimp only at hSw); go_simp <;> with_reducible rfl)
                  try simp only [Act.put, List.setIfInBounds_toArray, List.set_cons_zero, List.set_cons_succ]
                  refine wpAnyH_take (i := 20) (oi := { dst := some 151, op := Op.binOp BinOp.neq 3 (Operand.tmp 140) (Operand.tmp 150) 3, type := 4, pos := "keeps.go:45", after := #[{ on := 9, ground := Ground.data }, { on := 19, ground := Ground.data }, { on := 5, ground := Ground.guard }], guard := some (5, false) }) (v := ?v97) rfl (by kernel_rfl) (by kernel_rfl) (by kernel_rfl) (fun _ _ _ h => h) (Or.inl ⟨by rfl, ?hy97⟩) (by assumption) ?rest97
                  case hy97 => (intro w hSw; (try dsimp only at hSw); go_simp <;> with_reducible rfl)
                  try simp only [Act.put, List.setIfInBounds_toArray, List.set_cons_zero, List.set_cons_succ]
                  refine wpAnyH_take (i := 21) (oi := { dst := some 152, op := Op.pick (Operand.tmp 136) (Operand.const (Value.bool true)) (Operand.tmp 151), type := 4, pos := "keeps.go:45", after := #[{ on := 5, ground := Ground.data }, { on := 20, ground := Ground.data }], guard := none }) (v := ?v98) rfl (by kernel_rfl) (by kernel_rfl) (by kernel_rfl) (fun _ _ _ h => h) (Or.inl ⟨by rfl, ?hy98⟩) (by assumption) ?rest98
                  case hy98 => (intro w hSw; (try dsimp only at hSw); go_simp <;> with_reducible rfl)
                  try simp only [Act.put, List.setIfInBounds_toArray, List.set_cons_zero, List.set_cons_succ]
                  refine wpAnyH_take (i := 22) (oi := { dst := some 153, op := Op.move (Operand.tmp 152), type := 4, pos := "keeps.go:45", after := #[{ on := 21, ground := Ground.data }, { on := 8, ground := Ground.chain }], guard := none }) (v := ?v99) rfl (by kernel_rfl) (by kernel_rfl) (by kernel_rfl) (fun _ _ _ h => h) (Or.inl ⟨by rfl, ?hy99⟩) (by assumption) ?rest99
                  case hy99 => (intro w hSw; (try dsimp only at hSw); go_simp <;> with_reducible rfl)
                  try simp only [Act.put, List.setIfInBounds_toArray, List.set_cons_zero, List.set_cons_succ]
                  refine wpAnyH_take (i := 23) (oi := { dst := some 154, op := Op.move (Operand.tmp 19), type := 3, pos := "keeps.go:45", after := #[{ on := 22, ground := Ground.guard }], guard := some (22, false) }) (v := ?v100) rfl (by kernel_rfl) (by kernel_rfl) (by kernel_rfl) (fun _ _ _ h => h) (Or.inl ⟨by rfl, ?hy100⟩) (by assumption) ?rest100
                  case hy100 => (intro w hSw; (try dsimp only at hSw); go_simp <;> with_reducible rfl)
                  try simp only [Act.put, List.setIfInBounds_toArray, List.set_cons_zero, List.set_cons_succ]
                  refine wpAnyH_take (i := 24) (oi := { dst := some 155, op := Op.binOp BinOp.geq 3 (Operand.tmp 154) (Operand.const (Value.int IntKind.i64 0)) 3, type := 4, pos := "keeps.go:45", after := #[{ on := 23, ground := Ground.data }, { on := 22, ground := Ground.guard }], guard := some (22, false) }) (v := ?v101) rfl (by kernel_rfl) (by kernel_rfl) (by kernel_rfl) (fun _ _ _ h => h) (Or.inl ⟨by rfl, ?hy101⟩) (by assumption) ?rest101
                  case hy101 => (intro w hSw; (try dsimp only at hSw); go_simp <;> with_reducible rfl)
                  try simp only [Act.put, List.setIfInBounds_toArray, List.set_cons_zero, List.set_cons_succ]
                  refine wpAnyH_take (i := 25) (oi := { dst := some 156, op := Op.move (Operand.tmp 155), type := 4, pos := "keeps.go:45", after := #[{ on := 24, ground := Ground.data }, { on := 22, ground := Ground.chain }, { on := 22, ground := Ground.guard }], guard := some (22, false) }) (v := ?v102) rfl (by kernel_rfl) (by kernel_rfl) (by kernel_rfl) (fun _ _ _ h => h) (Or.inl ⟨by rfl, ?hy102⟩) (by assumption) ?rest102
                  case hy102 => (intro w hSw; (try dsimp only at hSw); go_simp <;> with_reducible rfl)
                  try simp only [Act.put, List.setIfInBounds_toArray, List.set_cons_zero, List.set_cons_succ]
                  refine wpAnyH_take (i := 26) (oi := { dst := some 157, op := Op.move (Operand.tmp 4), type := 24, pos := "keeps.go:45", after := #[{ on := 25, ground := Ground.guard }], guard := some (25, true) }) (v := undef) rfl (by kernel_rfl) (by kernel_rfl) (by kernel_rfl) (fun _ _ _ h => h) (Or.inr ⟨by rfl, rfl⟩) (by assumption) ?_
                  try simp only [Act.put, List.setIfInBounds_toArray, List.set_cons_zero, List.set_cons_succ]
                  refine wpAnyH_take (i := 27) (oi := { dst := some 158, op := Op.move (Operand.tmp 19), type := 3, pos := "keeps.go:45", after := #[{ on := 25, ground := Ground.guard }], guard := some (25, true) }) (v := undef) rfl (by kernel_rfl) (by kernel_rfl) (by kernel_rfl) (fun _ _ _ h => h) (Or.inr ⟨by rfl, rfl⟩) (by assumption) ?_
                  try simp only [Act.put, List.setIfInBounds_toArray, List.set_cons_zero, List.set_cons_succ]
                  refine wpAnyH_take (i := 28) (oi := { dst := some 159, op := Op.call { callee := Callee.value (Operand.func 18), args := #[Operand.tmp 157, Operand.tmp 158], argTypes := #[24, 3] }, type := 4, pos := "keeps.go:45", after := #[{ on := 26, ground := Ground.data }, { on := 27, ground := Ground.data }, { on := 25, ground := Ground.chain }, { on := 25, ground := Ground.guard }], guard := some (25, true) }) (v := undef) rfl (by kernel_rfl) (by kernel_rfl) (by kernel_rfl) (fun _ _ _ h => h) (Or.inr ⟨by rfl, rfl⟩) (by assumption) ?_
                  try simp only [Act.put, List.setIfInBounds_toArray, List.set_cons_zero, List.set_cons_succ]
                  refine wpAnyH_take (i := 29) (oi := { dst := some 160, op := Op.unOp UnOp.not 4 (Operand.tmp 159), type := 4, pos := "keeps.go:45", after := #[{ on := 28, ground := Ground.data }, { on := 25, ground := Ground.guard }], guard := some (25, true) }) (v := undef) rfl (by kernel_rfl) (by kernel_rfl) (by kernel_rfl) (fun _ _ _ h => h) (Or.inr ⟨by rfl, rfl⟩) (by assumption) ?_
                  try simp only [Act.put, List.setIfInBounds_toArray, List.set_cons_zero, List.set_cons_succ]
                  refine wpAnyH_take (i := 30) (oi := { dst := some 161, op := Op.pick (Operand.tmp 156) (Operand.tmp 160) (Operand.const (Value.bool false)), type := 4, pos := "keeps.go:45", after := #[{ on := 25, ground := Ground.data }, { on := 29, ground := Ground.data }, { on := 22, ground := Ground.guard }], guard := some (22, false) }) (v := ?v103) rfl (by kernel_rfl) (by kernel_rfl) (by kernel_rfl) (fun _ _ _ h => h) (Or.inl ⟨by rfl, ?hy103⟩) (by assumption) ?rest103
                  case hy103 => (intro w hSw; (try dsimp only at hSw); go_simp <;> with_reducible rfl)
                  try simp only [Act.put, List.setIfInBounds_toArray, List.set_cons_zero, List.set_cons_succ]
                  refine wpAnyH_take (i := 31) (oi := { dst := some 162, op := Op.pick (Operand.tmp 153) (Operand.const (Value.bool true)) (Operand.tmp 161), type := 4, pos := "keeps.go:45", after := #[{ on := 22, ground := Ground.data }, { on := 30, ground := Ground.data }], guard := none }) (v := ?v104) rfl (by kernel_rfl) (by kernel_rfl) (by kernel_rfl) (fun _ _ _ h => h) (Or.inl ⟨by rfl, ?hy104⟩) (by assumption) ?rest104
                  case hy104 => (intro w hSw; (try dsimp only at hSw); go_simp <;> with_reducible rfl)
                  try simp only [Act.put, List.setIfInBounds_toArray, List.set_cons_zero, List.set_cons_succ]
                  refine wpAnyH_done (by kernel_rfl) ?_ _
                  refine NoPanic.normal ?_
                  clear d0 d1 CELL L1 L2
                  go_wp2
                  go_roundw
                  case rel => exact ⟨j + 1, by go_num, by omega, HQ2⟩
                  case measure => simp [intOf]; omega
              · have HZ : Hid (Bo w _ p ab hb (k + 1)) := ⟨_, _, _, _, HEf.out, HS.out⟩
                have b1 : decide ((j : Int) < 8) = false := by simp; omega
                go_wp2
                go_roundw
                case rel => exact ⟨k + 1, by go_num, by omega, by omega, HZ⟩
                case measure => simp [intOf]; omega
      · have k2 : decide ((k : Int) < 300) = false := by simp; omega
        have HG : Hid (But No w wr) := by obtain ⟨_, _, _, _, _, hh⟩ := HB.out; exact hh.but
        go_wp2
        go_ret
        exact ⟨rfl, HG.out⟩
    · have kn : decide ((k : Int) < (n : Int)) = false := by simp; omega
      have HG : Hid (But No w wr) := by obtain ⟨_, _, _, _, _, hh⟩ := HB.out; exact hh.but
      go_wp2
      go_ret
      exact ⟨rfl, HG.out⟩
end Go.Proofs.Ytimkdcpghhkloaa.locksFirst
