/- The contracts of Longest, Wait and Hold. -/
import Derived.Test.YtfmhejeeeglmdaaTeC4
namespace Go.Proofs.Ytfmhejeeeglmdaa.ter
open Go.ChangeShapes Go.WideShapes Go.ChangeAt Go.RowKit Go.Deep ky2 val
set_option maxRecDepth 100000 in
set_option maxHeartbeats 2000000 in
theorem longest_any (s : Sys) (A : Option Addr) (n c : Nat) (B : Option Addr) (m d : Nat) (wh : List Int) (k r : Int) (w : World) (h : RSys w A n c s) (hz : Rd w B m wh) (hk : inR k) (hr : inR r) :
    Calls Try.prog 8 #[sysV s A n c, .slice B m d, .int .i64 k, .int .i64 r] w fun e w' => e = .returned (.int .i64 (longV s wh k r)) ∧ But No w w' := by
  have CR : Hid (∀ W, But No w W → Calls Try.prog 18 #[sysV s A n c] W fun e w' => e = .returned (.bool (right s)) ∧ But No W w') := fun W hb => right_any s A n c W (h.no hb)
  cases hrt : right s with
  | false =>
    have HV : Hid (longV s wh k r = 0) := Lib.hid (by unfold longV; rw [if_neg (by rw [hrt]; simp)])
    rw [hrt] at CR
    clear h hz hrt
    unfold sysV at CR ⊢
    go_enter Try.func8, Try.ntmps8
    go_wp2_with (go_at_call 18; refine (CR.out _ ((But.refl No w).alloc _)).mono ?_; rintro e w1 ⟨rfl, hb1⟩; have HB1 := Lib.hid (((But.refl No w).alloc _).trans hb1); clear hb1)
    go_ret
    exact ⟨ret1 HV.out.symm, HB1.out⟩
  | true =>
    have HV : Hid (longV s wh k r = mx (F s wh) k r) := Lib.hid (by unfold longV; rw [if_pos hrt])
    have CL : Hid (∀ W, But No w W → Calls Try.prog 20 #[sysV s A n c, .slice B m d] W fun e w' => ∃ mb, e = .returned (.map (some mb)) ∧ But No W w' ∧ W.heap.size ≤ mb ∧ ∃ D, OM w' mb 96 D ∧ LIs D (F s wh)) := fun W hb => longestOf_any s A n c B m d wh W (h.no hb) (hz.no hb) hrt
    rw [hrt] at CR
    have KEY := Lib.hid (keyOf_two (wf_of hk) (wf_of hr))
    have HK := Lib.hid hk
    have HRR := Lib.hid hr
    clear h hz hrt hk hr
    unfold sysV at CR CL ⊢
    go_enter Try.func8, Try.ntmps8
    go_wp2_with (first | (go_at_call 18; refine (CR.out _ ((But.refl No w).alloc _)).mono ?_; rintro e w1 ⟨rfl, hb1⟩; have hB := ((But.refl No w).alloc _).trans hb1; have HB1 := Lib.hid hB; obtain ⟨d0, d1, d2, d3, d4, d5, d6, d7, d8⟩ := sys_cells ((Blk.new w (boxS s A n c) 24).but hb1 (fun f => f)); clear hb1 hB) | (go_at_call 20; (with_reducible refine (CL.out _ HB1.out).mono ?_); rintro e w2 ⟨mb, rfl, hb2, _, D, hO, hI⟩; have HB2 := Lib.hid (HB1.out.trans hb2); have OWN := Lib.hid hO; have AT := Lib.hid (hI.zero HK.out HRR.out); clear hb2 hO hI) | (at_lookup; refine wpList_lookup_own_int (H := Unit) _ rfl _ _ 41 rfl 44 3 .i64 keyed Try.underlying41 Try.underlying3 (zero3 _) mb 96 D rfl OWN.out _ (kp k r) rfl KEY.out ?_; intro cc hcc hwc; have hce := vl_inj (hcc.symm.trans AT.out); have HCE := Lib.hid hce; clear hcc hwc hce))
    go_ret
    exact ⟨ret1 (by rw [HV.out, HCE.out]), HB2.out⟩
theorem wait_some {s : Sys} {wh : List Int} {task k : Int} {x : Sec} (h : sec? s task k = some x) : waitV s wh task k = smV s wh task.toNat x.2.1 := by unfold waitV; rw [h]
theorem wait_none {s : Sys} {wh : List Int} {task k : Int} (h : sec? s task k = none) : waitV s wh task k = 0 := by unfold waitV; rw [h]
set_option maxRecDepth 100000 in
set_option maxHeartbeats 2000000 in
theorem waits_any (s : Sys) (A : Option Addr) (n c : Nat) (B : Option Addr) (m d : Nat) (wh : List Int) (task sect : Int) (w : World) (h : RSys w A n c s) (hz : Rd w B m wh) :
    Calls Try.prog 10 #[sysV s A n c, .slice B m d, .int .i64 task, .int .i64 sect] w fun e w' => e = .returned (.int .i64 (waitV s wh task sect)) ∧ But No w w' := by
  have CF : Hid (∀ W, But No w W → Calls Try.prog 23 #[sysV s A n c, .int .i64 task, .int .i64 sect] W fun e w' => e = .returned (findV (sec? s task sect)) ∧ But No W w') := fun W hb => find_any s A n c task sect W (h.no hb)
  cases hx : sec? s task sect with
  | none =>
    have HV := Lib.hid (wait_none (wh := wh) hx)
    rw [hx, show findV none = .tuple #[.agg #[.int .i64 0, .int .i64 0, .int .i64 0], .bool false] from rfl] at CF
    clear h hz hx
    unfold sysV at CF ⊢
    go_enter Try.func10, Try.ntmps10
    go_wp2_with (go_at_call 23; refine (CF.out _ ((But.refl No w).alloc _)).mono ?_; rintro e w1 ⟨rfl, hb1⟩; have HB1 := Lib.hid (((But.refl No w).alloc _).trans hb1); clear hb1)
    go_ret
    exact ⟨ret1 HV.out.symm, HB1.out.alloc _⟩
  | some x =>
    have HV := Lib.hid (wait_some (wh := wh) hx)
    obtain ⟨k, t, hk, h2, hrt, hj⟩ : ∃ (k : Nat) (t : Tsk), task = (k : Int) ∧ s.ts[k]? = some t ∧ right s = true ∧ ∃ j : Nat, t.secs[j]? = some x := by
      rcases sec_cases s task sect with ⟨k, t, j, y, h1, h2, h3, _, _, h5, h6⟩ | ⟨h6, _⟩ | ⟨h6, _⟩
      · rw [hx] at h6; cases h6; exact ⟨k, t, h1, h2, h3, j, h5⟩
      · rw [hx] at h6; cases h6
      · rw [hx] at h6; cases h6
    subst hk
    rw [Int.toNat_natCast] at HV
    have hin : inR x.2.1 := by
      obtain ⟨j, hj⟩ := hj
      obtain ⟨_, _, _, _, _, _, _, _, _, _, hS⟩ := h.ts.at1 h2
      exact (hS.fit x (List.mem_of_getElem? hj)).2.1
    have hln := right_len hrt
    obtain ⟨x0, x1, x2⟩ := x
    have CL : Hid (∀ W, But No w W → Calls Try.prog 20 #[sysV s A n c, .slice B m d] W fun e w' => ∃ mb, e = .returned (.map (some mb)) ∧ But No W w' ∧ W.heap.size ≤ mb ∧ ∃ D, OM w' mb 96 D ∧ LIs D (F s wh)) := fun W hb => longestOf_any s A n c B m d wh W (h.no hb) (hz.no hb) hrt
    have CC : Hid (∀ W, But No w W → Calls Try.prog 25 #[sysV s A n c, .slice B m d, .int .i64 k] W fun e w' => e = .returned (.int .i64 (cr s.co wh k)) ∧ But No W w') := fun W hb => coreOf_any s A n c B m d wh k W (hz.no hb)
    have CW : Hid (∀ (D : DataW Unit) (mb : Nat) (own : Int) (W : World), OM W mb 96 D → LIs D (F s wh) → Calls Try.prog 24 #[.map (some mb), .int .i64 s.co, .int .i64 own, .int .i64 x1] W fun e w' => e = .returned (.int .i64 (sm (F s wh) own x1 s.co.toNat)) ∧ w' = W) := fun D mb own W hO hI => wait_any (F s wh) D mb 96 s.co own x1 W hO hI (fun c r => mxF_le hrt wh c r) (by omega) (by omega) hin
    rw [hx, show findV (some (x0, x1, x2)) = .tuple #[.agg #[.int .i64 x0, .int .i64 x1, .int .i64 x2], .bool true] from rfl] at CF
    clear h hz hx h2 hrt hj hin hln
    unfold smV at HV
    generalize cr s.co wh k = cc at CC HV
    unfold sysV at CF CL CC ⊢
    go_enter Try.func10, Try.ntmps10
    go_wp2_with (go_at_call 23; refine (CF.out _ ((But.refl No w).alloc _)).mono ?_; rintro e w1 ⟨rfl, hb1⟩; have HB1 := Lib.hid (((But.refl No w).alloc _).trans hb1); have HSY := Lib.hid ((Blk.new w (boxS s A n c) 24).but hb1 (fun f => f)); clear hb1)
    have hb3 : But No w (w1.alloc (.cells #[.int .i64 x0, .int .i64 x1, .int .i64 x2] 36)) := HB1.out.alloc _
    have hsy := HSY.out.alloc (.cells #[.int .i64 x0, .int .i64 x1, .int .i64 x2] 36)
    have hxs := Blk.new w1 #[.int .i64 x0, .int .i64 x1, .int .i64 x2] 36
    generalize w1.alloc (.cells #[.int .i64 x0, .int .i64 x1, .int .i64 x2] 36) = w3 at hb3 hsy hxs ⊢
    generalize w.heap.size = b1 at HSY hsy ⊢
    generalize w1.heap.size = bc at hxs ⊢
    have HB3 := Lib.hid hb3
    have KEEP : Hid (∀ w', But No w3 w' → (w'.cell? ⟨b1, 0, none⟩ = some (.int .i64 s.co) ∧ w'.cell? ⟨b1, 1, none⟩ = some (.int .i64 s.po) ∧ w'.cell? ⟨b1, 2, none⟩ = some (.int .i64 s.pr) ∧ w'.cell? ⟨b1, 3, none⟩ = some (.int .i64 s.re) ∧ w'.cell? ⟨b1, 4, none⟩ = some (.int .i64 s.sw) ∧ w'.cell? ⟨b1, 5, none⟩ = some (.int .i64 s.fi) ∧ w'.cell? ⟨b1, 6, none⟩ = some (.int .i64 s.la) ∧ w'.cell? ⟨b1, 7, none⟩ = some (.int .i64 s.rs) ∧ w'.cell? ⟨b1, 8, none⟩ = some (.slice A n c) ∧ w'.cell? ⟨bc, 1, none⟩ = some (.int .i64 x1)) ∧ But No w3 w') := Lib.hid (fun w' hb => by
      obtain ⟨d0, d1, d2, d3, d4, d5, d6, d7, d8⟩ := sys_cells (hsy.but hb (fun f => f))
      exact ⟨⟨d0, d1, d2, d3, d4, d5, d6, d7, d8, (hxs.but hb (fun f => f)).cell (o := 1) rfl⟩, hb⟩)
    clear hb3 hsy hxs HSY HB1 CF
    have CL3 : Hid (∀ w', But No w3 w' → Calls Try.prog 20 #[.agg #[.int .i64 s.co, .int .i64 s.po, .int .i64 s.pr, .int .i64 s.re, .int .i64 s.sw, .int .i64 s.fi, .int .i64 s.la, .int .i64 s.rs, .slice A n c], .slice B m d] w' fun e w'' => ∃ mb, e = .returned (.map (some mb)) ∧ But No w3 w'' ∧ ∃ D, OM w'' mb 96 D ∧ LIs D (F s wh)) := Lib.hid (fun w' hb => (CL.out w' (HB3.out.trans hb)).mono (fun e w'' ⟨mb, h1, h2, _, h4⟩ => ⟨mb, h1, hb.trans h2, h4⟩))
    have CC3 : Hid (∀ w', But No w3 w' → Calls Try.prog 25 #[.agg #[.int .i64 s.co, .int .i64 s.po, .int .i64 s.pr, .int .i64 s.re, .int .i64 s.sw, .int .i64 s.fi, .int .i64 s.la, .int .i64 s.rs, .slice A n c], .slice B m d, .int .i64 k] w' fun e w'' => e = .returned (.int .i64 cc) ∧ But No w3 w'' ∧ But No w' w'') := Lib.hid (fun w' hb => (CC.out w' (HB3.out.trans hb)).mono (fun e w'' ⟨h1, h2⟩ => ⟨h1, hb.trans h2, h2⟩))
    clear CL CC
    go_region_held3 (fun w' => (w'.cell? ⟨b1, 0, none⟩ = some (.int .i64 s.co) ∧ w'.cell? ⟨b1, 1, none⟩ = some (.int .i64 s.po) ∧ w'.cell? ⟨b1, 2, none⟩ = some (.int .i64 s.pr) ∧ w'.cell? ⟨b1, 3, none⟩ = some (.int .i64 s.re) ∧ w'.cell? ⟨b1, 4, none⟩ = some (.int .i64 s.sw) ∧ w'.cell? ⟨b1, 5, none⟩ = some (.int .i64 s.fi) ∧ w'.cell? ⟨b1, 6, none⟩ = some (.int .i64 s.la) ∧ w'.cell? ⟨b1, 7, none⟩ = some (.int .i64 s.rs) ∧ w'.cell? ⟨b1, 8, none⟩ = some (.slice A n c) ∧ w'.cell? ⟨bc, 1, none⟩ = some (.int .i64 x1)) ∧ But No w3 w')
      (first | exact KEEP.out _ (But.refl No w3).drew | exact KEEP.out _ hgA | exact KEEP.out _ hgB)
      (first | (go_at_call 20; ((with_reducible refine (CL3.out _ (But.refl No w3).drew).mono ?_); rintro e wA ⟨mb, rfl, hgA, D, hO, hI⟩; have HOA := Lib.hid hO; have HIA := Lib.hid hI; clear hO hI)) | (go_at_call 25; ((with_reducible refine (CC3.out _ hgA).mono ?_); rintro e wB ⟨rfl, hgB, hgAB⟩; have HOB := Lib.hid (OM.no HOA.out hgAB); clear hgAB)) | (go_at_call 24; ((with_reducible refine (CW.out D mb cc _ HOB.out HIA.out).mono ?_); rintro e wC ⟨rfl, rfl⟩)))
    rename_i hHeld
    clear hHeld
    have HE := Lib.hid (HB3.out.trans hgB)
    clear hgA hgB
    go_wp2
    go_ret
    exact ⟨ret1 HV.out.symm, HE.out⟩
theorem hold_some {s : Sys} {wh : List Int} {task k : Int} {x : Sec} (h : sec? s task k = some x) : holdV s wh task k = waitV s wh task k + x.2.2 := by unfold holdV waitV; rw [h]
theorem hold_none {s : Sys} {wh : List Int} {task k : Int} (h : sec? s task k = none) : holdV s wh task k = 0 := by unfold holdV; rw [h]
theorem wait_le (s : Sys) (wh : List Int) (task k : Int) : 0 ≤ waitV s wh task k ∧ waitV s wh task k ≤ 8796093022216 := by
  rcases sec_cases s task k with ⟨_, _, _, _, _, _, h3, _, _, _, h6⟩ | ⟨h6, _⟩ | ⟨h6, _⟩
  · rw [wait_some h6]; exact smV_le h3 wh _ _
  · rw [wait_none h6]; omega
  · rw [wait_none h6]; omega
theorem sec_some {s : Sys} {task k : Int} {x : Sec} (h : sec? s task k = some x) : right s = true ∧ 1 ≤ x.2.2 ∧ x.2.2 ≤ 1099511627776 := by
  rcases sec_cases s task k with ⟨i, t, j, y, _, h2, h3, _, _, h5, h6⟩ | ⟨h6, _⟩ | ⟨h6, _⟩
  · rw [h] at h6; cases h6
    exact ⟨h3, (right_sec h3 (List.mem_of_getElem? h2) (List.mem_of_getElem? h5)).2⟩
  · rw [h] at h6; cases h6
  · rw [h] at h6; cases h6
set_option maxRecDepth 100000 in
set_option maxHeartbeats 2000000 in
theorem hold_any (s : Sys) (A : Option Addr) (n c : Nat) (B : Option Addr) (m d : Nat) (wh : List Int) (task sect : Int) (w : World) (h : RSys w A n c s) (hz : Rd w B m wh) :
    Calls Try.prog 12 #[sysV s A n c, .slice B m d, .int .i64 task, .int .i64 sect] w fun e w' => e = .returned (.int .i64 (holdV s wh task sect)) ∧ But No w w' := by
  have CF : Hid (∀ W, But No w W → Calls Try.prog 23 #[sysV s A n c, .int .i64 task, .int .i64 sect] W fun e w' => e = .returned (findV (sec? s task sect)) ∧ But No W w') := fun W hb => find_any s A n c task sect W (h.no hb)
  cases hx : sec? s task sect with
  | none =>
    have HV := Lib.hid (hold_none (wh := wh) hx)
    rw [hx, show findV none = .tuple #[.agg #[.int .i64 0, .int .i64 0, .int .i64 0], .bool false] from rfl] at CF
    clear h hz hx
    unfold sysV at CF ⊢
    go_enter Try.func12, Try.ntmps12
    go_wp2_with (go_at_call 23; refine (CF.out _ ((But.refl No w).alloc _)).mono ?_; rintro e w1 ⟨rfl, hb1⟩; have HB1 := Lib.hid (((But.refl No w).alloc _).trans hb1); clear hb1)
    go_ret
    exact ⟨ret1 HV.out.symm, HB1.out.alloc _⟩
  | some x =>
    have HV := Lib.hid (hold_some (wh := wh) hx)
    have hl := (sec_some hx).2
    have hv := wait_le s wh task sect
    obtain ⟨x0, x1, x2⟩ := x
    have CW : Hid (∀ W, But No w W → Calls Try.prog 10 #[sysV s A n c, .slice B m d, .int .i64 task, .int .i64 sect] W fun e w' => e = .returned (.int .i64 (waitV s wh task sect)) ∧ But No W w') := fun W hb => waits_any s A n c B m d wh task sect W (h.no hb) (hz.no hb)
    rw [hx, show findV (some (x0, x1, x2)) = .tuple #[.agg #[.int .i64 x0, .int .i64 x1, .int .i64 x2], .bool true] from rfl] at CF
    clear h hz hx
    generalize waitV s wh task sect = V at CW HV hv
    simp only at HV hl
    have hw1 : IntKind.i64.wrap (V + x2) = V + x2 := IntWalk.i64_in (V + x2) (by omega)
    unfold sysV at CF CW ⊢
    go_enter Try.func12, Try.ntmps12
    go_wp2_with (go_at_call 23; refine (CF.out _ ((But.refl No w).alloc _)).mono ?_; rintro e w1 ⟨rfl, hb1⟩; have HB1 := Lib.hid (((But.refl No w).alloc _).trans hb1); have HSY := Lib.hid ((Blk.new w (boxS s A n c) 24).but hb1 (fun f => f)); clear hb1)
    have hb3 : But No w (w1.alloc (.cells #[.int .i64 x0, .int .i64 x1, .int .i64 x2] 36)) := HB1.out.alloc _
    have hsy := HSY.out.alloc (.cells #[.int .i64 x0, .int .i64 x1, .int .i64 x2] 36)
    have hxs := Blk.new w1 #[.int .i64 x0, .int .i64 x1, .int .i64 x2] 36
    generalize w1.alloc (.cells #[.int .i64 x0, .int .i64 x1, .int .i64 x2] 36) = w3 at hb3 hsy hxs ⊢
    generalize w.heap.size = b1 at HSY hsy ⊢
    generalize w1.heap.size = bc at hxs ⊢
    have HB3 := Lib.hid hb3
    have KEEP : Hid (∀ w', But No w3 w' → (w'.cell? ⟨b1, 0, none⟩ = some (.int .i64 s.co) ∧ w'.cell? ⟨b1, 1, none⟩ = some (.int .i64 s.po) ∧ w'.cell? ⟨b1, 2, none⟩ = some (.int .i64 s.pr) ∧ w'.cell? ⟨b1, 3, none⟩ = some (.int .i64 s.re) ∧ w'.cell? ⟨b1, 4, none⟩ = some (.int .i64 s.sw) ∧ w'.cell? ⟨b1, 5, none⟩ = some (.int .i64 s.fi) ∧ w'.cell? ⟨b1, 6, none⟩ = some (.int .i64 s.la) ∧ w'.cell? ⟨b1, 7, none⟩ = some (.int .i64 s.rs) ∧ w'.cell? ⟨b1, 8, none⟩ = some (.slice A n c) ∧ w'.cell? ⟨bc, 2, none⟩ = some (.int .i64 x2)) ∧ But No w3 w') := Lib.hid (fun w' hb => by
      obtain ⟨d0, d1, d2, d3, d4, d5, d6, d7, d8⟩ := sys_cells (hsy.but hb (fun f => f))
      exact ⟨⟨d0, d1, d2, d3, d4, d5, d6, d7, d8, (hxs.but hb (fun f => f)).cell (o := 2) rfl⟩, hb⟩)
    clear hb3 hsy hxs HSY HB1 CF
    have CW3 : Hid (∀ w', But No w3 w' → Calls Try.prog 10 #[.agg #[.int .i64 s.co, .int .i64 s.po, .int .i64 s.pr, .int .i64 s.re, .int .i64 s.sw, .int .i64 s.fi, .int .i64 s.la, .int .i64 s.rs, .slice A n c], .slice B m d, .int .i64 task, .int .i64 sect] w' fun e w'' => e = .returned (.int .i64 V) ∧ But No w3 w'') := Lib.hid (fun w' hb => (CW.out w' (HB3.out.trans hb)).mono (fun e w'' ⟨h1, h2⟩ => ⟨h1, hb.trans h2⟩))
    clear CW
    go_region_held3 (fun w' => (w'.cell? ⟨b1, 0, none⟩ = some (.int .i64 s.co) ∧ w'.cell? ⟨b1, 1, none⟩ = some (.int .i64 s.po) ∧ w'.cell? ⟨b1, 2, none⟩ = some (.int .i64 s.pr) ∧ w'.cell? ⟨b1, 3, none⟩ = some (.int .i64 s.re) ∧ w'.cell? ⟨b1, 4, none⟩ = some (.int .i64 s.sw) ∧ w'.cell? ⟨b1, 5, none⟩ = some (.int .i64 s.fi) ∧ w'.cell? ⟨b1, 6, none⟩ = some (.int .i64 s.la) ∧ w'.cell? ⟨b1, 7, none⟩ = some (.int .i64 s.rs) ∧ w'.cell? ⟨b1, 8, none⟩ = some (.slice A n c) ∧ w'.cell? ⟨bc, 2, none⟩ = some (.int .i64 x2)) ∧ But No w3 w')
      (first | exact KEEP.out _ (But.refl No w3).drew | exact KEEP.out _ hgA)
      (first | (go_at_call 10; ((with_reducible refine (CW3.out _ (But.refl No w3).drew).mono ?_); rintro e wA ⟨rfl, hgA⟩)))
    rename_i hHeld
    clear hHeld
    have HE := Lib.hid (HB3.out.trans hgA)
    clear hgA
    go_wp2
    go_ret
    exact ⟨ret1 HV.out.symm, HE.out⟩
end Go.Proofs.Ytfmhejeeeglmdaa.ter
