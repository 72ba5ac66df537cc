/- Timers do, deed by deed, just what the chapter says, with any room: DeltaPlays returns true. (The walk.) -/
import Derived.Test.YtfejnokljddomaaR4
import Derived.Test.YtfejnokljddomaaD
namespace Go.Proofs.Ytfejnokljddomaa.deltaPlays
open Go.ChangeShapes Go.WideShapes Go.ChangeAt Go.RowKit Go.Deep
/-- Both lists, the program's and the document's: the one in the order of expiry, the other one in that of adding. -/
structure PP (w wr : World) (p x : Nat) (R : Int) (K : List Tm) (S Sx : Nat → Prop) : Prop where
  hw : Hw w wr S p R (isort K)
  rf : RF wr Sx x R K
  ds : ∀ k, S k → ¬ Sx k
  nx : ∀ k, Sx k → w.heap.size ≤ k
  nd : K.Pairwise (fun a b => a.id ≠ b.id)
section
variable {w wr wd w2 w3 : World} {p x : Nat} {R : Int} {K K' : List Tm} {S Sx S' Sx' : Nat → Prop} {db : Nat} {cur : Array Value}
theorem PP.kd (h : PP w wr p x R K S Sx) : Kd K := Kd.of h.hw.dp.gd h.nd
theorem PP.no (h : PP w wr p x R K S Sx) (hb : But No wr wd) : PP w wd p x R K S Sx := ⟨h.hw.no hb, h.rf.no hb, h.ds, h.nx, h.nd⟩
/-- And a block beside. -/
structure PQ (w wr : World) (p x : Nat) (R : Int) (K : List Tm) (S Sx : Nat → Prop) (db : Nat) (cur : Array Value) : Prop where
  pp : PP w wr p x R K S Sx
  bk : Blk wr db cur 31
  ns : ¬ S db
  nsx : ¬ Sx db
theorem PQ.no (h : PQ w wr p x R K S Sx db cur) (hb : But No wr wd) : PQ w wd p x R K S Sx db cur := ⟨h.pp.no hb, h.bk.but hb (fun f => f), h.ns, h.nsx⟩
theorem PQ.new (h : PP w wr p x R K S Sx) (cur : Array Value) : PQ w (wr.alloc (.cells cur 31)) p x R K S Sx wr.heap.size cur :=
  ⟨h.no ((But.refl No wr).alloc _), Blk.new wr cur 31, fun hk => by have := h.hw.dp.lt _ hk; omega, fun hk => by have := h.rf.lt _ hk; omega⟩
/-- Behind the program's step. -/
structure Mid (w wd w2 : World) (p x : Nat) (R : Int) (K K' : List Tm) (S Sx S' : Nat → Prop) (db : Nat) (cur : Array Value) : Prop where
  hw : Hw w w2 S' p R (isort K')
  rf : RF w2 Sx x R K
  ds : ∀ k, S' k → ¬ Sx k
  nx : ∀ k, Sx k → w.heap.size ≤ k
  bk : Blk w2 db cur 31
  ns : ¬ S' db
  nsx : ¬ Sx db
  sz : wd.heap.size ≤ w2.heap.size
theorem PQ.mid (h : PQ w wd p x R K S Sx db cur) (hm : Mv wd S p R (isort K') w2) : ∃ S', Mid w wd w2 p x R K K' S Sx S' db cur := by
  obtain ⟨S', h1, h2, h3⟩ := h.pp.hw.step hm
  refine ⟨S', h1, h.pp.rf.but h2 (fun k hk hs => h.pp.ds k hs hk), fun k hk hx => ?_, h.pp.nx, h.bk.but h2 h.ns, fun hk => ?_, h.nsx, h2.size⟩
  · rcases h3 k hk with e | e
    · exact h.pp.ds k e hx
    · have := h.pp.rf.lt k hx; omega
  · rcases h3 db hk with e | e
    · exact h.ns e
    · have := h.bk.lt; omega
theorem Mid.fin (h : Mid w wd w2 p x R K K' S Sx S' db cur) (hr : Rm w2 Sx x R K' w3) (nd : K'.Pairwise (fun a b => a.id ≠ b.id)) : ∃ S3 Sx3, PQ w w3 p x R K' S3 Sx3 db cur := by
  obtain ⟨Sx', r1, r2, r3⟩ := hr
  have hsz := h.hw.but.size
  refine ⟨S', Sx', ⟨⟨h.hw.dp.but r2 h.ds, h.hw.but.andThen r2 (fun k hk => .inr (h.nx k hk)), h.hw.new⟩, r1, fun k hk hx => ?_, fun k hk => ?_, nd⟩, h.bk.but r2 h.nsx, h.ns, fun hk => ?_⟩
  · rcases r3 k hx with e | e
    · exact h.ds k hk e
    · have := h.hw.dp.lt k hk; omega
  · rcases r3 k hk with e | e
    · exact h.nx k e
    · omega
  · rcases r3 db hk with e | e
    · exact h.nsx e
    · have := h.bk.lt; omega
end
def Rel (w wr : World) (p x : Nat) (R : Int) : Prop := ∃ K S Sx, PP w wr p x R K S Sx
/-- Two slices that read the same, beside both lists. -/
def Fin (w w3 : World) (p x : Nat) (R : Int) (K' : List Tm) (db : Nat) (cur : Array Value) (zs : List Int) (v v' : Value) : Prop := (∃ S3 Sx3, PQ w w3 p x R K' S3 Sx3 db cur) ∧ Ov w3 v zs ∧ Ov w3 v' zs
theorem num_fin {w w3 : World} {p x : Nat} {R : Int} {K' : List Tm} {db : Nat} {cur : Array Value} {zs : List Int} {A1 A2 : Option Addr} {m c1 c2 : Nat} (h : Fin w w3 p x R K' db cur zs (.slice A1 m c1) (.slice A2 m c2)) (hm : zs.length ≤ 256) :
    Calls Try.prog 13 #[.slice A1 m c1, .slice A2 m c2] w3 fun e w4 => e = .returned (.bool true) ∧ ∃ S3 Sx3, PQ w w4 p x R K' S3 Sx3 db cur := by
  obtain ⟨⟨S3, Sx3, h1⟩, h2, h3⟩ := h
  have := numbers_any A1 A2 m m c1 c2 zs zs w3 (h2.rl (by omega)).1 (h3.rl (by omega)).1
  simp only [decide_true] at this
  exact this.mono fun e w4 ⟨e1, e2⟩ => ⟨e1, S3, Sx3, h1.no e2⟩
set_option maxHeartbeats 1000000 in
set_option maxRecDepth 100000 in
theorem walk0 (a0 : Int) (A : Option Addr) (n c : Nat) (w : World) (hb : a0 < 0 ∨ 256 < a0) :
    Calls Try.prog 3 #[.int .i64 a0, .slice A n c] w fun e w' => e = .returned (.bool true) ∧ But No w w' := by
  have C1 : Hid (∀ w, Calls Try.prog 8 #[.int .i64 a0] w fun r w' => r = .returned (.tuple #[.pointer none, .int .i64 1]) ∧ w = w') := fun w => new_bad a0 w hb
  have C2 : Hid (∀ w, Calls Try.prog 9 #[.int .i64 a0] w fun r w' => r = .returned (.pointer none) ∧ w = w') := fun w => rnew_bad a0 w hb
  clear hb
  go_enter Try.func3, Try.ntmps3
  go_wp2_with (first
    | (go_at_call 7; refine (examples_any _).mono ?_; rintro e we ⟨rfl, hbe⟩; have HE := Lib.hid hbe; clear hbe)
    | (go_at_call 8; refine (C1.out _).mono ?_; rintro e w1 ⟨rfl, rfl⟩)
    | (go_at_call 9; refine (C2.out _).mono ?_; rintro e w1 ⟨rfl, rfl⟩))
  go_ret
  exact ⟨rfl, HE.out⟩
set_option maxHeartbeats 20000000 in
set_option maxRecDepth 100000 in
theorem walk1 (R : Int) (A : Option Addr) (n c : Nat) (kd di dk : Nat → Int) (w : World) (hd : RdD w A n kd di dk) (hR0 : 0 ≤ R) (hR1 : R ≤ 256) :
    Calls Try.prog 3 #[.int .i64 R, .slice A n c] w fun e w' => e = .returned (.bool true) ∧ But No w w' := by
  have HD := Lib.hid hd
  have hmax := hd.max
  clear hd
  go_enter Try.func3, Try.ntmps3
  go_wp2_with (first
    | (go_at_call 7; refine (examples_any _).mono ?_; rintro e we ⟨rfl, hbe⟩; have HE := Lib.hid hbe; clear hbe)
    | (go_at_call 8; refine (new_ok R _ hR0 hR1).mono ?_; rintro e w1 ⟨p, rfl, hne⟩; have HN1 := Lib.hid hne; clear hne)
    | (go_at_call 9; refine (rnew_ok R _ hR0 hR1).mono ?_; rintro e w2 ⟨x, Sx, rfl, hrf, hb2, hs2⟩; have HRF := Lib.hid hrf; have HB2 := Lib.hid hb2; have HS2 := Lib.hid hs2; clear hrf hb2 hs2))
  have H1 : Hid (Rel w w2 p x R) := by
    obtain ⟨S, hp, hb, hs⟩ := HN1.out
    have h1 := HE.out.size
    have h2 := hb.size
    refine ⟨[], S, Sx, ⟨⟨hp.no HB2.out, (HE.out.trans hb).trans HB2.out, fun k hk => by have := hs k hk; omega⟩, HRF.out, fun k hk hx => ?_, fun k hk => ?_, List.Pairwise.nil⟩⟩
    · have := hp.lt k hk; have := HS2.out k hx; omega
    · have := HS2.out k hk; omega
  clear HN1 HE HRF HB2 HS2
  go_loopw [9] (fun s wr => ∃ k : Nat, s = .int .i64 k ∧ k ≤ n ∧ k ≤ 300 ∧ Hid (Rel w wr p x R)) (fun s _ => n - (intOf s).toNat)
  case atStart => exact ⟨0, rfl, by omega, by omega, H1⟩
  case round =>
    obtain ⟨k, rfl, hk, hk3, hrel⟩ := hrel
    clear H1
    obtain ⟨K, S, Sx, hps⟩ := hrel.out
    have HPS := Lib.hid hps
    clear hps hrel
    by_cases hgo : k < n ∧ k < 300
    · obtain ⟨hlt, hl3⟩ := hgo
      obtain ⟨eb, eoff, rfl, hbl, hcc⟩ := (HD.out.no HPS.out.hw.but).at_ (by omega)
      obtain ⟨c0, c1, c2⟩ := hcc k hlt
      obtain ⟨f0, f1, f2⟩ := HD.out.fit k hlt
      have q0 := pk_lt (kd k) 4 (by omega)
      generalize kd k = x0 at c0 f0 q0
      generalize di k = x1 at c1 f1
      generalize dk k = x2 at c2 f2
      have F0 := Lib.hid f0
      have F2 := Lib.hid f2
      have kn' : (k : Int) < (n : Int) := by omega
      have k3' : (k : Int) < 300 := by omega
      clear hcc hbl f0 f1 f2
      by_cases hc : pk x0 4 = 0
      · have CK : Hid (∀ w, Calls Try.prog 10 #[.int .i64 x0, .int .i64 4] w fun e w' => e = .returned (.int .i64 0) ∧ w = w') := fun w => by rw [← hc]; exact pick_any x0 4 w F0.out (by omega) (by omega)
        clear hc q0
        go_upto_region 16 with (first | (go_at_call 10; ((with_reducible refine (CK.out _).mono ?_); rintro e w2 ⟨rfl, rfl⟩)))
        generalize hwd : World.alloc _ _ = wd
        have HQ : Hid (PQ w wd p x R K S Sx wr.heap.size #[.int .i64 x0, .int .i64 x1, .int .i64 x2]) := by rw [← hwd]; exact PQ.new HPS.out _
        clear hwd HPS
        generalize wr.heap.size = db at HQ ⊢
        obtain ⟨K2, hK2⟩ : ∃ l, l = rAdd R K x1 x2 := ⟨_, rfl⟩
        obtain ⟨E, hE⟩ : ∃ e, e = addE R K x1 x2 := ⟨_, rfl⟩
        have HND : Hid (K2.Pairwise (fun a b => a.id ≠ b.id)) := by show List.Pairwise _ K2; rw [hK2]; exact nd_rAdd HQ.out.pp.nd
        have HQD : Hid (PQ w wd.drew p x R K S Sx db #[.int .i64 x0, .int .i64 x1, .int .i64 x2]) := HQ.out.no (But.refl No _).drew
        have C1 : Hid (Calls Try.prog 11 #[.pointer (some ⟨p, 0, none⟩), .int .i64 x1, .int .i64 x2] wd.drew fun r w' => r = .returned (.int .i64 E) ∧ ∃ S', Mid w wd.drew w' p x R K K2 S Sx S' db #[.int .i64 x0, .int .i64 x1, .int .i64 x2]) := by
          have := add_any p R (isort K) S wd.drew x1 x2 HQD.out.pp.hw.dp
          rw [addE_isort, addL_isort, ← hK2, ← hE] at this
          exact this.mono fun r w' ⟨e1, e2⟩ => ⟨e1, HQD.out.mid e2⟩
        have C2 : Hid (∀ w2 S', Mid w wd.drew w2 p x R K K2 S Sx S' db #[.int .i64 x0, .int .i64 x1, .int .i64 x2] → Calls Try.prog 12 #[.pointer (some ⟨x, 0, none⟩), .int .i64 x1, .int .i64 x2] w2 fun r w' => r = .returned (.int .i64 E) ∧ ∃ S3 Sx3, PQ w w' p x R K2 S3 Sx3 db #[.int .i64 x0, .int .i64 x1, .int .i64 x2]) := fun w2 S' hmid => by
          have := radd_any x R K Sx w2 x1 x2 hmid.rf HQ.out.pp.kd
          rw [← hK2, ← hE] at this
          exact this.mono fun r w' ⟨e1, e2⟩ => ⟨e1, hmid.fin e2 HND.out⟩
        have bE : (E == E) = true := by simp
        have KP : Hid (∀ w' : World, Blk w' db #[.int .i64 x0, .int .i64 x1, .int .i64 x2] 31 → w'.cell? ⟨db, 1, none⟩ = some (.int .i64 x1) ∧ w'.cell? ⟨db, 2, none⟩ = some (.int .i64 x2)) := fun w' hb => ⟨hb.cell (o := 1) rfl, hb.cell (o := 2) rfl⟩
        clear hK2 hE HQ
        go_region_held3 (fun w' => w'.cell? ⟨db, 1, none⟩ = some (.int .i64 x1) ∧ w'.cell? ⟨db, 2, none⟩ = some (.int .i64 x2))
          (first | exact KP.out _ HQD.out.bk | exact KP.out _ HM2.out.bk | exact KP.out _ HB3.out)
          (first | (go_at_call 11; ((with_reducible refine C1.out.mono ?_); rintro e w2 ⟨rfl, S2, hm2⟩; have HM2 := Lib.hid hm2; clear hm2)) | (go_at_call 12; ((with_reducible refine (C2.out _ S2 HM2.out).mono ?_); rintro e w3 ⟨rfl, hf3⟩; have HFIN := Lib.hid hf3; have HB3 : Hid (Blk w3 db #[.int .i64 x0, .int .i64 x1, .int .i64 x2] 31) := (by obtain ⟨_, _, hq⟩ := hf3; exact hq.bk); clear hf3)))
        rename_i hHeld
        clear hHeld HM2 HQD HB3 C1 C2 KP
        go_wp2_with fail
        obtain ⟨S3, Sx3, hq3⟩ := HFIN.out
        have HQ3 := Lib.hid hq3
        clear hq3 HFIN
        obtain ⟨A7, c7, g7, _, _, _⟩ := HQ3.out.pp.rf.head
        obtain ⟨n8, hn8⟩ : ∃ n8, n8 = K2.length := ⟨_, rfl⟩
        obtain ⟨y8, hy8⟩ : ∃ y8, y8 = lft K2 x1 := ⟨_, rfl⟩
        have hx7 : w3.cell? ⟨x, 1, none⟩ = some (.slice A7 n8 c7) := by rw [hn8]; exact g7.cell (o := 1) rfl
        have hd7 : w3.cell? ⟨db, 1, none⟩ = some (.int .i64 x1) := HQ3.out.bk.cell (o := 1) rfl
        have hn8l : n8 ≤ 256 := by rw [hn8]; exact HQ3.out.pp.kd.len
        have CL : Hid (∀ m, Calls Try.prog 20 #[.pointer (some ⟨p, 0, none⟩)] (w3.drewN m) fun r w' => r = .returned (.int .i64 n8) ∧ w' = w3.drewN m) := fun m => by
          have := len_any p R _ S3 _ (HQ3.out.no ((But.refl No w3).drewN m)).pp.hw.dp
          rw [length_isort, ← hn8] at this; exact this
        have CF1 : Hid (∀ m, Calls Try.prog 21 #[.pointer (some ⟨p, 0, none⟩), .int .i64 x1] (w3.drewN m) fun r w' => r = .returned (.int .i64 y8) ∧ w' = w3.drewN m) := fun m => by
          have := left_any p R _ S3 _ x1 (HQ3.out.no ((But.refl No w3).drewN m)).pp.hw.dp
          rw [lft_isort HQ3.out.pp.nd, ← hy8] at this; exact this
        have CF2 : Hid (∀ m, Calls Try.prog 22 #[.pointer (some ⟨x, 0, none⟩), .int .i64 x1] (w3.drewN m) fun r w' => r = .returned (.int .i64 y8) ∧ w' = w3.drewN m) := fun m => by
          rw [hy8]; exact rleft_any x R K2 Sx3 _ x1 (HQ3.out.no ((But.refl No w3).drewN m)).pp.rf HQ3.out.pp.kd
        have bq1 : ((n8 : Int) != (n8 : Int)) = false := by simp
        have bq3 : (y8 != y8) = false := by simp
        have HNX : Hid (∀ m, Rel w (w3.drewN m) p x R) := fun m => ⟨K2, S3, Sx3, (HQ3.out.no ((But.refl No w3).drewN m)).pp⟩
        clear g7 hn8 hy8 HQ3
        go_quiet (first | (go_at_call 20; with_reducible exact Calls.quiet_of_same (CL.out _)) | (go_at_call 21; with_reducible exact Calls.quiet_of_same (CF1.out _)) | (go_at_call 22; with_reducible exact Calls.quiet_of_same (CF2.out _)))
        clear hx7 hd7
        go_wp2
        go_roundw
        case rel => exact ⟨k + 1, by go_num, by omega, by omega, HNX.out _⟩
        case measure => simp [intOf]; omega
      · by_cases hc1 : pk x0 4 = 1
        · have hc9 := hc1
          clear hc
          have hc := hc9
          clear hc9 hc1
          have CK : Hid (∀ w, Calls Try.prog 10 #[.int .i64 x0, .int .i64 4] w fun e w' => e = .returned (.int .i64 1) ∧ w = w') := fun w => by rw [← hc]; exact pick_any x0 4 w F0.out (by omega) (by omega)
          clear hc q0
          go_upto_region 18 with (first | (go_at_call 10; ((with_reducible refine (CK.out _).mono ?_); rintro e w2 ⟨rfl, rfl⟩)))
          generalize hwd : World.alloc _ _ = wd
          have HQ : Hid (PQ w wd p x R K S Sx wr.heap.size #[.int .i64 x0, .int .i64 x1, .int .i64 x2]) := by rw [← hwd]; exact PQ.new HPS.out _
          clear hwd HPS
          generalize wr.heap.size = db at HQ ⊢
          obtain ⟨K2, hK2⟩ : ∃ l, l = rRst 1 K := ⟨_, rfl⟩
          obtain ⟨zs, hzs⟩ : ∃ l, l = rOut 1 K := ⟨_, rfl⟩
          obtain ⟨m1, hm1⟩ : ∃ m1, m1 = zs.length := ⟨_, rfl⟩
          have HND : Hid (K2.Pairwise (fun a b => a.id ≠ b.id)) := by show List.Pairwise _ K2; rw [hK2]; exact nd_rRst HQ.out.pp.nd
          have HRG : Hid (∀ y ∈ K, (1 : Int) ≤ y.left) := fun y hy => (HQ.out.pp.kd.rng y hy).1
          have hm2 : m1 ≤ 256 := by
            rw [hm1, hzs]; unfold rOut; rw [List.length_map]
            exact Nat.le_trans (List.length_filter_le _ _) HQ.out.pp.kd.len
          have HM1 := Lib.hid hm1
          have C1 : Hid (Calls Try.prog 14 #[.pointer (some ⟨p, 0, none⟩)] wd fun r w' => ∃ A1 c1, r = .returned (.slice A1 m1 c1) ∧ ∃ S', Mid w wd w' p x R K K2 S Sx S' db #[.int .i64 x0, .int .i64 x1, .int .i64 x2] ∧ Ov w' (.slice A1 m1 c1) zs ∧ ∀ k, (Value.slice A1 m1 c1).ownBlock = some k → wd.heap.size ≤ k) := by
            refine (tick_any p R (isort K) S wd HQ.out.pp.hw.dp).mono ?_
            rintro r w' ⟨v, rfl, hx⟩
            obtain ⟨e1, e2, e3, e4⟩ := hx
            rw [out_isort HRG.out, ← hzs] at e1
            rw [rst_isort HRG.out, ← hK2] at e2
            obtain ⟨A1, c1, ev, _⟩ := e1.slice
            rw [← hm1] at ev
            subst ev
            obtain ⟨S', hmid⟩ := HQ.out.mid (Mv.same ⟨e2, e3⟩)
            exact ⟨A1, c1, rfl, S', hmid, e1, e4⟩
          have C2 : Hid (∀ w2 S' A1 c1, Mid w wd w2 p x R K K2 S Sx S' db #[.int .i64 x0, .int .i64 x1, .int .i64 x2] → Ov w2 (.slice A1 m1 c1) zs → (∀ k, (Value.slice A1 m1 c1).ownBlock = some k → wd.heap.size ≤ k) → Calls Try.prog 15 #[.pointer (some ⟨x, 0, none⟩)] w2 fun r w' => ∃ A2 c2, r = .returned (.slice A2 m1 c2) ∧ Fin w w' p x R K2 db #[.int .i64 x0, .int .i64 x1, .int .i64 x2] zs (.slice A1 m1 c1) (.slice A2 m1 c2)) := by
            intro w2 S' A1 c1 hmid ho hnw
            refine (rtick_any x R K Sx w2 hmid.rf HQ.out.pp.kd).mono ?_
            rintro r w' ⟨v, rfl, ht⟩
            obtain ⟨Sy, t1, t2, t3, t4, t5⟩ := ht
            rw [← hK2] at t2
            rw [← hzs] at t1
            obtain ⟨A2, c2, ev, _⟩ := t1.slice
            rw [← hm1] at ev
            subst ev
            exact ⟨A2, c2, rfl, hmid.fin ⟨Sy, t2, t3, t4⟩ HND.out, ho.but t3 (fun k e hk => by have := hnw k e; have := HQ.out.pp.rf.lt k hk; omega), t1⟩
          have HLZ : Hid (zs.length ≤ 256) := by show _ ≤ _; rw [← hm1]; exact hm2
          clear hK2 hzs hm1 HM1
          go_wp2_with (first | (go_at_call 14; ((with_reducible refine C1.out.mono ?_); rintro e w2 ⟨A1, c1, rfl, S2, hmid, ho2, hn2⟩; have HM2 := Lib.hid hmid; have HO2 := Lib.hid ho2; have HN2 := Lib.hid hn2; clear hmid ho2 hn2)) | (go_at_call 15; ((with_reducible refine (C2.out _ S2 A1 c1 HM2.out HO2.out HN2.out).mono ?_); rintro e w3 ⟨A2, c2, rfl, hf3⟩; have HF3 := Lib.hid hf3; clear hf3)) | (go_at_call 13; ((with_reducible refine (num_fin HF3.out HLZ.out).mono ?_); rintro e w5 ⟨rfl, hf5⟩; have HFIN := Lib.hid hf5; clear hf5)))
          clear HM2 HO2 HN2 HF3 C1 C2 HQ
          obtain ⟨S3, Sx3, hq3⟩ := HFIN.out
          have HQ3 := Lib.hid hq3
          clear hq3 HFIN
          obtain ⟨A7, c7, g7, _, _, _⟩ := HQ3.out.pp.rf.head
          obtain ⟨n8, hn8⟩ : ∃ n8, n8 = K2.length := ⟨_, rfl⟩
          obtain ⟨y8, hy8⟩ : ∃ y8, y8 = lft K2 x1 := ⟨_, rfl⟩
          have hx7 : w5.cell? ⟨x, 1, none⟩ = some (.slice A7 n8 c7) := by rw [hn8]; exact g7.cell (o := 1) rfl
          have hd7 : w5.cell? ⟨db, 1, none⟩ = some (.int .i64 x1) := HQ3.out.bk.cell (o := 1) rfl
          have hn8l : n8 ≤ 256 := by rw [hn8]; exact HQ3.out.pp.kd.len
          have CL : Hid (∀ m, Calls Try.prog 20 #[.pointer (some ⟨p, 0, none⟩)] (w5.drewN m) fun r w' => r = .returned (.int .i64 n8) ∧ w' = w5.drewN m) := fun m => by
            have := len_any p R _ S3 _ (HQ3.out.no ((But.refl No w5).drewN m)).pp.hw.dp
            rw [length_isort, ← hn8] at this; exact this
          have CF1 : Hid (∀ m, Calls Try.prog 21 #[.pointer (some ⟨p, 0, none⟩), .int .i64 x1] (w5.drewN m) fun r w' => r = .returned (.int .i64 y8) ∧ w' = w5.drewN m) := fun m => by
            have := left_any p R _ S3 _ x1 (HQ3.out.no ((But.refl No w5).drewN m)).pp.hw.dp
            rw [lft_isort HQ3.out.pp.nd, ← hy8] at this; exact this
          have CF2 : Hid (∀ m, Calls Try.prog 22 #[.pointer (some ⟨x, 0, none⟩), .int .i64 x1] (w5.drewN m) fun r w' => r = .returned (.int .i64 y8) ∧ w' = w5.drewN m) := fun m => by
            rw [hy8]; exact rleft_any x R K2 Sx3 _ x1 (HQ3.out.no ((But.refl No w5).drewN m)).pp.rf HQ3.out.pp.kd
          have bq1 : ((n8 : Int) != (n8 : Int)) = false := by simp
          have bq3 : (y8 != y8) = false := by simp
          have HNX : Hid (∀ m, Rel w (w5.drewN m) p x R) := fun m => ⟨K2, S3, Sx3, (HQ3.out.no ((But.refl No w5).drewN m)).pp⟩
          clear g7 hn8 hy8 HQ3
          go_quiet (first | (go_at_call 20; with_reducible exact Calls.quiet_of_same (CL.out _)) | (go_at_call 21; with_reducible exact Calls.quiet_of_same (CF1.out _)) | (go_at_call 22; with_reducible exact Calls.quiet_of_same (CF2.out _)))
          clear hx7 hd7
          go_wp2
          go_roundw
          case rel => exact ⟨k + 1, by go_num, by omega, by omega, HNX.out _⟩
          case measure => simp [intOf]; omega
        · by_cases hc2 : pk x0 4 = 2
          · clear hc hc1
            have hc := hc2
            clear hc2
            have CK : Hid (∀ w, Calls Try.prog 10 #[.int .i64 x0, .int .i64 4] w fun e w' => e = .returned (.int .i64 2) ∧ w = w') := fun w => by rw [← hc]; exact pick_any x0 4 w F0.out (by omega) (by omega)
            clear hc q0
            go_upto_region 20 with (first | (go_at_call 10; ((with_reducible refine (CK.out _).mono ?_); rintro e w2 ⟨rfl, rfl⟩)))
            generalize hwd : World.alloc _ _ = wd
            have HQ : Hid (PQ w wd p x R K S Sx wr.heap.size #[.int .i64 x0, .int .i64 x1, .int .i64 x2]) := by rw [← hwd]; exact PQ.new HPS.out _
            clear hwd HPS
            generalize wr.heap.size = db at HQ ⊢
            by_cases hx2 : 0 ≤ x2
            · have hx22 : x2 ≤ 9223372036854775807 := F2.out.2
              obtain ⟨zs, hzs⟩ : ∃ l, l = out x2 (isort K) := ⟨_, rfl⟩
              obtain ⟨m1, hm1⟩ : ∃ m1, m1 = zs.length := ⟨_, rfl⟩
              have hm2 : m1 ≤ 256 := by
                rw [hm1, hzs]
                have h1 := out_len x2 (isort K)
                rw [length_isort] at h1
                exact Nat.le_trans h1 HQ.out.pp.kd.len
              have C1 : Hid (Calls Try.prog 16 #[.pointer (some ⟨p, 0, none⟩), .int .i64 x2] wd fun r w' => ∃ A1 c1, r = .returned (.tuple #[.slice A1 m1 c1, .int .i64 0]) ∧ DP w' S p R (rst x2 (isort K)) ∧ But S wd w' ∧ Ov w' (.slice A1 m1 c1) zs ∧ (∀ k, (Value.slice A1 m1 c1).ownBlock = some k → wd.heap.size ≤ k) ∧ w'.cell? ⟨db, 2, none⟩ = some (.int .i64 x2)) := by
                refine (skip_any p R (isort K) S wd x2 HQ.out.pp.hw.dp hx2).mono ?_
                rintro r w' ⟨v, rfl, hx⟩
                obtain ⟨e1, e2, e3, e4⟩ := hx
                rw [← hzs] at e1
                obtain ⟨A1, c1, ev, _⟩ := e1.slice
                rw [← hm1] at ev
                subst ev
                exact ⟨A1, c1, rfl, e2, e3, e1, e4, (HQ.out.bk.but e3 HQ.out.ns).cell (o := 2) rfl⟩
              have C2 : Hid (∀ w2 A1 c1, DP w2 S p R (rst x2 (isort K)) → But S wd w2 → Ov w2 (.slice A1 m1 c1) zs → (∀ k, (Value.slice A1 m1 c1).ownBlock = some k → wd.heap.size ≤ k) → Calls Try.prog 17 #[.pointer (some ⟨x, 0, none⟩), .int .i64 x2] w2 fun r w' => ∃ A2 c2, r = .returned (.tuple #[.slice A2 m1 c2, .bool true]) ∧ ∃ K2, Fin w w' p x R K2 db #[.int .i64 x0, .int .i64 x1, .int .i64 x2] zs (.slice A1 m1 c1) (.slice A2 m1 c2)) := by
                intro w2 A1 c1 hd hb ho hnw
                have hrf : RF w2 Sx x R K := HQ.out.pp.rf.but hb (fun k hk hs => HQ.out.pp.ds k hs hk)
                refine (rskip_any x R K Sx w2 x2 hrf HQ.out.pp.kd hx2 hx22).mono ?_
                rintro r w' ⟨v, rfl, K2, k1, k2, ht⟩
                obtain ⟨Sy, t1, t2, t3, t4, t5⟩ := ht
                rw [← hzs] at t1
                obtain ⟨A2, c2, ev, _⟩ := t1.slice
                rw [← hm1] at ev
                subst ev
                rw [← k1] at hd
                obtain ⟨S', hmid⟩ := HQ.out.mid (K' := K2) (Mv.same ⟨hd, hb⟩)
                have hmid' : Mid w wd w2 p x R K K2 S Sx S' db #[.int .i64 x0, .int .i64 x1, .int .i64 x2] := hmid
                exact ⟨A2, c2, rfl, K2, hmid'.fin ⟨Sy, t2, t3, t4⟩ k2.nd, ho.but t3 (fun k e hk => by have := hnw k e; have := HQ.out.pp.rf.lt k hk; omega), t1⟩
              have HLZ : Hid (zs.length ≤ 256) := by show _ ≤ _; rw [← hm1]; exact hm2
              have d2 : wd.cell? ⟨db, 2, none⟩ = some (.int .i64 x2) := HQ.out.bk.cell (o := 2) rfl
              clear hzs hm1
              go_wp2_with (first | (go_at_call 16; ((with_reducible refine C1.out.mono ?_); rintro e w2 ⟨A1, c1, rfl, hdp, hbt, ho2, hn2, hd2⟩; have HDP := Lib.hid hdp; have HBT := Lib.hid hbt; have HO2 := Lib.hid ho2; have HN2 := Lib.hid hn2; clear hdp hbt ho2 hn2)) | (go_at_call 17; ((with_reducible refine (C2.out _ A1 c1 HDP.out HBT.out HO2.out HN2.out).mono ?_); rintro e w3 ⟨A2, c2, rfl, K2, hf3⟩; have HF3 := Lib.hid hf3; clear hf3)) | (go_at_call 13; ((with_reducible refine (num_fin HF3.out HLZ.out).mono ?_); rintro e w5 ⟨rfl, hf5⟩; have HFIN := Lib.hid hf5; clear hf5)))
              clear HDP HBT HO2 HN2 HF3 C1 C2 HQ hd2 d2
              obtain ⟨S3, Sx3, hq3⟩ := HFIN.out
              have HQ3 := Lib.hid hq3
              clear hq3 HFIN
              obtain ⟨A7, c7, g7, _, _, _⟩ := HQ3.out.pp.rf.head
              obtain ⟨n8, hn8⟩ : ∃ n8, n8 = K2.length := ⟨_, rfl⟩
              obtain ⟨y8, hy8⟩ : ∃ y8, y8 = lft K2 x1 := ⟨_, rfl⟩
              have hx7 : w5.cell? ⟨x, 1, none⟩ = some (.slice A7 n8 c7) := by rw [hn8]; exact g7.cell (o := 1) rfl
              have hd7 : w5.cell? ⟨db, 1, none⟩ = some (.int .i64 x1) := HQ3.out.bk.cell (o := 1) rfl
              have hn8l : n8 ≤ 256 := by rw [hn8]; exact HQ3.out.pp.kd.len
              have CL : Hid (∀ m, Calls Try.prog 20 #[.pointer (some ⟨p, 0, none⟩)] (w5.drewN m) fun r w' => r = .returned (.int .i64 n8) ∧ w' = w5.drewN m) := fun m => by
                have := len_any p R _ S3 _ (HQ3.out.no ((But.refl No w5).drewN m)).pp.hw.dp
                rw [length_isort, ← hn8] at this; exact this
              have CF1 : Hid (∀ m, Calls Try.prog 21 #[.pointer (some ⟨p, 0, none⟩), .int .i64 x1] (w5.drewN m) fun r w' => r = .returned (.int .i64 y8) ∧ w' = w5.drewN m) := fun m => by
                have := left_any p R _ S3 _ x1 (HQ3.out.no ((But.refl No w5).drewN m)).pp.hw.dp
                rw [lft_isort HQ3.out.pp.nd, ← hy8] at this; exact this
              have CF2 : Hid (∀ m, Calls Try.prog 22 #[.pointer (some ⟨x, 0, none⟩), .int .i64 x1] (w5.drewN m) fun r w' => r = .returned (.int .i64 y8) ∧ w' = w5.drewN m) := fun m => by
                rw [hy8]; exact rleft_any x R K2 Sx3 _ x1 (HQ3.out.no ((But.refl No w5).drewN m)).pp.rf HQ3.out.pp.kd
              have bq1 : ((n8 : Int) != (n8 : Int)) = false := by simp
              have bq3 : (y8 != y8) = false := by simp
              have HNX : Hid (∀ m, Rel w (w5.drewN m) p x R) := fun m => ⟨K2, S3, Sx3, (HQ3.out.no ((But.refl No w5).drewN m)).pp⟩
              clear g7 hn8 hy8 HQ3
              go_quiet (first | (go_at_call 20; with_reducible exact Calls.quiet_of_same (CL.out _)) | (go_at_call 21; with_reducible exact Calls.quiet_of_same (CF1.out _)) | (go_at_call 22; with_reducible exact Calls.quiet_of_same (CF2.out _)))
              clear hx7 hd7
              go_wp2
              go_roundw
              case rel => exact ⟨k + 1, by go_num, by omega, by omega, HNX.out _⟩
              case measure => simp [intOf]; omega
            · obtain ⟨K2, hK2⟩ : ∃ l, l = K := ⟨_, rfl⟩
              have C1 : Hid (∀ w, Calls Try.prog 16 #[.pointer (some ⟨p, 0, none⟩), .int .i64 x2] w fun r w' => r = .returned (.tuple #[.slice none 0 0, .int .i64 1]) ∧ w' = w) := fun w => skip_bad p w x2 (by omega)
              have C2 : Hid (∀ w, Calls Try.prog 17 #[.pointer (some ⟨x, 0, none⟩), .int .i64 x2] w fun r w' => r = .returned (.tuple #[.slice none 0 0, .bool false]) ∧ w' = w) := fun w => rskip_bad x w x2 (by omega)
              have C3 : Hid (Calls Try.prog 13 #[.slice none 0 0, .slice none 0 0] wd fun e w4 => e = .returned (.bool true) ∧ ∃ S3 Sx3, PQ w w4 p x R K2 S3 Sx3 db #[.int .i64 x0, .int .i64 x1, .int .i64 x2]) :=
                num_fin (m := 0) (c1 := 0) (c2 := 0) (zs := []) ⟨⟨S, Sx, by rw [hK2]; exact HQ.out⟩, Ov.nil _, Ov.nil _⟩ (by simp)
              have d2 : wd.cell? ⟨db, 2, none⟩ = some (.int .i64 x2) := HQ.out.bk.cell (o := 2) rfl
              clear hK2
              go_wp2_with (first | (go_at_call 16; ((with_reducible refine (C1.out _).mono ?_); rintro e w2 ⟨rfl, rfl⟩)) | (go_at_call 17; ((with_reducible refine (C2.out _).mono ?_); rintro e w3 ⟨rfl, rfl⟩)) | (go_at_call 13; ((with_reducible refine C3.out.mono ?_); rintro e w5 ⟨rfl, hf5⟩; have HFIN := Lib.hid hf5; clear hf5)))
              clear C1 C2 C3 HQ d2
              obtain ⟨S3, Sx3, hq3⟩ := HFIN.out
              have HQ3 := Lib.hid hq3
              clear hq3 HFIN
              obtain ⟨A7, c7, g7, _, _, _⟩ := HQ3.out.pp.rf.head
              obtain ⟨n8, hn8⟩ : ∃ n8, n8 = K2.length := ⟨_, rfl⟩
              obtain ⟨y8, hy8⟩ : ∃ y8, y8 = lft K2 x1 := ⟨_, rfl⟩
              have hx7 : w5.cell? ⟨x, 1, none⟩ = some (.slice A7 n8 c7) := by rw [hn8]; exact g7.cell (o := 1) rfl
              have hd7 : w5.cell? ⟨db, 1, none⟩ = some (.int .i64 x1) := HQ3.out.bk.cell (o := 1) rfl
              have hn8l : n8 ≤ 256 := by rw [hn8]; exact HQ3.out.pp.kd.len
              have CL : Hid (∀ m, Calls Try.prog 20 #[.pointer (some ⟨p, 0, none⟩)] (w5.drewN m) fun r w' => r = .returned (.int .i64 n8) ∧ w' = w5.drewN m) := fun m => by
                have := len_any p R _ S3 _ (HQ3.out.no ((But.refl No w5).drewN m)).pp.hw.dp
                rw [length_isort, ← hn8] at this; exact this
              have CF1 : Hid (∀ m, Calls Try.prog 21 #[.pointer (some ⟨p, 0, none⟩), .int .i64 x1] (w5.drewN m) fun r w' => r = .returned (.int .i64 y8) ∧ w' = w5.drewN m) := fun m => by
                have := left_any p R _ S3 _ x1 (HQ3.out.no ((But.refl No w5).drewN m)).pp.hw.dp
                rw [lft_isort HQ3.out.pp.nd, ← hy8] at this; exact this
              have CF2 : Hid (∀ m, Calls Try.prog 22 #[.pointer (some ⟨x, 0, none⟩), .int .i64 x1] (w5.drewN m) fun r w' => r = .returned (.int .i64 y8) ∧ w' = w5.drewN m) := fun m => by
                rw [hy8]; exact rleft_any x R K2 Sx3 _ x1 (HQ3.out.no ((But.refl No w5).drewN m)).pp.rf HQ3.out.pp.kd
              have bq1 : ((n8 : Int) != (n8 : Int)) = false := by simp
              have bq3 : (y8 != y8) = false := by simp
              have HNX : Hid (∀ m, Rel w (w5.drewN m) p x R) := fun m => ⟨K2, S3, Sx3, (HQ3.out.no ((But.refl No w5).drewN m)).pp⟩
              clear g7 hn8 hy8 HQ3
              go_quiet (first | (go_at_call 20; with_reducible exact Calls.quiet_of_same (CL.out _)) | (go_at_call 21; with_reducible exact Calls.quiet_of_same (CF1.out _)) | (go_at_call 22; with_reducible exact Calls.quiet_of_same (CF2.out _)))
              clear hx7 hd7
              go_wp2
              go_roundw
              case rel => exact ⟨k + 1, by go_num, by omega, by omega, HNX.out _⟩
              case measure => simp [intOf]; omega
          · have hc9 : pk x0 4 = 3 := by omega
            clear hc hc1 hc2
            have hc := hc9
            clear hc9
            have CK : Hid (∀ w, Calls Try.prog 10 #[.int .i64 x0, .int .i64 4] w fun e w' => e = .returned (.int .i64 3) ∧ w = w') := fun w => by rw [← hc]; exact pick_any x0 4 w F0.out (by omega) (by omega)
            clear hc q0
            go_upto_region 14 with (first | (go_at_call 10; ((with_reducible refine (CK.out _).mono ?_); rintro e w2 ⟨rfl, rfl⟩)))
            generalize hwd : World.alloc _ _ = wd
            have HQ : Hid (PQ w wd p x R K S Sx wr.heap.size #[.int .i64 x0, .int .i64 x1, .int .i64 x2]) := by rw [← hwd]; exact PQ.new HPS.out _
            clear hwd HPS
            generalize wr.heap.size = db at HQ ⊢
            obtain ⟨K2, hK2⟩ : ∃ l, l = rmv K x1 := ⟨_, rfl⟩
            obtain ⟨E, hE⟩ : ∃ e, e = hasT K x1 := ⟨_, rfl⟩
            have HND : Hid (K2.Pairwise (fun a b => a.id ≠ b.id)) := by show List.Pairwise _ K2; rw [hK2]; exact nd_rmv HQ.out.pp.nd
            have HQD : Hid (PQ w wd.drew p x R K S Sx db #[.int .i64 x0, .int .i64 x1, .int .i64 x2]) := HQ.out.no (But.refl No _).drew
            have C1 : Hid (Calls Try.prog 18 #[.pointer (some ⟨p, 0, none⟩), .int .i64 x1] wd.drew fun r w' => r = .returned (.bool E) ∧ ∃ S', Mid w wd.drew w' p x R K K2 S Sx S' db #[.int .i64 x0, .int .i64 x1, .int .i64 x2]) := by
              have := cancel_any p R (isort K) S wd.drew x1 HQD.out.pp.hw.dp
              rw [hasT_isort, rmv_isort, ← hK2, ← hE] at this
              exact this.mono fun r w' ⟨e1, e2⟩ => ⟨e1, HQD.out.mid (Mv.same e2)⟩
            have C2 : Hid (∀ w2 S', Mid w wd.drew w2 p x R K K2 S Sx S' db #[.int .i64 x0, .int .i64 x1, .int .i64 x2] → Calls Try.prog 19 #[.pointer (some ⟨x, 0, none⟩), .int .i64 x1] w2 fun r w' => r = .returned (.bool E) ∧ ∃ S3 Sx3, PQ w w' p x R K2 S3 Sx3 db #[.int .i64 x0, .int .i64 x1, .int .i64 x2]) := fun w2 S' hmid => by
              have := rcancel_any x R K Sx w2 x1 hmid.rf HQ.out.pp.kd
              rw [← hK2, ← hE] at this
              exact this.mono fun r w' ⟨e1, e2⟩ => ⟨e1, hmid.fin e2 HND.out⟩
            have bE : (E == E) = true := by simp
            have KP : Hid (∀ w' : World, Blk w' db #[.int .i64 x0, .int .i64 x1, .int .i64 x2] 31 → w'.cell? ⟨db, 1, none⟩ = some (.int .i64 x1)) := fun w' hb => hb.cell (o := 1) rfl
            clear hK2 hE HQ
            go_region_held3 (fun w' => w'.cell? ⟨db, 1, none⟩ = some (.int .i64 x1))
              (first | exact KP.out _ HQD.out.bk | exact KP.out _ HM2.out.bk | exact KP.out _ HB3.out)
              (first | (go_at_call 18; ((with_reducible refine C1.out.mono ?_); rintro e w2 ⟨rfl, S2, hm2⟩; have HM2 := Lib.hid hm2; clear hm2)) | (go_at_call 19; ((with_reducible refine (C2.out _ S2 HM2.out).mono ?_); rintro e w3 ⟨rfl, hf3⟩; have HFIN := Lib.hid hf3; have HB3 : Hid (Blk w3 db #[.int .i64 x0, .int .i64 x1, .int .i64 x2] 31) := (by obtain ⟨_, _, hq⟩ := hf3; exact hq.bk); clear hf3)))
            rename_i hHeld
            clear hHeld HM2 HQD HB3 C1 C2 KP
            go_wp2_with fail
            obtain ⟨S3, Sx3, hq3⟩ := HFIN.out
            have HQ3 := Lib.hid hq3
            clear hq3 HFIN
            obtain ⟨A7, c7, g7, _, _, _⟩ := HQ3.out.pp.rf.head
            obtain ⟨n8, hn8⟩ : ∃ n8, n8 = K2.length := ⟨_, rfl⟩
            obtain ⟨y8, hy8⟩ : ∃ y8, y8 = lft K2 x1 := ⟨_, rfl⟩
            have hx7 : w3.cell? ⟨x, 1, none⟩ = some (.slice A7 n8 c7) := by rw [hn8]; exact g7.cell (o := 1) rfl
            have hd7 : w3.cell? ⟨db, 1, none⟩ = some (.int .i64 x1) := HQ3.out.bk.cell (o := 1) rfl
            have hn8l : n8 ≤ 256 := by rw [hn8]; exact HQ3.out.pp.kd.len
            have CL : Hid (∀ m, Calls Try.prog 20 #[.pointer (some ⟨p, 0, none⟩)] (w3.drewN m) fun r w' => r = .returned (.int .i64 n8) ∧ w' = w3.drewN m) := fun m => by
              have := len_any p R _ S3 _ (HQ3.out.no ((But.refl No w3).drewN m)).pp.hw.dp
              rw [length_isort, ← hn8] at this; exact this
            have CF1 : Hid (∀ m, Calls Try.prog 21 #[.pointer (some ⟨p, 0, none⟩), .int .i64 x1] (w3.drewN m) fun r w' => r = .returned (.int .i64 y8) ∧ w' = w3.drewN m) := fun m => by
              have := left_any p R _ S3 _ x1 (HQ3.out.no ((But.refl No w3).drewN m)).pp.hw.dp
              rw [lft_isort HQ3.out.pp.nd, ← hy8] at this; exact this
            have CF2 : Hid (∀ m, Calls Try.prog 22 #[.pointer (some ⟨x, 0, none⟩), .int .i64 x1] (w3.drewN m) fun r w' => r = .returned (.int .i64 y8) ∧ w' = w3.drewN m) := fun m => by
              rw [hy8]; exact rleft_any x R K2 Sx3 _ x1 (HQ3.out.no ((But.refl No w3).drewN m)).pp.rf HQ3.out.pp.kd
            have bq1 : ((n8 : Int) != (n8 : Int)) = false := by simp
            have bq3 : (y8 != y8) = false := by simp
            have HNX : Hid (∀ m, Rel w (w3.drewN m) p x R) := fun m => ⟨K2, S3, Sx3, (HQ3.out.no ((But.refl No w3).drewN m)).pp⟩
            clear g7 hn8 hy8 HQ3
            go_quiet (first | (go_at_call 20; with_reducible exact Calls.quiet_of_same (CL.out _)) | (go_at_call 21; with_reducible exact Calls.quiet_of_same (CF1.out _)) | (go_at_call 22; with_reducible exact Calls.quiet_of_same (CF2.out _)))
            clear hx7 hd7
            go_wp2
            go_roundw
            case rel => exact ⟨k + 1, by go_num, by omega, by omega, HNX.out _⟩
            case measure => simp [intOf]; omega
    · have HB := Lib.hid HPS.out.hw.but
      by_cases hlt : k < n
      · have b1 : (k : Int) < (n : Int) := by omega
        have b2 : decide ((k : Int) < 300) = false := by simp; omega
        go_wp2
        go_ret
        exact ⟨rfl, HB.out⟩
      · have b1 : decide ((k : Int) < (n : Int)) = false := by simp; omega
        go_wp2
        go_ret
        exact ⟨rfl, HB.out⟩
theorem walk (a0 : Int) (w0 : (Lit.int .i64 a0).wf = true) (A : Option Addr) (n c : Nat) (kd di dk : Nat → Int) (w : World) (hd : RdD w A n kd di dk) :
    Calls Try.prog 3 #[.int .i64 a0, .slice A n c] w fun e w' => e = .returned (.bool true) ∧ But No w w' := by
  by_cases h : a0 < 0 ∨ 256 < a0
  · exact walk0 a0 A n c w h
  · exact walk1 a0 A n c kd di dk w hd (by omega) (by omega)
end Go.Proofs.Ytfejnokljddomaa.deltaPlays
