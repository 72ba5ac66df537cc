/- A ring does, deed by deed, just what the chapter says, with any room: RingPlays returns true. (The walk.) -/
import Derived.Test.YthakginneapdeaaR3
namespace Go.Proofs.Ythakginneapdeaa
open Go.ChangeShapes Go.WideShapes Go.ChangeAt Go.RowKit Go.Deep
namespace ringPlays
/-- Both rings, the program's and the document's, hold L. -/
structure PP (w wr : World) (p x : Nat) (R T : Int) (L : List It) (S Sx : Nat → Prop) : Prop where
  hw : Hw w wr S p R T L
  rf : RF wr Sx x R T L
  ds : ∀ k, S k → ¬ Sx k
  nx : ∀ k, Sx k → w.heap.size ≤ k
theorem PP.no {w wr wd : World} {p x : Nat} {R T : Int} {L : List It} {S Sx : Nat → Prop} (h : PP w wr p x R T L S Sx) (hb : But No wr wd) : PP w wd p x R T L S Sx :=
  ⟨h.hw.no hb, h.rf.no hb, h.ds, h.nx⟩
theorem PP.mid {w wd w2 : World} {p x : Nat} {R T T' : Int} {L L' : List It} {S Sx : Nat → Prop} (h : PP w wd p x R T L S Sx) (hm : Mv wd S p R T' L' w2) : RF w2 Sx x R T L :=
  h.rf.but hm.2 (fun k hk hs => h.ds k hs hk)
theorem PP.step {w wd w2 w3 : World} {p x : Nat} {R T T' : Int} {L L' : List It} {S Sx : Nat → Prop} (h : PP w wd p x R T L S Sx) (hm : Mv wd S p R T' L' w2) (hr : Rm w2 Sx x R T' L' w3) : ∃ Sx', PP w w3 p x R T' L' S Sx' := by
  have h1 := h.hw.step hm
  obtain ⟨Sx', r1, r2, r3⟩ := hr
  have hsz := h1.but.size
  refine ⟨Sx', ⟨⟨h1.rp.but r2 (fun k hk hx => h.ds k hk hx), h1.but.andThen r2 (fun k hk => .inr (h.nx k hk)), h1.new⟩, r1, fun k hk hx => ?_, fun k hk => (r3 k hk).elim (h.nx k) (fun g => by omega)⟩⟩
  exact (r3 k hx).elim (h.ds k hk) (fun g => by have := h1.rp.lt k hk; omega)
theorem PP.beside {w wr w' : World} {p x b : Nat} {R T : Int} {L : List It} {S Sx : Nat → Prop} (h : PP w wr p x R T L S Sx) (hb : But (Just b) wr w') (hs : ¬ S b) (hx : ¬ Sx b) (hn : w.heap.size ≤ b) : PP w w' p x R T L S Sx :=
  ⟨⟨h.hw.rp.but hb (fun k hk e => hs (e ▸ hk)), h.hw.but.andThen hb (fun k e => .inr (e ▸ hn)), h.hw.new⟩, h.rf.but hb (fun k hk e => hx (e ▸ hk)), h.ds, h.nx⟩
theorem side1 {wd w2 : World} {p : Nat} {R T : Int} {L : List It} {S : Nat → Prop} {b : Nat} {cur : Array Value} {e : TypeId} (hb : Blk wd b cur e) (hs : ¬ S b) (hm : Mv wd S p R T L w2) : Blk w2 b cur e := hb.but hm.2 hs
theorem side2 {wd w2 w3 : World} {p x : Nat} {R T R' T' : Int} {L L' : List It} {S Sx : Nat → Prop} {b : Nat} {cur : Array Value} {e : TypeId} (hb : Blk wd b cur e) (hs : ¬ S b) (hx : ¬ Sx b) (hm : Mv wd S p R T L w2) (hr : Rm w2 Sx x R' T' L' w3) : Blk w3 b cur e := by
  obtain ⟨Sx', r1, r2, r3⟩ := hr
  exact (side1 hb hs hm).but r2 hx
end ringPlays
theorem RF.ids {w : World} {S : Nat → Prop} {x : Nat} {R T : Int} {L : List It} (h : RF w S x R T L) : ∃ A c, w.cell? ⟨x, 1, none⟩ = some (.slice A L.length c) ∧ Ov w (.slice A L.length c) (L.map It.id) := by
  obtain ⟨v1, v2, h1, h2⟩ := h.ex
  obtain ⟨A1, c1, A2, c2, rfl, rfl, l1, l2⟩ := h1.head
  refine ⟨A1, c1, ?_, ?_⟩
  · have := h1.hx.cell (o := 1) rfl; rwa [List.length_map] at this
  · have := h1.o1; rwa [List.length_map] at this
theorem putT_up (R T : Int) (L : List It) (a : Int) : putT R T L a ≤ T + 1 := by unfold putT; split <;> omega
namespace ringPlays
def Rel (w wr : World) (p x : Nat) (R : Int) (k : Nat) : Prop := ∃ S Sx T L, PP w wr p x R T L S Sx ∧ T ≤ k
set_option maxHeartbeats 1000000 in
set_option maxRecDepth 100000 in
theorem walk0 (a0 : Int) (A : Option Addr) (n c : Nat) (w : World) (hb : a0 < 0 ∨ 256 < a0) :
    Calls Try.prog 3 #[.int .i64 a0, .slice A n c] w fun e w' => e = .returned (.bool true) ∧ But No w w' := by
  have C1 : Hid (∀ w, Calls Try.prog 8 #[.int .i64 a0] w fun r w' => r = .returned (.tuple #[.pointer none, .int .i64 1]) ∧ w = w') := fun w => new_bad a0 w hb
  have C2 : Hid (∀ w, Calls Try.prog 9 #[.int .i64 a0] w fun r w' => r = .returned (.pointer none) ∧ w = w') := fun w => rnew_bad a0 w hb
  clear hb
  go_enter Try.func3, Try.ntmps3
  go_wp2_with (first
    | (go_at_call 7; refine (examples_any _).mono ?_; rintro e we ⟨rfl, hbe⟩; have HE := Lib.hid hbe; clear hbe)
    | (go_at_call 8; refine (C1.out _).mono ?_; rintro e w1 ⟨rfl, rfl⟩)
    | (go_at_call 9; refine (C2.out _).mono ?_; rintro e w1 ⟨rfl, rfl⟩))
  go_ret
  exact ⟨rfl, HE.out⟩
set_option maxHeartbeats 20000000 in
set_option maxRecDepth 100000 in
theorem walk1 (R : Int) (A : Option Addr) (n c : Nat) (kd di : Nat → Int) (w : World) (hd : RdD w A n kd di) (hR0 : 0 ≤ R) (hR1 : R ≤ 256) :
    Calls Try.prog 3 #[.int .i64 R, .slice A n c] w fun e w' => e = .returned (.bool true) ∧ But No w w' := by
  have HD := Lib.hid hd
  have hmax := hd.max
  clear hd
  go_enter Try.func3, Try.ntmps3
  go_wp2_with (first
    | (go_at_call 7; refine (examples_any _).mono ?_; rintro e we ⟨rfl, hbe⟩; have HE := Lib.hid hbe; clear hbe)
    | (go_at_call 8; refine (new_ok R _ hR0 hR1).mono ?_; rintro e w1 ⟨p, rfl, hne⟩; have HN1 := Lib.hid hne; clear hne)
    | (go_at_call 9; refine (rnew_ok R _ hR0 hR1).mono ?_; rintro e w2 ⟨rfl, hne⟩; have HN2 := Lib.hid hne; clear hne))
  have H1 : Hid (Rel w w2 p w1.heap.size R 0) := by
    obtain ⟨S, hp, hb, hs⟩ := HN1.out
    obtain ⟨Sx, hp2, hb2, hs2⟩ := HN2.out
    have hw : Hw w w1 S p R 0 [] := ⟨hp, HE.out.trans hb, fun k hk => Nat.le_trans HE.out.size (hs k hk)⟩
    exact ⟨S, Sx, 0, [], ⟨hw.no hb2, hp2, fun k hk hx => by have := hp.lt k hk; have := hs2 k hx; omega, fun k hk => by have := hs2 k hk; have := hw.but.size; omega⟩, by omega⟩
  clear HN1 HN2
  generalize hx : w1.heap.size = x at H1 ⊢
  clear hx
  go_loopw [9] (fun s wr => ∃ k : Nat, s = .int .i64 k ∧ k ≤ n ∧ k ≤ 400 ∧ Hid (Rel w wr p x R k)) (fun s _ => n - (intOf s).toNat)
  case atStart => exact ⟨0, rfl, by omega, by omega, H1⟩
  case round =>
    obtain ⟨k, rfl, hk, hk3, hrel⟩ := hrel
    clear H1
    obtain ⟨S, Sx, T, L, hps, htk⟩ := hrel.out
    have HPS0 := Lib.hid hps
    have HTK := Lib.hid htk
    have hT : T < 1000000 := by omega
    have hT0 := hps.hw.rp.t0
    clear hps htk hrel
    by_cases hgo : k < n ∧ k < 400
    · obtain ⟨hlt, hl3⟩ := hgo
      obtain ⟨eb, eoff, rfl, hbl, hc⟩ := (HD.out.no HPS0.out.hw.but).at_ (by omega)
      obtain ⟨c0, c1⟩ := hc k hlt
      obtain ⟨f0, f1⟩ := HD.out.fit k hlt
      have q0 := pk_lt (kd k) 3 (by omega)
      generalize kd k = x0 at c0 f0 q0
      generalize di k = x1 at c1 f1
      have F0 := Lib.hid f0
      have F1 := Lib.hid f1
      have kn' : (k : Int) < (n : Int) := by omega
      have k3' : (k : Int) < 400 := by omega
      have HND : Hid (¬ S wr.heap.size ∧ ¬ Sx wr.heap.size) := ⟨fun hk => by have := HPS0.out.hw.rp.lt _ hk; omega, fun hk => by have := HPS0.out.rf.lt _ hk; omega⟩
      have HPA : Hid (PP w (wr.alloc (.cells #[.int .i64 x0, .int .i64 x1] 31)) p x R T L S Sx) := HPS0.out.no ((But.refl No wr).alloc _)
      have HBA : Hid (Blk (wr.alloc (.cells #[.int .i64 x0, .int .i64 x1] 31)) wr.heap.size #[.int .i64 x0, .int .i64 x1] 31) := Blk.new wr _ _
      clear hc hbl f0 f1
      by_cases hc0 : pk x0 3 = 0
      · have CK : Hid (∀ w, Calls Try.prog 10 #[.int .i64 x0, .int .i64 3] w fun e w' => e = .returned (.int .i64 0) ∧ w = w') := fun w => by rw [← hc0]; exact pick_any x0 3 w F0.out (by omega) (by omega)
        clear hc0 q0
        obtain ⟨T2, hT2⟩ : ∃ t, t = putT R T L x1 := ⟨_, rfl⟩
        obtain ⟨L2, hL2⟩ : ∃ l, l = putL R T L x1 := ⟨_, rfl⟩
        have HT2 : Hid (T2 ≤ ((k + 1 : Nat) : Int)) := by show _ ≤ _; rw [hT2]; have := putT_up R T L x1; have := HTK.out; omega
        obtain ⟨E, hE⟩ : ∃ e, e = putE R L x1 := ⟨_, rfl⟩
        obtain ⟨K, hK⟩ : ∃ e, e = putK R T L x1 := ⟨_, rfl⟩
        have C1 : Hid (∀ w', RP w' S p R T L → Calls Try.prog 11 #[.pointer (some ⟨p, 0, none⟩), .int .i64 x1] w' fun r w'' => r = .returned (.tuple #[.int .i64 K, .int .i64 E]) ∧ Mv w' S p R T2 L2 w'') := fun w' h' => by rw [hE, hK, hT2, hL2]; exact put_any p R T L S w' x1 h' F1.out hT
        have C2 : Hid (∀ w', RF w' Sx x R T L → Calls Try.prog 12 #[.pointer (some ⟨x, 0, none⟩), .int .i64 x1] w' fun r w'' => r = .returned (.tuple #[.int .i64 K, .int .i64 E]) ∧ Rm w' Sx x R T2 L2 w'') := fun w' h' => by rw [hE, hK, hT2, hL2]; exact rput_any x R T L Sx w' x1 h' hR1 hT0 hT
        have bK : (K == K) = true := by simp
        have bE : (E == E) = true := by simp
        clear hE hK hT2 hL2
        go_wp2_with (first | (go_at_call 10; ((with_reducible refine (CK.out _).mono ?_); rintro e w2 ⟨rfl, rfl⟩)) | (go_at_call 11; (with_reducible refine (C1.out _ HPA.out.hw.rp).mono ?_); rintro e w2 ⟨rfl, hm2⟩; have HM2 := Lib.hid hm2; have HX2 := Lib.hid (HPA.out.mid hm2); have hd2 : w2.cell? ⟨wr.heap.size, 1, none⟩ = some (.int .i64 x1) := (side1 HBA.out HND.out.1 hm2).cell (o := 1) rfl; clear hm2) | (go_at_call 12; (with_reducible refine (C2.out _ HX2.out).mono ?_); rintro e w3 ⟨rfl, hm3⟩; have HM3 := Lib.hid hm3; clear hm3) | (go_at_call 17; fail))
        have HSTEP : Hid (∃ Sx', PP w w3 p x R T2 L2 S Sx') := HPA.out.step HM2.out HM3.out
        have HBD3 : Hid (Blk w3 wr.heap.size #[.int .i64 x0, .int .i64 x1] 31) := side2 HBA.out HND.out.1 HND.out.2 HM2.out HM3.out
        clear hd2 HM2 HM3 HX2 HPA HBA HND
        generalize wr.heap.size = db at HBD3 ⊢
        obtain ⟨Sx3, hps⟩ := HSTEP.out
        have HPS := Lib.hid hps
        clear hps HSTEP
        obtain ⟨n8, hn8⟩ : ∃ n8, n8 = L2.length := ⟨_, rfl⟩
        have HN8 := Lib.hid hn8
        have hn8l : n8 ≤ 256 := by rw [hn8]; exact HPS.out.rf.len
        clear hn8
        obtain ⟨g1, hg1⟩ : ∃ g1, g1 = fst1 L2 := ⟨_, rfl⟩
        obtain ⟨g3, hg3⟩ : ∃ g3, g3 = fst3 L2 := ⟨_, rfl⟩
        have HG1 : Hid (¬ n8 = 0 → (L2.getD 0 it0).id = g1) := fun _ => by rw [hg1, fst1_get]
        have HG3 : Hid (g3 = decide (0 < n8)) := by show _ = _; rw [hg3, fst3_len, HN8.out]
        obtain ⟨ix, hix⟩ : ∃ i, i = idx L2 x1 := ⟨_, rfl⟩
        obtain ⟨tx, htx⟩ : ∃ i, i = tkt L2 x1 := ⟨_, rfl⟩
        have CA : Hid (Calls Try.prog 17 #[.pointer (some ⟨p, 0, none⟩)] w3 fun e w' => ∃ b, e = .returned (.slice (some ⟨b, 0, none⟩) n8 n8) ∧ Ints w' b (L2.map It.id) ∧ But No w3 w' ∧ w3.heap.size ≤ b) := by
          rw [HN8.out]; exact all_any p R T2 L2 S w3 HPS.out.hw.rp
        have CN : Hid (∀ w' b A c, Ints w' b (L2.map It.id) → Ov w' (.slice A n8 c) (L2.map It.id) → Calls Try.prog 18 #[.slice (some ⟨b, 0, none⟩) n8 n8, .slice A n8 c] w' fun e w'' => e = .returned (.bool true) ∧ But No w' w'') := fun w' b A c h1 h2 => by
          have hlm : (L2.map It.id).length = n8 := by rw [List.length_map, HN8.out]
          have r1 := h1.rl (by omega)
          rw [hlm] at r1
          have := numbers_any (some ⟨b, 0, none⟩) A n8 n8 n8 c _ _ w' r1 (h2.rl (by omega)).1
          simp only [decide_true] at this
          exact this
        have CF : Hid (∀ w', But No w3 w' → Calls Try.prog 19 #[.pointer (some ⟨p, 0, none⟩)] w' fun e w'' => e = .returned (.tuple #[.int .i64 g1, .bool g3]) ∧ ∃ m, w'' = w'.drewN m) := fun w' hb => by
          rw [hg1, hg3]; exact head_any p R T2 L2 S w' (HPS.out.no hb).hw.rp
        clear hg1 hg3
        go_wp2_with fail
        refine CA.out.mono ?_
        rintro e w4 ⟨b, rfl, hI, hb4, hbl⟩
        have HI := Lib.hid hI
        have HB4 := Lib.hid hb4
        have HP4 := Lib.hid (HPS.out.no hb4)
        obtain ⟨A4, c4, hx4, hov4⟩ := HP4.out.rf.ids
        rw [← HN8.out] at hx4 hov4
        have HOV := Lib.hid hov4
        have HNB : Hid (¬ S b ∧ ¬ Sx3 b ∧ w.heap.size ≤ b) := by
          refine ⟨fun hk => ?_, fun hk => ?_, ?_⟩
          · have := HPS.out.hw.rp.lt _ hk; omega
          · have := HPS.out.rf.lt _ hk; omega
          · have := HPS.out.hw.but.size; omega
        clear hI hb4 hbl hov4
        go_wp2_with (first | (go_at_call 18; (with_reducible refine (CN.out _ _ _ _ HI.out HOV.out).mono ?_); rintro e w6 ⟨rfl, hb6⟩; have HB6 := Lib.hid (HB4.out.trans hb6); have HI6 := Lib.hid (HI.out.but hb6 (fun f => f)); clear hb6) | (go_at_call 19; (with_reducible refine (CF.out _ HB6.out).mono ?_); rintro e w7 ⟨rfl, hw7⟩; have HB7 := Lib.hid (HB6.out.trans (drewN_but hw7)); have HI7 := Lib.hid (HI6.out.but (drewN_but hw7) (fun f => f)); clear hw7))
        have HP7 := Lib.hid (HPS.out.no HB7.out)
        obtain ⟨A7, c7, hx7, hov7⟩ := HP7.out.rf.ids
        rw [← HN8.out] at hx7
        have hd7 : w7.cell? ⟨db, 1, none⟩ = some (.int .i64 x1) := (HBD3.out.but HB7.out (fun f => f)).cell (o := 1) rfl
        have CL : Hid (∀ m, Calls Try.prog 20 #[.pointer (some ⟨p, 0, none⟩)] (w7.drewN m) fun r w' => r = .returned (.int .i64 n8) ∧ w' = w7.drewN m) := fun m => by
          rw [HN8.out]; exact len_any p R T2 L2 S _ (HP7.out.no ((But.refl No w7).drewN m)).hw.rp
        have CP1 : Hid (∀ m, Calls Try.prog 21 #[.pointer (some ⟨p, 0, none⟩), .int .i64 x1] (w7.drewN m) fun r w' => r = .returned (.int .i64 ix) ∧ ∃ m', w' = (w7.drewN m).drewN m') := fun m => by
          rw [hix]; exact place_any p R T2 L2 S _ x1 (HP7.out.no ((But.refl No w7).drewN m)).hw.rp
        have CP2 : Hid (∀ m, Calls Try.prog 22 #[.pointer (some ⟨x, 0, none⟩), .int .i64 x1] (w7.drewN m) fun r w' => r = .returned (.int .i64 ix) ∧ w' = w7.drewN m) := fun m => by
          rw [hix]; exact rplace_any x R T2 L2 Sx3 _ x1 (HP7.out.no ((But.refl No w7).drewN m)).rf
        have CT1 : Hid (∀ m, Calls Try.prog 23 #[.pointer (some ⟨p, 0, none⟩), .int .i64 x1] (w7.drewN m) fun r w' => r = .returned (.int .i64 tx) ∧ ∃ m', w' = (w7.drewN m).drewN m') := fun m => by
          rw [htx]; exact ticket_any p R T2 L2 S _ x1 (HP7.out.no ((But.refl No w7).drewN m)).hw.rp
        have CT2 : Hid (∀ m, Calls Try.prog 24 #[.pointer (some ⟨x, 0, none⟩), .int .i64 x1] (w7.drewN m) fun r w' => r = .returned (.int .i64 tx) ∧ w' = w7.drewN m) := fun m => by
          rw [htx]; exact rticket_any x R T2 L2 Sx3 _ x1 (HP7.out.no ((But.refl No w7).drewN m)).rf
        have bq1 : ((n8 : Int) != (n8 : Int)) = false := by simp
        have bq2 : (ix != ix) = false := by simp
        have bq3 : (tx != tx) = false := by simp
        clear hix htx hov7 hx4 CA CN CF HI HI6 HB4 HB6 HOV HPS HP4 HBD3 HB7
        by_cases h8 : n8 = 0
        · have bp : decide ((0 : Int) < (n8 : Int)) = false := by simp; omega
          have bp2 : ¬ 0 < n8 := by omega
          have HZ8 : Hid (n8 = 0) := h8
          have eg3 : g3 = false := by rw [HG3.out]; simp; omega
          subst eg3
          clear h8
          go_quiet (first | (go_at_call 20; with_reducible exact Calls.quiet_of_same (CL.out _)) | (go_at_call 21; with_reducible exact Calls.quiet_of (CP1.out _)) | (go_at_call 22; with_reducible exact Calls.quiet_of_same (CP2.out _)) | (go_at_call 23; with_reducible exact Calls.quiet_of (CT1.out _)) | (go_at_call 24; with_reducible exact Calls.quiet_of_same (CT2.out _)))
          clear hx7 hd7
          generalize hw9 : w7.drewN _ = w9
          have HP9 : Hid (PP w w9 p x R T2 L2 S Sx3) := by rw [← hw9]; exact HP7.out.no ((But.refl No w7).drewN _)
          have HC9 : Hid (∃ cur, Blk w9 b cur 3 ∧ cur.size = n8) := by
            rw [← hw9]
            exact ⟨_, Blk.but (S := No) HI7.out ((But.refl No w7).drewN _) (fun f => f), by simp; exact HN8.out.symm⟩
          clear hw9 HP7 HI7 CL CP1 CP2 CT1 CT2 bp bp2
          go_wp2_with fail
          go_loopw [24] (fun s wx => ∃ j : Nat, s = .int .i64 j ∧ j ≤ n8 ∧ Hid (PP w wx p x R T2 L2 S Sx3) ∧ Hid (∃ cur, Blk wx b cur 3 ∧ cur.size = n8)) (fun s _ => n8 - (intOf s).toNat)
          case atStart => exact ⟨0, rfl, by omega, HP9, HC9⟩
          case round =>
            obtain ⟨j, rfl, hj, hp9, hc9⟩ := hrel
            clear HP9 HC9
            by_cases hjl : j < n8
            · exact absurd hjl (by have := HZ8.out; omega)
            · have jn : decide ((j : Int) < (n8 : Int)) = false := by simp; omega
              have jn2 : ¬ j < n8 := hjl
              have HF : Hid (Rel w wr p x R (k + 1)) := ⟨S, Sx3, T2, L2, hp9.out, HT2.out⟩
              clear hp9 hc9
              go_wp2
              go_roundw
              case rel => exact ⟨k + 1, by go_num, by omega, by omega, HF⟩
              case measure => simp [intOf]; omega
        · have h0 : w7.cell? ⟨b, 0, none⟩ = some (.int .i64 g1) := by rw [← HG1.out h8]; exact ids_cell (j := 0) HI7.out (by rw [← HN8.out]; omega)
          have bp : decide ((0 : Int) < (n8 : Int)) = true := by simp; omega
          have bpp : (0 : Int) < (n8 : Int) := by omega
          have bp3 : 0 < n8 := by omega
          have bp4 : decide (0 < n8) = true := by simp; omega
          have bg : (g1 != g1) = false := by simp
          have eg3 : g3 = true := by rw [HG3.out]; simp; omega
          subst eg3
          clear h8
          go_quiet (first | (go_at_call 20; with_reducible exact Calls.quiet_of_same (CL.out _)) | (go_at_call 21; with_reducible exact Calls.quiet_of (CP1.out _)) | (go_at_call 22; with_reducible exact Calls.quiet_of_same (CP2.out _)) | (go_at_call 23; with_reducible exact Calls.quiet_of (CT1.out _)) | (go_at_call 24; with_reducible exact Calls.quiet_of_same (CT2.out _)))
          clear hx7 hd7
          generalize hw9 : w7.drewN _ = w9
          have HP9 : Hid (PP w w9 p x R T2 L2 S Sx3) := by rw [← hw9]; exact HP7.out.no ((But.refl No w7).drewN _)
          have HC9 : Hid (∃ cur, Blk w9 b cur 3 ∧ cur.size = n8) := by
            rw [← hw9]
            exact ⟨_, Blk.but (S := No) HI7.out ((But.refl No w7).drewN _) (fun f => f), by simp; exact HN8.out.symm⟩
          clear h0
          clear hw9 HP7 HI7 CL CP1 CP2 CT1 CT2 bp bpp bp3 bp4
          go_wp2_with fail
          go_loopw [24] (fun s wx => ∃ j : Nat, s = .int .i64 j ∧ j ≤ n8 ∧ Hid (PP w wx p x R T2 L2 S Sx3) ∧ Hid (∃ cur, Blk wx b cur 3 ∧ cur.size = n8)) (fun s _ => n8 - (intOf s).toNat)
          case atStart => exact ⟨0, rfl, by omega, HP9, HC9⟩
          case round =>
            obtain ⟨j, rfl, hj, hp9, hc9⟩ := hrel
            clear HP9 HC9
            by_cases hjl : j < n8
            · obtain ⟨cur, hcb, hcs⟩ := hc9.out
              have hcell := hcb.cell (o := j) (v := cur[j]'(by omega)) (Array.getElem?_eq_getElem (by omega))
              have hfz := hcb.frozen j
              generalize cur[j]'(by omega) = old at hcell
              have HN1 : Hid (PP w (wr.setCell ⟨b, j, none⟩ (.int .i64 (-1))) p x R T2 L2 S Sx3) := hp9.out.beside ((But.refl _ wr).setCell (p := ⟨b, j, none⟩) (just b) _) HNB.out.1 HNB.out.2.1 HNB.out.2.2
              have HN2 : Hid (∃ cur, Blk (wr.setCell ⟨b, j, none⟩ (.int .i64 (-1))) b cur 3 ∧ cur.size = n8) := ⟨_, hcb.set j _, by simpa using hcs⟩
              have jn : (j : Int) < (n8 : Int) := by omega
              clear hcb hcs hc9 hp9
              go_wp2
              go_roundw
              case rel => exact ⟨j + 1, by go_num, by omega, HN1, HN2⟩
              case measure => simp [intOf]; omega
            · have jn : decide ((j : Int) < (n8 : Int)) = false := by simp; omega
              have jn2 : ¬ j < n8 := hjl
              have HF : Hid (Rel w wr p x R (k + 1)) := ⟨S, Sx3, T2, L2, hp9.out, HT2.out⟩
              clear hp9 hc9
              go_wp2
              go_roundw
              case rel => exact ⟨k + 1, by go_num, by omega, by omega, HF⟩
              case measure => simp [intOf]; omega
      · by_cases hc1 : pk x0 3 = 1
        · have CK : Hid (∀ w, Calls Try.prog 10 #[.int .i64 x0, .int .i64 3] w fun e w' => e = .returned (.int .i64 1) ∧ w = w') := fun w => by rw [← hc1]; exact pick_any x0 3 w F0.out (by omega) (by omega)
          clear hc0 hc1 q0
          obtain ⟨T2, hT2⟩ : ∃ t, t = T := ⟨_, rfl⟩
          obtain ⟨L2, hL2⟩ : ∃ l, l = L.tail := ⟨_, rfl⟩
          have HT2 : Hid (T2 ≤ ((k + 1 : Nat) : Int)) := by show _ ≤ _; rw [hT2]; have := HTK.out; omega
          obtain ⟨E, hE⟩ : ∃ e, e = fst3 L := ⟨_, rfl⟩
          obtain ⟨K, hK⟩ : ∃ e, e = fst1 L := ⟨_, rfl⟩
          have C1 : Hid (∀ w', RP w' S p R T L → Calls Try.prog 13 #[.pointer (some ⟨p, 0, none⟩)] w' fun r w'' => r = .returned (.tuple #[.int .i64 K, .bool E]) ∧ Mv w' S p R T2 L2 w'') := fun w' h' => by rw [hE, hK, hT2, hL2]; exact take_any p R T L S w' h'
          have C2 : Hid (∀ w', RF w' Sx x R T L → Calls Try.prog 14 #[.pointer (some ⟨x, 0, none⟩)] w' fun r w'' => r = .returned (.tuple #[.int .i64 K, .bool E]) ∧ Rm w' Sx x R T2 L2 w'') := fun w' h' => by rw [hE, hK, hT2, hL2]; exact rtake_any x R T L Sx w' h'
          have bK : (K == K) = true := by simp
          have bE : (E == E) = true := by simp
          clear hE hK hT2 hL2
          go_wp2_with (first | (go_at_call 10; ((with_reducible refine (CK.out _).mono ?_); rintro e w2 ⟨rfl, rfl⟩)) | (go_at_call 13; (with_reducible refine (C1.out _ HPA.out.hw.rp).mono ?_); rintro e w2 ⟨rfl, hm2⟩; have HM2 := Lib.hid hm2; have HX2 := Lib.hid (HPA.out.mid hm2); clear hm2) | (go_at_call 14; (with_reducible refine (C2.out _ HX2.out).mono ?_); rintro e w3 ⟨rfl, hm3⟩; have HM3 := Lib.hid hm3; clear hm3) | (go_at_call 17; fail))
          have HSTEP : Hid (∃ Sx', PP w w3 p x R T2 L2 S Sx') := HPA.out.step HM2.out HM3.out
          have HBD3 : Hid (Blk w3 wr.heap.size #[.int .i64 x0, .int .i64 x1] 31) := side2 HBA.out HND.out.1 HND.out.2 HM2.out HM3.out
          clear HM2 HM3 HX2 HPA HBA HND
          generalize wr.heap.size = db at HBD3 ⊢
          obtain ⟨Sx3, hps⟩ := HSTEP.out
          have HPS := Lib.hid hps
          clear hps HSTEP
          obtain ⟨n8, hn8⟩ : ∃ n8, n8 = L2.length := ⟨_, rfl⟩
          have HN8 := Lib.hid hn8
          have hn8l : n8 ≤ 256 := by rw [hn8]; exact HPS.out.rf.len
          clear hn8
          obtain ⟨g1, hg1⟩ : ∃ g1, g1 = fst1 L2 := ⟨_, rfl⟩
          obtain ⟨g3, hg3⟩ : ∃ g3, g3 = fst3 L2 := ⟨_, rfl⟩
          have HG1 : Hid (¬ n8 = 0 → (L2.getD 0 it0).id = g1) := fun _ => by rw [hg1, fst1_get]
          have HG3 : Hid (g3 = decide (0 < n8)) := by show _ = _; rw [hg3, fst3_len, HN8.out]
          obtain ⟨ix, hix⟩ : ∃ i, i = idx L2 x1 := ⟨_, rfl⟩
          obtain ⟨tx, htx⟩ : ∃ i, i = tkt L2 x1 := ⟨_, rfl⟩
          have CA : Hid (Calls Try.prog 17 #[.pointer (some ⟨p, 0, none⟩)] w3 fun e w' => ∃ b, e = .returned (.slice (some ⟨b, 0, none⟩) n8 n8) ∧ Ints w' b (L2.map It.id) ∧ But No w3 w' ∧ w3.heap.size ≤ b) := by
            rw [HN8.out]; exact all_any p R T2 L2 S w3 HPS.out.hw.rp
          have CN : Hid (∀ w' b A c, Ints w' b (L2.map It.id) → Ov w' (.slice A n8 c) (L2.map It.id) → Calls Try.prog 18 #[.slice (some ⟨b, 0, none⟩) n8 n8, .slice A n8 c] w' fun e w'' => e = .returned (.bool true) ∧ But No w' w'') := fun w' b A c h1 h2 => by
            have hlm : (L2.map It.id).length = n8 := by rw [List.length_map, HN8.out]
            have r1 := h1.rl (by omega)
            rw [hlm] at r1
            have := numbers_any (some ⟨b, 0, none⟩) A n8 n8 n8 c _ _ w' r1 (h2.rl (by omega)).1
            simp only [decide_true] at this
            exact this
          have CF : Hid (∀ w', But No w3 w' → Calls Try.prog 19 #[.pointer (some ⟨p, 0, none⟩)] w' fun e w'' => e = .returned (.tuple #[.int .i64 g1, .bool g3]) ∧ ∃ m, w'' = w'.drewN m) := fun w' hb => by
            rw [hg1, hg3]; exact head_any p R T2 L2 S w' (HPS.out.no hb).hw.rp
          clear hg1 hg3
          go_wp2_with fail
          refine CA.out.mono ?_
          rintro e w4 ⟨b, rfl, hI, hb4, hbl⟩
          have HI := Lib.hid hI
          have HB4 := Lib.hid hb4
          have HP4 := Lib.hid (HPS.out.no hb4)
          obtain ⟨A4, c4, hx4, hov4⟩ := HP4.out.rf.ids
          rw [← HN8.out] at hx4 hov4
          have HOV := Lib.hid hov4
          have HNB : Hid (¬ S b ∧ ¬ Sx3 b ∧ w.heap.size ≤ b) := by
            refine ⟨fun hk => ?_, fun hk => ?_, ?_⟩
            · have := HPS.out.hw.rp.lt _ hk; omega
            · have := HPS.out.rf.lt _ hk; omega
            · have := HPS.out.hw.but.size; omega
          clear hI hb4 hbl hov4
          go_wp2_with (first | (go_at_call 18; (with_reducible refine (CN.out _ _ _ _ HI.out HOV.out).mono ?_); rintro e w6 ⟨rfl, hb6⟩; have HB6 := Lib.hid (HB4.out.trans hb6); have HI6 := Lib.hid (HI.out.but hb6 (fun f => f)); clear hb6) | (go_at_call 19; (with_reducible refine (CF.out _ HB6.out).mono ?_); rintro e w7 ⟨rfl, hw7⟩; have HB7 := Lib.hid (HB6.out.trans (drewN_but hw7)); have HI7 := Lib.hid (HI6.out.but (drewN_but hw7) (fun f => f)); clear hw7))
          have HP7 := Lib.hid (HPS.out.no HB7.out)
          obtain ⟨A7, c7, hx7, hov7⟩ := HP7.out.rf.ids
          rw [← HN8.out] at hx7
          have hd7 : w7.cell? ⟨db, 1, none⟩ = some (.int .i64 x1) := (HBD3.out.but HB7.out (fun f => f)).cell (o := 1) rfl
          have CL : Hid (∀ m, Calls Try.prog 20 #[.pointer (some ⟨p, 0, none⟩)] (w7.drewN m) fun r w' => r = .returned (.int .i64 n8) ∧ w' = w7.drewN m) := fun m => by
            rw [HN8.out]; exact len_any p R T2 L2 S _ (HP7.out.no ((But.refl No w7).drewN m)).hw.rp
          have CP1 : Hid (∀ m, Calls Try.prog 21 #[.pointer (some ⟨p, 0, none⟩), .int .i64 x1] (w7.drewN m) fun r w' => r = .returned (.int .i64 ix) ∧ ∃ m', w' = (w7.drewN m).drewN m') := fun m => by
            rw [hix]; exact place_any p R T2 L2 S _ x1 (HP7.out.no ((But.refl No w7).drewN m)).hw.rp
          have CP2 : Hid (∀ m, Calls Try.prog 22 #[.pointer (some ⟨x, 0, none⟩), .int .i64 x1] (w7.drewN m) fun r w' => r = .returned (.int .i64 ix) ∧ w' = w7.drewN m) := fun m => by
            rw [hix]; exact rplace_any x R T2 L2 Sx3 _ x1 (HP7.out.no ((But.refl No w7).drewN m)).rf
          have CT1 : Hid (∀ m, Calls Try.prog 23 #[.pointer (some ⟨p, 0, none⟩), .int .i64 x1] (w7.drewN m) fun r w' => r = .returned (.int .i64 tx) ∧ ∃ m', w' = (w7.drewN m).drewN m') := fun m => by
            rw [htx]; exact ticket_any p R T2 L2 S _ x1 (HP7.out.no ((But.refl No w7).drewN m)).hw.rp
          have CT2 : Hid (∀ m, Calls Try.prog 24 #[.pointer (some ⟨x, 0, none⟩), .int .i64 x1] (w7.drewN m) fun r w' => r = .returned (.int .i64 tx) ∧ w' = w7.drewN m) := fun m => by
            rw [htx]; exact rticket_any x R T2 L2 Sx3 _ x1 (HP7.out.no ((But.refl No w7).drewN m)).rf
          have bq1 : ((n8 : Int) != (n8 : Int)) = false := by simp
          have bq2 : (ix != ix) = false := by simp
          have bq3 : (tx != tx) = false := by simp
          clear hix htx hov7 hx4 CA CN CF HI HI6 HB4 HB6 HOV HPS HP4 HBD3 HB7
          by_cases h8 : n8 = 0
          · have bp : decide ((0 : Int) < (n8 : Int)) = false := by simp; omega
            have bp2 : ¬ 0 < n8 := by omega
            have HZ8 : Hid (n8 = 0) := h8
            have eg3 : g3 = false := by rw [HG3.out]; simp; omega
            subst eg3
            clear h8
            go_quiet (first | (go_at_call 20; with_reducible exact Calls.quiet_of_same (CL.out _)) | (go_at_call 21; with_reducible exact Calls.quiet_of (CP1.out _)) | (go_at_call 22; with_reducible exact Calls.quiet_of_same (CP2.out _)) | (go_at_call 23; with_reducible exact Calls.quiet_of (CT1.out _)) | (go_at_call 24; with_reducible exact Calls.quiet_of_same (CT2.out _)))
            clear hx7 hd7
            generalize hw9 : w7.drewN _ = w9
            have HP9 : Hid (PP w w9 p x R T2 L2 S Sx3) := by rw [← hw9]; exact HP7.out.no ((But.refl No w7).drewN _)
            have HC9 : Hid (∃ cur, Blk w9 b cur 3 ∧ cur.size = n8) := by
              rw [← hw9]
              exact ⟨_, Blk.but (S := No) HI7.out ((But.refl No w7).drewN _) (fun f => f), by simp; exact HN8.out.symm⟩
            clear hw9 HP7 HI7 CL CP1 CP2 CT1 CT2 bp bp2
            go_wp2_with fail
            go_loopw [24] (fun s wx => ∃ j : Nat, s = .int .i64 j ∧ j ≤ n8 ∧ Hid (PP w wx p x R T2 L2 S Sx3) ∧ Hid (∃ cur, Blk wx b cur 3 ∧ cur.size = n8)) (fun s _ => n8 - (intOf s).toNat)
            case atStart => exact ⟨0, rfl, by omega, HP9, HC9⟩
            case round =>
              obtain ⟨j, rfl, hj, hp9, hc9⟩ := hrel
              clear HP9 HC9
              by_cases hjl : j < n8
              · exact absurd hjl (by have := HZ8.out; omega)
              · have jn : decide ((j : Int) < (n8 : Int)) = false := by simp; omega
                have jn2 : ¬ j < n8 := hjl
                have HF : Hid (Rel w wr p x R (k + 1)) := ⟨S, Sx3, T2, L2, hp9.out, HT2.out⟩
                clear hp9 hc9
                go_wp2
                go_roundw
                case rel => exact ⟨k + 1, by go_num, by omega, by omega, HF⟩
                case measure => simp [intOf]; omega
          · have h0 : w7.cell? ⟨b, 0, none⟩ = some (.int .i64 g1) := by rw [← HG1.out h8]; exact ids_cell (j := 0) HI7.out (by rw [← HN8.out]; omega)
            have bp : decide ((0 : Int) < (n8 : Int)) = true := by simp; omega
            have bpp : (0 : Int) < (n8 : Int) := by omega
            have bp3 : 0 < n8 := by omega
            have bp4 : decide (0 < n8) = true := by simp; omega
            have bg : (g1 != g1) = false := by simp
            have eg3 : g3 = true := by rw [HG3.out]; simp; omega
            subst eg3
            clear h8
            go_quiet (first | (go_at_call 20; with_reducible exact Calls.quiet_of_same (CL.out _)) | (go_at_call 21; with_reducible exact Calls.quiet_of (CP1.out _)) | (go_at_call 22; with_reducible exact Calls.quiet_of_same (CP2.out _)) | (go_at_call 23; with_reducible exact Calls.quiet_of (CT1.out _)) | (go_at_call 24; with_reducible exact Calls.quiet_of_same (CT2.out _)))
            clear hx7 hd7
            generalize hw9 : w7.drewN _ = w9
            have HP9 : Hid (PP w w9 p x R T2 L2 S Sx3) := by rw [← hw9]; exact HP7.out.no ((But.refl No w7).drewN _)
            have HC9 : Hid (∃ cur, Blk w9 b cur 3 ∧ cur.size = n8) := by
              rw [← hw9]
              exact ⟨_, Blk.but (S := No) HI7.out ((But.refl No w7).drewN _) (fun f => f), by simp; exact HN8.out.symm⟩
            clear h0
            clear hw9 HP7 HI7 CL CP1 CP2 CT1 CT2 bp bpp bp3 bp4
            go_wp2_with fail
            go_loopw [24] (fun s wx => ∃ j : Nat, s = .int .i64 j ∧ j ≤ n8 ∧ Hid (PP w wx p x R T2 L2 S Sx3) ∧ Hid (∃ cur, Blk wx b cur 3 ∧ cur.size = n8)) (fun s _ => n8 - (intOf s).toNat)
            case atStart => exact ⟨0, rfl, by omega, HP9, HC9⟩
            case round =>
              obtain ⟨j, rfl, hj, hp9, hc9⟩ := hrel
              clear HP9 HC9
              by_cases hjl : j < n8
              · obtain ⟨cur, hcb, hcs⟩ := hc9.out
                have hcell := hcb.cell (o := j) (v := cur[j]'(by omega)) (Array.getElem?_eq_getElem (by omega))
                have hfz := hcb.frozen j
                generalize cur[j]'(by omega) = old at hcell
                have HN1 : Hid (PP w (wr.setCell ⟨b, j, none⟩ (.int .i64 (-1))) p x R T2 L2 S Sx3) := hp9.out.beside ((But.refl _ wr).setCell (p := ⟨b, j, none⟩) (just b) _) HNB.out.1 HNB.out.2.1 HNB.out.2.2
                have HN2 : Hid (∃ cur, Blk (wr.setCell ⟨b, j, none⟩ (.int .i64 (-1))) b cur 3 ∧ cur.size = n8) := ⟨_, hcb.set j _, by simpa using hcs⟩
                have jn : (j : Int) < (n8 : Int) := by omega
                clear hcb hcs hc9 hp9
                go_wp2
                go_roundw
                case rel => exact ⟨j + 1, by go_num, by omega, HN1, HN2⟩
                case measure => simp [intOf]; omega
              · have jn : decide ((j : Int) < (n8 : Int)) = false := by simp; omega
                have jn2 : ¬ j < n8 := hjl
                have HF : Hid (Rel w wr p x R (k + 1)) := ⟨S, Sx3, T2, L2, hp9.out, HT2.out⟩
                clear hp9 hc9
                go_wp2
                go_roundw
                case rel => exact ⟨k + 1, by go_num, by omega, by omega, HF⟩
                case measure => simp [intOf]; omega
        · have hc2 : pk x0 3 = 2 := by omega
          have CK : Hid (∀ w, Calls Try.prog 10 #[.int .i64 x0, .int .i64 3] w fun e w' => e = .returned (.int .i64 2) ∧ w = w') := fun w => by rw [← hc2]; exact pick_any x0 3 w F0.out (by omega) (by omega)
          clear hc0 hc1 hc2 q0
          obtain ⟨T2, hT2⟩ : ∃ t, t = T := ⟨_, rfl⟩
          obtain ⟨L2, hL2⟩ : ∃ l, l = rmv L x1 := ⟨_, rfl⟩
          have HT2 : Hid (T2 ≤ ((k + 1 : Nat) : Int)) := by show _ ≤ _; rw [hT2]; have := HTK.out; omega
          obtain ⟨E, hE⟩ : ∃ e, e = hasI L x1 := ⟨_, rfl⟩
          have C1 : Hid (∀ w', RP w' S p R T L → Calls Try.prog 15 #[.pointer (some ⟨p, 0, none⟩), .int .i64 x1] w' fun r w'' => r = .returned (.bool E) ∧ Mv w' S p R T2 L2 w'') := fun w' h' => by rw [hE, hT2, hL2]; exact drop_any p R T L S w' x1 h'
          have C2 : Hid (∀ w', RF w' Sx x R T L → Calls Try.prog 16 #[.pointer (some ⟨x, 0, none⟩), .int .i64 x1] w' fun r w'' => r = .returned (.bool E) ∧ Rm w' Sx x R T2 L2 w'') := fun w' h' => by rw [hE, hT2, hL2]; exact rdrop_any x R T L Sx w' x1 h'
          have bE : (E == E) = true := by simp
          clear hE hT2 hL2
          go_wp2_with (first | (go_at_call 10; ((with_reducible refine (CK.out _).mono ?_); rintro e w2 ⟨rfl, rfl⟩)))
          generalize hwd : wr.alloc _ = wd
          have HPD : Hid (PP w wd.drew p x R T L S Sx) := by rw [← hwd]; exact HPA.out.no (But.refl No _).drew
          have HBD : Hid (Blk wd.drew wr.heap.size #[.int .i64 x0, .int .i64 x1] 31) := by rw [← hwd]; exact HBA.out.but (S := No) (But.refl No _).drew (fun f => f)
          clear hwd HPA HBA
          generalize wr.heap.size = db at HBD HND ⊢
          go_region_held3 (fun w' => w'.cell? ⟨db, 1, none⟩ = some (.int .i64 x1))
            (first | exact (HBD.out).cell (o := 1) rfl | exact (side1 HBD.out HND.out.1 hm2).cell (o := 1) rfl | exact (side2 HBD.out HND.out.1 HND.out.2 hm2 hm3).cell (o := 1) rfl)
            (first | (go_at_call 15; ((with_reducible refine (C1.out _ HPD.out.hw.rp).mono ?_); rintro e w2 ⟨rfl, hm2⟩)) | (go_at_call 16; ((with_reducible refine (C2.out _ (HPD.out.mid hm2)).mono ?_); rintro e w3 ⟨rfl, hm3⟩)))
          have HSTEP : Hid (∃ Sx', PP w w3 p x R T2 L2 S Sx') := HPD.out.step hm2 hm3
          have HBD3 : Hid (Blk w3 db #[.int .i64 x0, .int .i64 x1] 31) := side2 HBD.out HND.out.1 HND.out.2 hm2 hm3
          rename_i hHeld
          clear hHeld hm2 hm3 HPD HBD HND
          obtain ⟨Sx3, hps⟩ := HSTEP.out
          have HPS := Lib.hid hps
          clear hps HSTEP
          obtain ⟨n8, hn8⟩ : ∃ n8, n8 = L2.length := ⟨_, rfl⟩
          have HN8 := Lib.hid hn8
          have hn8l : n8 ≤ 256 := by rw [hn8]; exact HPS.out.rf.len
          clear hn8
          obtain ⟨g1, hg1⟩ : ∃ g1, g1 = fst1 L2 := ⟨_, rfl⟩
          obtain ⟨g3, hg3⟩ : ∃ g3, g3 = fst3 L2 := ⟨_, rfl⟩
          have HG1 : Hid (¬ n8 = 0 → (L2.getD 0 it0).id = g1) := fun _ => by rw [hg1, fst1_get]
          have HG3 : Hid (g3 = decide (0 < n8)) := by show _ = _; rw [hg3, fst3_len, HN8.out]
          obtain ⟨ix, hix⟩ : ∃ i, i = idx L2 x1 := ⟨_, rfl⟩
          obtain ⟨tx, htx⟩ : ∃ i, i = tkt L2 x1 := ⟨_, rfl⟩
          have CA : Hid (Calls Try.prog 17 #[.pointer (some ⟨p, 0, none⟩)] w3 fun e w' => ∃ b, e = .returned (.slice (some ⟨b, 0, none⟩) n8 n8) ∧ Ints w' b (L2.map It.id) ∧ But No w3 w' ∧ w3.heap.size ≤ b) := by
            rw [HN8.out]; exact all_any p R T2 L2 S w3 HPS.out.hw.rp
          have CN : Hid (∀ w' b A c, Ints w' b (L2.map It.id) → Ov w' (.slice A n8 c) (L2.map It.id) → Calls Try.prog 18 #[.slice (some ⟨b, 0, none⟩) n8 n8, .slice A n8 c] w' fun e w'' => e = .returned (.bool true) ∧ But No w' w'') := fun w' b A c h1 h2 => by
            have hlm : (L2.map It.id).length = n8 := by rw [List.length_map, HN8.out]
            have r1 := h1.rl (by omega)
            rw [hlm] at r1
            have := numbers_any (some ⟨b, 0, none⟩) A n8 n8 n8 c _ _ w' r1 (h2.rl (by omega)).1
            simp only [decide_true] at this
            exact this
          have CF : Hid (∀ w', But No w3 w' → Calls Try.prog 19 #[.pointer (some ⟨p, 0, none⟩)] w' fun e w'' => e = .returned (.tuple #[.int .i64 g1, .bool g3]) ∧ ∃ m, w'' = w'.drewN m) := fun w' hb => by
            rw [hg1, hg3]; exact head_any p R T2 L2 S w' (HPS.out.no hb).hw.rp
          clear hg1 hg3
          go_wp2_with fail
          refine CA.out.mono ?_
          rintro e w4 ⟨b, rfl, hI, hb4, hbl⟩
          have HI := Lib.hid hI
          have HB4 := Lib.hid hb4
          have HP4 := Lib.hid (HPS.out.no hb4)
          obtain ⟨A4, c4, hx4, hov4⟩ := HP4.out.rf.ids
          rw [← HN8.out] at hx4 hov4
          have HOV := Lib.hid hov4
          have HNB : Hid (¬ S b ∧ ¬ Sx3 b ∧ w.heap.size ≤ b) := by
            refine ⟨fun hk => ?_, fun hk => ?_, ?_⟩
            · have := HPS.out.hw.rp.lt _ hk; omega
            · have := HPS.out.rf.lt _ hk; omega
            · have := HPS.out.hw.but.size; omega
          clear hI hb4 hbl hov4
          go_wp2_with (first | (go_at_call 18; (with_reducible refine (CN.out _ _ _ _ HI.out HOV.out).mono ?_); rintro e w6 ⟨rfl, hb6⟩; have HB6 := Lib.hid (HB4.out.trans hb6); have HI6 := Lib.hid (HI.out.but hb6 (fun f => f)); clear hb6) | (go_at_call 19; (with_reducible refine (CF.out _ HB6.out).mono ?_); rintro e w7 ⟨rfl, hw7⟩; have HB7 := Lib.hid (HB6.out.trans (drewN_but hw7)); have HI7 := Lib.hid (HI6.out.but (drewN_but hw7) (fun f => f)); clear hw7))
          have HP7 := Lib.hid (HPS.out.no HB7.out)
          obtain ⟨A7, c7, hx7, hov7⟩ := HP7.out.rf.ids
          rw [← HN8.out] at hx7
          have hd7 : w7.cell? ⟨db, 1, none⟩ = some (.int .i64 x1) := (HBD3.out.but HB7.out (fun f => f)).cell (o := 1) rfl
          have CL : Hid (∀ m, Calls Try.prog 20 #[.pointer (some ⟨p, 0, none⟩)] (w7.drewN m) fun r w' => r = .returned (.int .i64 n8) ∧ w' = w7.drewN m) := fun m => by
            rw [HN8.out]; exact len_any p R T2 L2 S _ (HP7.out.no ((But.refl No w7).drewN m)).hw.rp
          have CP1 : Hid (∀ m, Calls Try.prog 21 #[.pointer (some ⟨p, 0, none⟩), .int .i64 x1] (w7.drewN m) fun r w' => r = .returned (.int .i64 ix) ∧ ∃ m', w' = (w7.drewN m).drewN m') := fun m => by
            rw [hix]; exact place_any p R T2 L2 S _ x1 (HP7.out.no ((But.refl No w7).drewN m)).hw.rp
          have CP2 : Hid (∀ m, Calls Try.prog 22 #[.pointer (some ⟨x, 0, none⟩), .int .i64 x1] (w7.drewN m) fun r w' => r = .returned (.int .i64 ix) ∧ w' = w7.drewN m) := fun m => by
            rw [hix]; exact rplace_any x R T2 L2 Sx3 _ x1 (HP7.out.no ((But.refl No w7).drewN m)).rf
          have CT1 : Hid (∀ m, Calls Try.prog 23 #[.pointer (some ⟨p, 0, none⟩), .int .i64 x1] (w7.drewN m) fun r w' => r = .returned (.int .i64 tx) ∧ ∃ m', w' = (w7.drewN m).drewN m') := fun m => by
            rw [htx]; exact ticket_any p R T2 L2 S _ x1 (HP7.out.no ((But.refl No w7).drewN m)).hw.rp
          have CT2 : Hid (∀ m, Calls Try.prog 24 #[.pointer (some ⟨x, 0, none⟩), .int .i64 x1] (w7.drewN m) fun r w' => r = .returned (.int .i64 tx) ∧ w' = w7.drewN m) := fun m => by
            rw [htx]; exact rticket_any x R T2 L2 Sx3 _ x1 (HP7.out.no ((But.refl No w7).drewN m)).rf
          have bq1 : ((n8 : Int) != (n8 : Int)) = false := by simp
          have bq2 : (ix != ix) = false := by simp
          have bq3 : (tx != tx) = false := by simp
          clear hix htx hov7 hx4 CA CN CF HI HI6 HB4 HB6 HOV HPS HP4 HBD3 HB7
          by_cases h8 : n8 = 0
          · have bp : decide ((0 : Int) < (n8 : Int)) = false := by simp; omega
            have bp2 : ¬ 0 < n8 := by omega
            have HZ8 : Hid (n8 = 0) := h8
            have eg3 : g3 = false := by rw [HG3.out]; simp; omega
            subst eg3
            clear h8
            go_quiet (first | (go_at_call 20; with_reducible exact Calls.quiet_of_same (CL.out _)) | (go_at_call 21; with_reducible exact Calls.quiet_of (CP1.out _)) | (go_at_call 22; with_reducible exact Calls.quiet_of_same (CP2.out _)) | (go_at_call 23; with_reducible exact Calls.quiet_of (CT1.out _)) | (go_at_call 24; with_reducible exact Calls.quiet_of_same (CT2.out _)))
            clear hx7 hd7
            generalize hw9 : w7.drewN _ = w9
            have HP9 : Hid (PP w w9 p x R T2 L2 S Sx3) := by rw [← hw9]; exact HP7.out.no ((But.refl No w7).drewN _)
            have HC9 : Hid (∃ cur, Blk w9 b cur 3 ∧ cur.size = n8) := by
              rw [← hw9]
              exact ⟨_, Blk.but (S := No) HI7.out ((But.refl No w7).drewN _) (fun f => f), by simp; exact HN8.out.symm⟩
            clear hw9 HP7 HI7 CL CP1 CP2 CT1 CT2 bp bp2
            go_wp2_with fail
            go_loopw [24] (fun s wx => ∃ j : Nat, s = .int .i64 j ∧ j ≤ n8 ∧ Hid (PP w wx p x R T2 L2 S Sx3) ∧ Hid (∃ cur, Blk wx b cur 3 ∧ cur.size = n8)) (fun s _ => n8 - (intOf s).toNat)
            case atStart => exact ⟨0, rfl, by omega, HP9, HC9⟩
            case round =>
              obtain ⟨j, rfl, hj, hp9, hc9⟩ := hrel
              clear HP9 HC9
              by_cases hjl : j < n8
              · exact absurd hjl (by have := HZ8.out; omega)
              · have jn : decide ((j : Int) < (n8 : Int)) = false := by simp; omega
                have jn2 : ¬ j < n8 := hjl
                have HF : Hid (Rel w wr p x R (k + 1)) := ⟨S, Sx3, T2, L2, hp9.out, HT2.out⟩
                clear hp9 hc9
                go_wp2
                go_roundw
                case rel => exact ⟨k + 1, by go_num, by omega, by omega, HF⟩
                case measure => simp [intOf]; omega
          · have h0 : w7.cell? ⟨b, 0, none⟩ = some (.int .i64 g1) := by rw [← HG1.out h8]; exact ids_cell (j := 0) HI7.out (by rw [← HN8.out]; omega)
            have bp : decide ((0 : Int) < (n8 : Int)) = true := by simp; omega
            have bpp : (0 : Int) < (n8 : Int) := by omega
            have bp3 : 0 < n8 := by omega
            have bp4 : decide (0 < n8) = true := by simp; omega
            have bg : (g1 != g1) = false := by simp
            have eg3 : g3 = true := by rw [HG3.out]; simp; omega
            subst eg3
            clear h8
            go_quiet (first | (go_at_call 20; with_reducible exact Calls.quiet_of_same (CL.out _)) | (go_at_call 21; with_reducible exact Calls.quiet_of (CP1.out _)) | (go_at_call 22; with_reducible exact Calls.quiet_of_same (CP2.out _)) | (go_at_call 23; with_reducible exact Calls.quiet_of (CT1.out _)) | (go_at_call 24; with_reducible exact Calls.quiet_of_same (CT2.out _)))
            clear hx7 hd7
            generalize hw9 : w7.drewN _ = w9
            have HP9 : Hid (PP w w9 p x R T2 L2 S Sx3) := by rw [← hw9]; exact HP7.out.no ((But.refl No w7).drewN _)
            have HC9 : Hid (∃ cur, Blk w9 b cur 3 ∧ cur.size = n8) := by
              rw [← hw9]
              exact ⟨_, Blk.but (S := No) HI7.out ((But.refl No w7).drewN _) (fun f => f), by simp; exact HN8.out.symm⟩
            clear h0
            clear hw9 HP7 HI7 CL CP1 CP2 CT1 CT2 bp bpp bp3 bp4
            go_wp2_with fail
            go_loopw [24] (fun s wx => ∃ j : Nat, s = .int .i64 j ∧ j ≤ n8 ∧ Hid (PP w wx p x R T2 L2 S Sx3) ∧ Hid (∃ cur, Blk wx b cur 3 ∧ cur.size = n8)) (fun s _ => n8 - (intOf s).toNat)
            case atStart => exact ⟨0, rfl, by omega, HP9, HC9⟩
            case round =>
              obtain ⟨j, rfl, hj, hp9, hc9⟩ := hrel
              clear HP9 HC9
              by_cases hjl : j < n8
              · obtain ⟨cur, hcb, hcs⟩ := hc9.out
                have hcell := hcb.cell (o := j) (v := cur[j]'(by omega)) (Array.getElem?_eq_getElem (by omega))
                have hfz := hcb.frozen j
                generalize cur[j]'(by omega) = old at hcell
                have HN1 : Hid (PP w (wr.setCell ⟨b, j, none⟩ (.int .i64 (-1))) p x R T2 L2 S Sx3) := hp9.out.beside ((But.refl _ wr).setCell (p := ⟨b, j, none⟩) (just b) _) HNB.out.1 HNB.out.2.1 HNB.out.2.2
                have HN2 : Hid (∃ cur, Blk (wr.setCell ⟨b, j, none⟩ (.int .i64 (-1))) b cur 3 ∧ cur.size = n8) := ⟨_, hcb.set j _, by simpa using hcs⟩
                have jn : (j : Int) < (n8 : Int) := by omega
                clear hcb hcs hc9 hp9
                go_wp2
                go_roundw
                case rel => exact ⟨j + 1, by go_num, by omega, HN1, HN2⟩
                case measure => simp [intOf]; omega
              · have jn : decide ((j : Int) < (n8 : Int)) = false := by simp; omega
                have jn2 : ¬ j < n8 := hjl
                have HF : Hid (Rel w wr p x R (k + 1)) := ⟨S, Sx3, T2, L2, hp9.out, HT2.out⟩
                clear hp9 hc9
                go_wp2
                go_roundw
                case rel => exact ⟨k + 1, by go_num, by omega, by omega, HF⟩
                case measure => simp [intOf]; omega
    · by_cases hlt : k < n
      · have b1 : (k : Int) < (n : Int) := by omega
        have b2 : decide ((k : Int) < 400) = false := by simp; omega
        go_wp2
        go_ret
        exact ⟨rfl, HPS0.out.hw.but⟩
      · have b1 : decide ((k : Int) < (n : Int)) = false := by simp; omega
        go_wp2
        go_ret
        exact ⟨rfl, HPS0.out.hw.but⟩
theorem walk (a0 : Int) (w0 : (Lit.int .i64 a0).wf = true) (A : Option Addr) (n c : Nat) (kd di : Nat → Int) (w : World) (hd : RdD w A n kd di) :
    Calls Try.prog 3 #[.int .i64 a0, .slice A n c] w fun e w' => e = .returned (.bool true) ∧ But No w w' := by
  by_cases h : a0 < 0 ∨ 256 < a0
  · exact walk0 a0 A n c w h
  · exact walk1 a0 A n c kd di w hd (by omega) (by omega)
end ringPlays
end Go.Proofs.Ythakginneapdeaa
