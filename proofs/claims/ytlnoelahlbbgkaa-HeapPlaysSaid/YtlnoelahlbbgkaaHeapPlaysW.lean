/- A heap does, deed by deed, just what the chapter says, with any room: HeapPlays returns true. (The walk.) -/
import Derived.Test.YtlnoelahlbbgkaaR2
namespace Go.Proofs.Ytlnoelahlbbgkaa.heapPlays
open Go.ChangeShapes Go.WideShapes Go.ChangeAt Go.RowKit
/-- Both heaps, the program's and the document's, hold L. -/
structure PS (w wr : World) (p x : Nat) (R T : Int) (L : List It) (S Sx : Nat → Prop) : Prop where
  hw : Hw w wr S p R T L
  rf : RF wr Sx x R L
  ds : ∀ k, S k → ¬ Sx k
  nx : ∀ k, Sx k → w.heap.size ≤ k
theorem PS.no {w wr wd : World} {p x : Nat} {R T : Int} {L : List It} {S Sx : Nat → Prop} (h : PS w wr p x R T L S Sx) (hb : But No wr wd) : PS w wd p x R T L S Sx :=
  ⟨h.hw.no hb, h.rf.but hb (fun _ _ f => f), h.ds, h.nx⟩
theorem PS.mid {w wd w2 : World} {p x : Nat} {R T T' : Int} {L L' : List It} {S Sx : Nat → Prop} (h : PS w wd p x R T L S Sx) (hm : Mv wd S p R T' L' w2) : RF w2 Sx x R L := by
  obtain ⟨S', h1, h2, h3⟩ := hm
  exact h.rf.but h2 (fun k hk hs => h.ds k hs hk)
theorem PS.step {w wd w2 w3 : World} {p x : Nat} {R T T' : Int} {L L' : List It} {S Sx : Nat → Prop} (h : PS w wd p x R T L S Sx) (hm : Mv wd S p R T' L' w2) (hr : Rm w2 Sx x R L' w3) : ∃ S' Sx', PS w w3 p x R T' L' S' Sx' := by
  have hmid := h.mid hm
  obtain ⟨S', h1, h2, h3⟩ := h.hw.step hm
  obtain ⟨Sx', r1, r2, r3⟩ := hr
  have hd : ∀ k, S' k → ¬ Sx k := fun k hk hx => (h3 k hk).elim (fun hs => h.ds k hs hx) (fun g => by have := h.rf.lt k hx; omega)
  have hsz := h1.but.size
  refine ⟨S', Sx', ⟨⟨h1.hp.but r2 hd, h1.but.andThen r2 (fun k hk => .inr (h.nx k hk)), h1.new⟩, r1, fun k hk hx => ?_, fun k hk => (r3 k hk).elim (h.nx k) (fun g => by omega)⟩⟩
  exact (r3 k hx).elim (hd k hk) (fun g => by have := h1.hp.lt k hk; omega)
/-- A block that lies beside stays. -/
theorem PS.side {w wd w2 w3 : World} {p x : Nat} {R T T' : Int} {L L' : List It} {S Sx : Nat → Prop} {b : Nat} {cur : Array Value} {e : TypeId} (h : PS w wd p x R T L S Sx) (hb : Blk wd b cur e) (hs : ¬ S b) (hm : Mv wd S p R T' L' w2) : Blk w2 b cur e := by
  obtain ⟨S', h1, h2, h3⟩ := hm
  exact hb.but h2 hs
theorem PS.side2 {w wd w2 w3 : World} {p x : Nat} {R T T' : Int} {L L' : List It} {S Sx : Nat → Prop} {b : Nat} {cur : Array Value} {e : TypeId} (h : PS w wd p x R T L S Sx) (hb : Blk wd b cur e) (hs : ¬ S b) (hx : ¬ Sx b) (hm : Mv wd S p R T' L' w2) (hr : Rm w2 Sx x R L' w3) : Blk w3 b cur e := by
  obtain ⟨Sx', r1, r2, r3⟩ := hr
  exact (PS.side (w3 := w3) h hb hs hm).but r2 hx
/-- Stores into a block that lies beside. -/
theorem PS.beside {w wr w' : World} {p x b : Nat} {R T : Int} {L : List It} {S Sx : Nat → Prop} (h : PS w wr p x R T L S Sx) (hb : But (Just b) wr w') (hs : ¬ S b) (hx : ¬ Sx b) (hn : w.heap.size ≤ b) : PS w w' p x R T L S Sx :=
  ⟨⟨h.hw.hp.but hb (fun k hk e => hs (e ▸ hk)), h.hw.but.andThen hb (fun k e => .inr (e ▸ hn)), h.hw.new⟩, h.rf.but hb (fun k hk e => hx (e ▸ hk)), h.ds, h.nx⟩
def Rel (w wr : World) (p x : Nat) (R : Int) (k : Nat) : Prop := ∃ S Sx T L, PS w wr p x R T L S Sx ∧ T ≤ k
theorem len_back (p : Nat) (R T : Int) (L : List It) (S : Nat → Prop) (w : World) (h : HP w S p R T L) :
    Calls Try.prog 28 #[.pointer (some ⟨p, 0, none⟩)] w fun r w' => r = .returned (.int .i64 L.length) ∧ w' = w := (len_any p R T L S w h).mono fun _ _ ⟨a, b⟩ => ⟨a, b.symm⟩
set_option maxHeartbeats 1000000 in
set_option maxRecDepth 100000 in
theorem walk0 (a0 : Int) (A : Option Addr) (n c : Nat) (w : World) (hb : a0 < 0 ∨ 256 < a0) :
    Calls Try.prog 3 #[.int .i64 a0, .slice A n c] w fun e w' => e = .returned (.bool true) ∧ But No w w' := by
  have C1 : Hid (∀ w, Calls Try.prog 10 #[.int .i64 a0] w fun r w' => r = .returned (.tuple #[.pointer none, .int .i64 1]) ∧ w = w') := fun w => new_bad a0 w hb
  have C2 : Hid (∀ w, Calls Try.prog 11 #[.int .i64 a0] w fun r w' => r = .returned (.pointer none) ∧ w = w') := fun w => rnew_bad a0 w hb
  clear hb
  go_enter Try.func3, Try.ntmps3
  go_wp2_with (first
    | (go_at_call 9; refine (examples_any _).mono ?_; rintro e we ⟨rfl, hbe⟩; have HE := Lib.hid hbe; clear hbe)
    | (go_at_call 10; refine (C1.out _).mono ?_; rintro e w1 ⟨rfl, rfl⟩)
    | (go_at_call 11; refine (C2.out _).mono ?_; rintro e w1 ⟨rfl, rfl⟩))
  go_ret
  exact ⟨rfl, HE.out⟩
set_option maxHeartbeats 20000000 in
set_option maxRecDepth 100000 in
theorem walk1 (R : Int) (A : Option Addr) (n c : Nat) (kd di dk : Nat → Int) (w : World) (hd : RdD w A n kd di dk) (hR0 : 0 ≤ R) (hR1 : R ≤ 256) :
    Calls Try.prog 3 #[.int .i64 R, .slice A n c] w fun e w' => e = .returned (.bool true) ∧ But No w w' := by
  have HD := Lib.hid hd
  have hmax := hd.max
  clear hd
  go_enter Try.func3, Try.ntmps3
  go_wp2_with (first
    | (go_at_call 9; refine (examples_any _).mono ?_; rintro e we ⟨rfl, hbe⟩; have HE := Lib.hid hbe; clear hbe)
    | (go_at_call 10; refine (new_ok R _ hR0 hR1).mono ?_; rintro e w1 ⟨rfl, hne⟩; have HN1 := Lib.hid hne; clear hne)
    | (go_at_call 11; refine (rnew_ok R _ hR0 hR1).mono ?_; rintro e w2 ⟨rfl, hne⟩; have HN2 := Lib.hid hne; clear hne))
  have H1 : Hid (Rel w w2 (we.heap.size + 1) w1.heap.size R 0) := by
    obtain ⟨S, hp, hb, hs⟩ := HN1.out
    obtain ⟨Sx, hp2, hb2, hs2⟩ := HN2.out
    have hw : Hw w w1 S (we.heap.size + 1) R 0 [] := ⟨hp, HE.out.trans hb, fun k hk => Nat.le_trans HE.out.size (hs k hk)⟩
    exact ⟨S, Sx, 0, [], ⟨hw.no hb2, hp2, fun k hk hx => by have := hp.lt k hk; have := hs2 k hx; omega, fun k hk => by have := hs2 k hk; have := hw.but.size; omega⟩, by omega⟩
  clear HN1 HN2
  generalize hp : we.heap.size + 1 = p at H1 ⊢
  generalize hx : w1.heap.size = x at H1 ⊢
  clear hp hx
  go_loopw [9] (fun s wr => ∃ k : Nat, s = .int .i64 k ∧ k ≤ n ∧ k ≤ 300 ∧ Hid (Rel w wr p x R k)) (fun s _ => n - (intOf s).toNat)
  case atStart => exact ⟨0, rfl, by omega, by omega, H1⟩
  case round =>
    obtain ⟨k, rfl, hk, hk3, hrel⟩ := hrel
    clear H1
    obtain ⟨S, Sx, T, L, hps, htk⟩ := hrel.out
    have HPS0 := Lib.hid hps
    have HTK := Lib.hid htk
    have hT : T < 1000000 := by omega
    clear hps htk hrel
    by_cases hgo : k < n ∧ k < 300
    · obtain ⟨hlt, hl3⟩ := hgo
      obtain ⟨eb, eoff, rfl, hbl, hc⟩ := (HD.out.no HPS0.out.hw.but).at_ (by omega)
      obtain ⟨c0, c1, c2⟩ := hc k hlt
      obtain ⟨f0, f1, f2⟩ := HD.out.fit k hlt
      have q0 := pk_lt (kd k) 5 (by omega)
      generalize hx0 : kd k = x0 at c0 f0 q0
      generalize hx1 : di k = x1 at c1 f1
      generalize hx2 : dk k = x2 at c2 f2
      have F0 := Lib.hid f0
      have F1 := Lib.hid f1
      have kn' : (k : Int) < (n : Int) := by omega
      have k3' : (k : Int) < 300 := by omega
      clear hc hbl f0 f1 f2 hx0 hx1 hx2
      by_cases hcase : pk x0 5 = 0
      · clear q0
        obtain ⟨T2, hT2⟩ : ∃ t, t = pushT R T L x1 := ⟨_, rfl⟩
        obtain ⟨L2, hL2⟩ : ∃ l, l = pushL R T L x1 x2 := ⟨_, rfl⟩
        have HT2 : Hid (T2 ≤ ((k + 1 : Nat) : Int)) := by show _ ≤ _; rw [hT2]; have := pushT_le R T L x1; have := HTK.out; omega
        have CK : Hid (∀ w, Calls Try.prog 12 #[.int .i64 x0, .int .i64 5] w fun e w' => e = .returned (.int .i64 0) ∧ w = w') := fun w => by rw [← hcase]; exact pick_any x0 5 w F0.out (by omega) (by omega)
        clear hcase
        obtain ⟨E, hE⟩ : ∃ e, e = pushE R L x1 := ⟨_, rfl⟩
        have C1 : Hid (∀ w', HP w' S p R T L → Calls Try.prog 13 #[.pointer (some ⟨p, 0, none⟩), .int .i64 x1, .int .i64 x2] w' fun r w'' => r = .returned (.int .i64 E) ∧ Mv w' S p R T2 L2 w'') := fun w' h' => by rw [hE, hT2, hL2]; exact push_any p R T L S w' x1 x2 F1.out h' hT
        have C2 : Hid (∀ w', RF w' Sx x R L → Calls Try.prog 14 #[.pointer (some ⟨x, 0, none⟩), .int .i64 x1, .int .i64 x2] w' fun r w'' => r = .returned (.int .i64 E) ∧ Rm w' Sx x R L2 w'') := fun w' h' => by rw [hE, hL2]; exact rpush_any x R T L Sx w' x1 x2 h' hR1
        clear hE hT2 hL2
        go_wp2_with (first | (go_at_call 12; ((with_reducible refine (CK.out _).mono ?_); rintro e w2 ⟨rfl, rfl⟩)))
        generalize hwd : wr.alloc _ = wd
        have HPD : Hid (PS w wd.drew p x R T L S Sx) := by rw [← hwd]; exact HPS0.out.no ((But.refl No wr).alloc _).drew
        have HBD : Hid (Blk wd.drew wr.heap.size #[.int .i64 x0, .int .i64 x1, .int .i64 x2] 31) := by rw [← hwd]; exact (Blk.new wr _ _).but (S := No) (But.refl No _).drew (fun f => f)
        have HND : Hid (¬ S wr.heap.size ∧ ¬ Sx wr.heap.size) := ⟨fun hk => by have := HPS0.out.hw.hp.lt _ hk; omega, fun hk => by have := HPS0.out.rf.lt _ hk; omega⟩
        clear hwd HPS0
        generalize wr.heap.size = db at HBD HND ⊢
        go_region_held3 (fun w' => w'.cell? ⟨db, 1, none⟩ = some (.int .i64 x1) ∧ w'.cell? ⟨db, 2, none⟩ = some (.int .i64 x2))
          (first | exact ⟨(HBD.out).cell (o := 1) rfl, (HBD.out).cell (o := 2) rfl⟩ | exact ⟨(PS.side (w3 := w2) HPD.out HBD.out HND.out.1 hm2).cell (o := 1) rfl, (PS.side (w3 := w2) HPD.out HBD.out HND.out.1 hm2).cell (o := 2) rfl⟩ | exact ⟨(PS.side2 HPD.out HBD.out HND.out.1 HND.out.2 hm2 hm3).cell (o := 1) rfl, (PS.side2 HPD.out HBD.out HND.out.1 HND.out.2 hm2 hm3).cell (o := 2) rfl⟩)
          (first | (go_at_call 13; ((with_reducible refine (C1.out _ HPD.out.hw.hp).mono ?_); rintro e w2 ⟨rfl, hm2⟩)) | (go_at_call 14; ((with_reducible refine (C2.out _ (HPD.out.mid hm2)).mono ?_); rintro e w3 ⟨rfl, hm3⟩)))
        have HSTEP : Hid (∃ S' Sx', PS w w3 p x R T2 L2 S' Sx') := HPD.out.step hm2 hm3
        rename_i hHeld
        clear hHeld hm2 hm3 HPD HBD HND
        obtain ⟨S3, Sx3, hps⟩ := HSTEP.out
        have HPS := Lib.hid hps
        clear hps HSTEP
        obtain ⟨n8, hn8⟩ : ∃ n8, n8 = L2.length := ⟨_, rfl⟩
        have HN8 := Lib.hid hn8
        have hn8l : n8 ≤ 256 := by rw [hn8]; exact HPS.out.rf.len
        clear hn8
        obtain ⟨g1, hg1⟩ : ∃ g1, g1 = fst1 L2 := ⟨_, rfl⟩
        obtain ⟨g2, hg2⟩ : ∃ g2, g2 = fst2 L2 := ⟨_, rfl⟩
        obtain ⟨g3, hg3⟩ : ∃ g3, g3 = fst3 L2 := ⟨_, rfl⟩
        have CA : Hid (Calls Try.prog 23 #[.pointer (some ⟨p, 0, none⟩)] w3 fun e w' => ∃ b, e = .returned (.slice (some ⟨b, 0, none⟩) n8 n8) ∧ Ints w' b (L2.map It.id) ∧ But No w3 w' ∧ w3.heap.size ≤ b) := by
          rw [HN8.out]; exact all_any p R T2 L2 S3 w3 HPS.out.hw.hp
        have CI : Hid (∀ w', But No w3 w' → Calls Try.prog 25 #[.pointer (some ⟨x, 0, none⟩)] w' fun e w'' => ∃ A c, e = .returned (.slice A n8 c) ∧ Ov w'' (.slice A n8 c) (L2.map It.id) ∧ But No w' w'') := fun w' hb => by
          rw [HN8.out]; exact ids_any x R L2 Sx3 w' (HPS.out.no hb).rf
        have CF : Hid (∀ w', But No w3 w' → Calls Try.prog 26 #[.pointer (some ⟨p, 0, none⟩)] w' fun e w'' => e = .returned (.tuple #[.int .i64 g1, .int .i64 g2, .bool g3]) ∧ But No w' w'') := fun w' hb => by
          rw [hg1, hg2, hg3]; exact first_any p R T2 L2 S3 w' (HPS.out.no hb).hw.hp
        have CG : Hid (∀ w', But No w3 w' → Calls Try.prog 27 #[.pointer (some ⟨x, 0, none⟩)] w' fun e w'' => e = .returned (.tuple #[.int .i64 g1, .int .i64 g2, .bool g3]) ∧ But No w' w'') := fun w' hb => by
          rw [hg1, hg2, hg3]; exact rfirst_any x R L2 Sx3 w' (HPS.out.no hb).rf
        have CN : Hid (∀ w' b A c, Ints w' b (L2.map It.id) → Ov w' (.slice A n8 c) (L2.map It.id) → Calls Try.prog 24 #[.slice (some ⟨b, 0, none⟩) n8 n8, .slice A n8 c] w' fun e w'' => e = .returned (.bool true) ∧ But No w' w'') := fun w' b A c h1 h2 => by
          have hlm : (L2.map It.id).length = n8 := by rw [List.length_map, HN8.out]
          have r1 := h1.rl (by omega)
          rw [hlm] at r1
          have := numbers_any (some ⟨b, 0, none⟩) A n8 n8 n8 c _ _ w' r1 (h2.rl (by omega)).1
          simp only [decide_true] at this
          exact this
        clear hg1 hg2 hg3
        go_wp2_with fail
        refine CA.out.mono ?_
        rintro e w4 ⟨b, rfl, hI, hb4, hbl⟩
        have HI := Lib.hid hI
        have HB4 := Lib.hid hb4
        have HBL := Lib.hid hbl
        clear hI hb4 hbl
        go_wp2_with (first | (go_at_call 25; refine (CI.out _ HB4.out).mono ?_; rintro e w5 ⟨A5, c5, rfl, hov, hb5⟩; have HOV := Lib.hid hov; have HB5 := Lib.hid (HB4.out.trans hb5); have HI5 := Lib.hid (HI.out.but hb5 (fun f => f)); clear hov hb5) | (go_at_call 24; refine (CN.out _ _ _ _ HI5.out HOV.out).mono ?_; rintro e w6 ⟨rfl, hb6⟩; have HB6 := Lib.hid (HB5.out.trans hb6); have HI6 := Lib.hid (HI5.out.but hb6 (fun f => f)); clear hb6) | (go_at_call 26; refine (CF.out _ HB6.out).mono ?_; rintro e w7 ⟨rfl, hb7⟩; have HB7 := Lib.hid (HB6.out.trans hb7); have HI7 := Lib.hid (HI6.out.but hb7 (fun f => f)); clear hb7) | (go_at_call 27; refine (CG.out _ HB7.out).mono ?_; rintro e w8 ⟨rfl, hb8⟩; have HB8 := Lib.hid (HB7.out.trans hb8); have HI8 := Lib.hid (HI7.out.but hb8 (fun f => f)); clear hb8))
        have HP8 := Lib.hid (HPS.out.no HB8.out)
        obtain ⟨A8, c8, _, hx8, _⟩ := HP8.out.rf.head
        rw [← HN8.out] at hx8
        have CL : Hid (∀ m, Calls Try.prog 28 #[.pointer (some ⟨p, 0, none⟩)] (w8.drewN m) fun r w' => r = .returned (.int .i64 n8) ∧ w' = w8.drewN m) := fun m => by
          rw [HN8.out]; exact len_back p R T2 L2 S3 _ (HP8.out.no ((But.refl No w8).drewN m)).hw.hp
        have HNB : Hid (¬ S3 b ∧ ¬ Sx3 b ∧ w.heap.size ≤ b) := by
          refine ⟨fun hk => ?_, fun hk => ?_, ?_⟩
          · have := HPS.out.hw.hp.lt _ hk; have := HBL.out; omega
          · have := HPS.out.rf.lt _ hk; have := HBL.out; omega
          · have := HPS.out.hw.but.size; have := HBL.out; omega
        clear CA CI CF CG CN HI HI5 HI6 HI7 HB4 HB5 HB6 HB7 HBL HOV HPS
        go_quiet ((go_at_call 28; exact Calls.quiet_of_same (CL.out _)))
        clear hx8
        generalize hw9 : w8.drewN _ = w9
        have HP9 : Hid (PS w w9 p x R T2 L2 S3 Sx3) := by rw [← hw9]; exact HP8.out.no ((But.refl No w8).drewN _)
        have HC9 : Hid (∃ cur, Blk w9 b cur 3 ∧ cur.size = n8) := by
          rw [← hw9]
          exact ⟨_, Blk.but (S := No) HI8.out ((But.refl No w8).drewN _) (fun f => f), by simp; exact HN8.out.symm⟩
        clear hw9 HP8 HI8 CL HB8
        go_wp2_with fail
        go_loopw [30] (fun s wx => ∃ j : Nat, s = .int .i64 j ∧ j ≤ n8 ∧ Hid (PS w wx p x R T2 L2 S3 Sx3) ∧ Hid (∃ cur, Blk wx b cur 3 ∧ cur.size = n8)) (fun s _ => n8 - (intOf s).toNat)
        case atStart => exact ⟨0, rfl, by omega, HP9, HC9⟩
        case round =>
          obtain ⟨j, rfl, hj, hp9, hc9⟩ := hrel
          clear HP9 HC9
          by_cases hjl : j < n8
          · obtain ⟨cur, hcb, hcs⟩ := hc9.out
            have hcell := hcb.cell (o := j) (v := cur[j]'(by omega)) (Array.getElem?_eq_getElem (by omega))
            have hfz := hcb.frozen j
            generalize cur[j]'(by omega) = old at hcell
            have HN1 : Hid (PS w (wr.setCell ⟨b, j, none⟩ (.int .i64 (-1))) p x R T2 L2 S3 Sx3) := hp9.out.beside ((But.refl _ wr).setCell (p := ⟨b, j, none⟩) (just b) _) HNB.out.1 HNB.out.2.1 HNB.out.2.2
            have HN2 : Hid (∃ cur, Blk (wr.setCell ⟨b, j, none⟩ (.int .i64 (-1))) b cur 3 ∧ cur.size = n8) := ⟨_, hcb.set j _, by simpa using hcs⟩
            have jn : (j : Int) < (n8 : Int) := by omega
            clear hcb hcs hc9 hp9
            go_wp2
            go_roundw
            case rel => exact ⟨j + 1, by go_num, by omega, HN1, HN2⟩
            case measure => simp [intOf]; omega
          · have jn : decide ((j : Int) < (n8 : Int)) = false := by simp; omega
            clear hc9
            go_wp2
            go_roundw
            case rel => exact ⟨k + 1, by go_num, by omega, by omega, S3, Sx3, T2, L2, hp9.out, HT2.out⟩
            case measure => simp [intOf]; omega
      · by_cases hcase : pk x0 5 = 1
        · clear q0
          obtain ⟨T2, hT2⟩ : ∃ t, t = T := ⟨_, rfl⟩
          obtain ⟨L2, hL2⟩ : ∃ l, l = L.tail := ⟨_, rfl⟩
          have HT2 : Hid (T2 ≤ ((k + 1 : Nat) : Int)) := by show _ ≤ _; rw [hT2]; have := HTK.out; omega
          have CK : Hid (∀ w, Calls Try.prog 12 #[.int .i64 x0, .int .i64 5] w fun e w' => e = .returned (.int .i64 1) ∧ w = w') := fun w => by rw [← hcase]; exact pick_any x0 5 w F0.out (by omega) (by omega)
          clear hcase
          obtain ⟨f1, hf1⟩ : ∃ e, e = fst1 L := ⟨_, rfl⟩
          obtain ⟨f2, hf2⟩ : ∃ e, e = fst2 L := ⟨_, rfl⟩
          obtain ⟨f3, hf3⟩ : ∃ e, e = fst3 L := ⟨_, rfl⟩
          have C1 : Hid (∀ w', HP w' S p R T L → Calls Try.prog 15 #[.pointer (some ⟨p, 0, none⟩)] w' fun r w'' => r = .returned (.tuple #[.int .i64 f1, .int .i64 f2, .bool f3]) ∧ Mv w' S p R T2 L2 w'') := fun w' h' => by rw [hf1, hf2, hf3, hT2, hL2]; exact pop_any p R T L S w' h'
          have C2 : Hid (∀ w', RF w' Sx x R L → Calls Try.prog 16 #[.pointer (some ⟨x, 0, none⟩)] w' fun r w'' => r = .returned (.tuple #[.int .i64 f1, .int .i64 f2, .bool f3]) ∧ Rm w' Sx x R L2 w'') := fun w' h' => by rw [hf1, hf2, hf3, hL2]; exact rpop_any x R L Sx w' h'
          have HPD : Hid (PS w (wr.alloc (.cells #[.int .i64 x0, .int .i64 x1, .int .i64 x2] 31)) p x R T L S Sx) := HPS0.out.no ((But.refl No wr).alloc _)
          clear hf1 hf2 hf3 hT2 hL2 HPS0
          have q1 : (f1 == f1) = true := by simp
          have q2 : (f2 == f2) = true := by simp
          have q3 : (f3 == f3) = true := by simp
          go_wp2_with (first | (go_at_call 12; ((with_reducible refine (CK.out _).mono ?_); rintro e w2 ⟨rfl, rfl⟩)) | (go_at_call 15; refine (C1.out _ HPD.out.hw.hp).mono ?_; rintro e w2 ⟨rfl, hm2⟩; have HM2 := Lib.hid hm2; clear hm2) | (go_at_call 16; refine (C2.out _ (HPD.out.mid HM2.out)).mono ?_; rintro e w3 ⟨rfl, hm3⟩; have HSTEP : Hid (∃ S' Sx', PS w w3 p x R T2 L2 S' Sx') := HPD.out.step HM2.out hm3; clear hm3))
          obtain ⟨S3, Sx3, hps⟩ := HSTEP.out
          have HPS := Lib.hid hps
          clear hps HSTEP
          obtain ⟨n8, hn8⟩ : ∃ n8, n8 = L2.length := ⟨_, rfl⟩
          have HN8 := Lib.hid hn8
          have hn8l : n8 ≤ 256 := by rw [hn8]; exact HPS.out.rf.len
          clear hn8
          obtain ⟨g1, hg1⟩ : ∃ g1, g1 = fst1 L2 := ⟨_, rfl⟩
          obtain ⟨g2, hg2⟩ : ∃ g2, g2 = fst2 L2 := ⟨_, rfl⟩
          obtain ⟨g3, hg3⟩ : ∃ g3, g3 = fst3 L2 := ⟨_, rfl⟩
          have CA : Hid (Calls Try.prog 23 #[.pointer (some ⟨p, 0, none⟩)] w3 fun e w' => ∃ b, e = .returned (.slice (some ⟨b, 0, none⟩) n8 n8) ∧ Ints w' b (L2.map It.id) ∧ But No w3 w' ∧ w3.heap.size ≤ b) := by
            rw [HN8.out]; exact all_any p R T2 L2 S3 w3 HPS.out.hw.hp
          have CI : Hid (∀ w', But No w3 w' → Calls Try.prog 25 #[.pointer (some ⟨x, 0, none⟩)] w' fun e w'' => ∃ A c, e = .returned (.slice A n8 c) ∧ Ov w'' (.slice A n8 c) (L2.map It.id) ∧ But No w' w'') := fun w' hb => by
            rw [HN8.out]; exact ids_any x R L2 Sx3 w' (HPS.out.no hb).rf
          have CF : Hid (∀ w', But No w3 w' → Calls Try.prog 26 #[.pointer (some ⟨p, 0, none⟩)] w' fun e w'' => e = .returned (.tuple #[.int .i64 g1, .int .i64 g2, .bool g3]) ∧ But No w' w'') := fun w' hb => by
            rw [hg1, hg2, hg3]; exact first_any p R T2 L2 S3 w' (HPS.out.no hb).hw.hp
          have CG : Hid (∀ w', But No w3 w' → Calls Try.prog 27 #[.pointer (some ⟨x, 0, none⟩)] w' fun e w'' => e = .returned (.tuple #[.int .i64 g1, .int .i64 g2, .bool g3]) ∧ But No w' w'') := fun w' hb => by
            rw [hg1, hg2, hg3]; exact rfirst_any x R L2 Sx3 w' (HPS.out.no hb).rf
          have CN : Hid (∀ w' b A c, Ints w' b (L2.map It.id) → Ov w' (.slice A n8 c) (L2.map It.id) → Calls Try.prog 24 #[.slice (some ⟨b, 0, none⟩) n8 n8, .slice A n8 c] w' fun e w'' => e = .returned (.bool true) ∧ But No w' w'') := fun w' b A c h1 h2 => by
            have hlm : (L2.map It.id).length = n8 := by rw [List.length_map, HN8.out]
            have r1 := h1.rl (by omega)
            rw [hlm] at r1
            have := numbers_any (some ⟨b, 0, none⟩) A n8 n8 n8 c _ _ w' r1 (h2.rl (by omega)).1
            simp only [decide_true] at this
            exact this
          clear hg1 hg2 hg3
          refine CA.out.mono ?_
          rintro e w4 ⟨b, rfl, hI, hb4, hbl⟩
          have HI := Lib.hid hI
          have HB4 := Lib.hid hb4
          have HBL := Lib.hid hbl
          clear hI hb4 hbl
          go_wp2_with (first | (go_at_call 25; refine (CI.out _ HB4.out).mono ?_; rintro e w5 ⟨A5, c5, rfl, hov, hb5⟩; have HOV := Lib.hid hov; have HB5 := Lib.hid (HB4.out.trans hb5); have HI5 := Lib.hid (HI.out.but hb5 (fun f => f)); clear hov hb5) | (go_at_call 24; refine (CN.out _ _ _ _ HI5.out HOV.out).mono ?_; rintro e w6 ⟨rfl, hb6⟩; have HB6 := Lib.hid (HB5.out.trans hb6); have HI6 := Lib.hid (HI5.out.but hb6 (fun f => f)); clear hb6) | (go_at_call 26; refine (CF.out _ HB6.out).mono ?_; rintro e w7 ⟨rfl, hb7⟩; have HB7 := Lib.hid (HB6.out.trans hb7); have HI7 := Lib.hid (HI6.out.but hb7 (fun f => f)); clear hb7) | (go_at_call 27; refine (CG.out _ HB7.out).mono ?_; rintro e w8 ⟨rfl, hb8⟩; have HB8 := Lib.hid (HB7.out.trans hb8); have HI8 := Lib.hid (HI7.out.but hb8 (fun f => f)); clear hb8))
          have HP8 := Lib.hid (HPS.out.no HB8.out)
          obtain ⟨A8, c8, _, hx8, _⟩ := HP8.out.rf.head
          rw [← HN8.out] at hx8
          have CL : Hid (∀ m, Calls Try.prog 28 #[.pointer (some ⟨p, 0, none⟩)] (w8.drewN m) fun r w' => r = .returned (.int .i64 n8) ∧ w' = w8.drewN m) := fun m => by
            rw [HN8.out]; exact len_back p R T2 L2 S3 _ (HP8.out.no ((But.refl No w8).drewN m)).hw.hp
          have HNB : Hid (¬ S3 b ∧ ¬ Sx3 b ∧ w.heap.size ≤ b) := by
            refine ⟨fun hk => ?_, fun hk => ?_, ?_⟩
            · have := HPS.out.hw.hp.lt _ hk; have := HBL.out; omega
            · have := HPS.out.rf.lt _ hk; have := HBL.out; omega
            · have := HPS.out.hw.but.size; have := HBL.out; omega
          clear CA CI CF CG CN HI HI5 HI6 HI7 HB4 HB5 HB6 HB7 HBL HOV HPS
          go_quiet ((go_at_call 28; exact Calls.quiet_of_same (CL.out _)))
          clear hx8
          generalize hw9 : w8.drewN _ = w9
          have HP9 : Hid (PS w w9 p x R T2 L2 S3 Sx3) := by rw [← hw9]; exact HP8.out.no ((But.refl No w8).drewN _)
          have HC9 : Hid (∃ cur, Blk w9 b cur 3 ∧ cur.size = n8) := by
            rw [← hw9]
            exact ⟨_, Blk.but (S := No) HI8.out ((But.refl No w8).drewN _) (fun f => f), by simp; exact HN8.out.symm⟩
          clear hw9 HP8 HI8 CL HB8
          go_wp2_with fail
          go_loopw [30] (fun s wx => ∃ j : Nat, s = .int .i64 j ∧ j ≤ n8 ∧ Hid (PS w wx p x R T2 L2 S3 Sx3) ∧ Hid (∃ cur, Blk wx b cur 3 ∧ cur.size = n8)) (fun s _ => n8 - (intOf s).toNat)
          case atStart => exact ⟨0, rfl, by omega, HP9, HC9⟩
          case round =>
            obtain ⟨j, rfl, hj, hp9, hc9⟩ := hrel
            clear HP9 HC9
            by_cases hjl : j < n8
            · obtain ⟨cur, hcb, hcs⟩ := hc9.out
              have hcell := hcb.cell (o := j) (v := cur[j]'(by omega)) (Array.getElem?_eq_getElem (by omega))
              have hfz := hcb.frozen j
              generalize cur[j]'(by omega) = old at hcell
              have HN1 : Hid (PS w (wr.setCell ⟨b, j, none⟩ (.int .i64 (-1))) p x R T2 L2 S3 Sx3) := hp9.out.beside ((But.refl _ wr).setCell (p := ⟨b, j, none⟩) (just b) _) HNB.out.1 HNB.out.2.1 HNB.out.2.2
              have HN2 : Hid (∃ cur, Blk (wr.setCell ⟨b, j, none⟩ (.int .i64 (-1))) b cur 3 ∧ cur.size = n8) := ⟨_, hcb.set j _, by simpa using hcs⟩
              have jn : (j : Int) < (n8 : Int) := by omega
              clear hcb hcs hc9 hp9
              go_wp2
              go_roundw
              case rel => exact ⟨j + 1, by go_num, by omega, HN1, HN2⟩
              case measure => simp [intOf]; omega
            · have jn : decide ((j : Int) < (n8 : Int)) = false := by simp; omega
              clear hc9
              go_wp2
              go_roundw
              case rel => exact ⟨k + 1, by go_num, by omega, by omega, S3, Sx3, T2, L2, hp9.out, HT2.out⟩
              case measure => simp [intOf]; omega
        · by_cases hcase : pk x0 5 = 2
          · clear q0
            obtain ⟨T2, hT2⟩ : ∃ t, t = chT T L x1 := ⟨_, rfl⟩
            obtain ⟨L2, hL2⟩ : ∃ l, l = chL T L x1 x2 := ⟨_, rfl⟩
            have HT2 : Hid (T2 ≤ ((k + 1 : Nat) : Int)) := by show _ ≤ _; rw [hT2]; have := chT_le T L x1; have := HTK.out; omega
            have CK : Hid (∀ w, Calls Try.prog 12 #[.int .i64 x0, .int .i64 5] w fun e w' => e = .returned (.int .i64 2) ∧ w = w') := fun w => by rw [← hcase]; exact pick_any x0 5 w F0.out (by omega) (by omega)
            clear hcase
            obtain ⟨E, hE⟩ : ∃ e, e = chE L x1 := ⟨_, rfl⟩
            have C1 : Hid (∀ w', HP w' S p R T L → Calls Try.prog 17 #[.pointer (some ⟨p, 0, none⟩), .int .i64 x1, .int .i64 x2] w' fun r w'' => r = .returned (.int .i64 E) ∧ Mv w' S p R T2 L2 w'') := fun w' h' => by rw [hE, hT2, hL2]; exact change_any p R T L S w' x1 x2 F1.out h' hT
            have C2 : Hid (∀ w', RF w' Sx x R L → Calls Try.prog 18 #[.pointer (some ⟨x, 0, none⟩), .int .i64 x1, .int .i64 x2] w' fun r w'' => r = .returned (.int .i64 E) ∧ Rm w' Sx x R L2 w'') := fun w' h' => by rw [hE, hL2]; exact rchange_any x R T L Sx w' x1 x2 h'
            clear hE hT2 hL2
            go_wp2_with (first | (go_at_call 12; ((with_reducible refine (CK.out _).mono ?_); rintro e w2 ⟨rfl, rfl⟩)))
            generalize hwd : wr.alloc _ = wd
            have HPD : Hid (PS w wd.drew p x R T L S Sx) := by rw [← hwd]; exact HPS0.out.no ((But.refl No wr).alloc _).drew
            have HBD : Hid (Blk wd.drew wr.heap.size #[.int .i64 x0, .int .i64 x1, .int .i64 x2] 31) := by rw [← hwd]; exact (Blk.new wr _ _).but (S := No) (But.refl No _).drew (fun f => f)
            have HND : Hid (¬ S wr.heap.size ∧ ¬ Sx wr.heap.size) := ⟨fun hk => by have := HPS0.out.hw.hp.lt _ hk; omega, fun hk => by have := HPS0.out.rf.lt _ hk; omega⟩
            clear hwd HPS0
            generalize wr.heap.size = db at HBD HND ⊢
            go_region_held3 (fun w' => w'.cell? ⟨db, 1, none⟩ = some (.int .i64 x1) ∧ w'.cell? ⟨db, 2, none⟩ = some (.int .i64 x2))
              (first | exact ⟨(HBD.out).cell (o := 1) rfl, (HBD.out).cell (o := 2) rfl⟩ | exact ⟨(PS.side (w3 := w2) HPD.out HBD.out HND.out.1 hm2).cell (o := 1) rfl, (PS.side (w3 := w2) HPD.out HBD.out HND.out.1 hm2).cell (o := 2) rfl⟩ | exact ⟨(PS.side2 HPD.out HBD.out HND.out.1 HND.out.2 hm2 hm3).cell (o := 1) rfl, (PS.side2 HPD.out HBD.out HND.out.1 HND.out.2 hm2 hm3).cell (o := 2) rfl⟩)
              (first | (go_at_call 17; ((with_reducible refine (C1.out _ HPD.out.hw.hp).mono ?_); rintro e w2 ⟨rfl, hm2⟩)) | (go_at_call 18; ((with_reducible refine (C2.out _ (HPD.out.mid hm2)).mono ?_); rintro e w3 ⟨rfl, hm3⟩)))
            have HSTEP : Hid (∃ S' Sx', PS w w3 p x R T2 L2 S' Sx') := HPD.out.step hm2 hm3
            rename_i hHeld
            clear hHeld hm2 hm3 HPD HBD HND
            obtain ⟨S3, Sx3, hps⟩ := HSTEP.out
            have HPS := Lib.hid hps
            clear hps HSTEP
            obtain ⟨n8, hn8⟩ : ∃ n8, n8 = L2.length := ⟨_, rfl⟩
            have HN8 := Lib.hid hn8
            have hn8l : n8 ≤ 256 := by rw [hn8]; exact HPS.out.rf.len
            clear hn8
            obtain ⟨g1, hg1⟩ : ∃ g1, g1 = fst1 L2 := ⟨_, rfl⟩
            obtain ⟨g2, hg2⟩ : ∃ g2, g2 = fst2 L2 := ⟨_, rfl⟩
            obtain ⟨g3, hg3⟩ : ∃ g3, g3 = fst3 L2 := ⟨_, rfl⟩
            have CA : Hid (Calls Try.prog 23 #[.pointer (some ⟨p, 0, none⟩)] w3 fun e w' => ∃ b, e = .returned (.slice (some ⟨b, 0, none⟩) n8 n8) ∧ Ints w' b (L2.map It.id) ∧ But No w3 w' ∧ w3.heap.size ≤ b) := by
              rw [HN8.out]; exact all_any p R T2 L2 S3 w3 HPS.out.hw.hp
            have CI : Hid (∀ w', But No w3 w' → Calls Try.prog 25 #[.pointer (some ⟨x, 0, none⟩)] w' fun e w'' => ∃ A c, e = .returned (.slice A n8 c) ∧ Ov w'' (.slice A n8 c) (L2.map It.id) ∧ But No w' w'') := fun w' hb => by
              rw [HN8.out]; exact ids_any x R L2 Sx3 w' (HPS.out.no hb).rf
            have CF : Hid (∀ w', But No w3 w' → Calls Try.prog 26 #[.pointer (some ⟨p, 0, none⟩)] w' fun e w'' => e = .returned (.tuple #[.int .i64 g1, .int .i64 g2, .bool g3]) ∧ But No w' w'') := fun w' hb => by
              rw [hg1, hg2, hg3]; exact first_any p R T2 L2 S3 w' (HPS.out.no hb).hw.hp
            have CG : Hid (∀ w', But No w3 w' → Calls Try.prog 27 #[.pointer (some ⟨x, 0, none⟩)] w' fun e w'' => e = .returned (.tuple #[.int .i64 g1, .int .i64 g2, .bool g3]) ∧ But No w' w'') := fun w' hb => by
              rw [hg1, hg2, hg3]; exact rfirst_any x R L2 Sx3 w' (HPS.out.no hb).rf
            have CN : Hid (∀ w' b A c, Ints w' b (L2.map It.id) → Ov w' (.slice A n8 c) (L2.map It.id) → Calls Try.prog 24 #[.slice (some ⟨b, 0, none⟩) n8 n8, .slice A n8 c] w' fun e w'' => e = .returned (.bool true) ∧ But No w' w'') := fun w' b A c h1 h2 => by
              have hlm : (L2.map It.id).length = n8 := by rw [List.length_map, HN8.out]
              have r1 := h1.rl (by omega)
              rw [hlm] at r1
              have := numbers_any (some ⟨b, 0, none⟩) A n8 n8 n8 c _ _ w' r1 (h2.rl (by omega)).1
              simp only [decide_true] at this
              exact this
            clear hg1 hg2 hg3
            go_wp2_with fail
            refine CA.out.mono ?_
            rintro e w4 ⟨b, rfl, hI, hb4, hbl⟩
            have HI := Lib.hid hI
            have HB4 := Lib.hid hb4
            have HBL := Lib.hid hbl
            clear hI hb4 hbl
            go_wp2_with (first | (go_at_call 25; refine (CI.out _ HB4.out).mono ?_; rintro e w5 ⟨A5, c5, rfl, hov, hb5⟩; have HOV := Lib.hid hov; have HB5 := Lib.hid (HB4.out.trans hb5); have HI5 := Lib.hid (HI.out.but hb5 (fun f => f)); clear hov hb5) | (go_at_call 24; refine (CN.out _ _ _ _ HI5.out HOV.out).mono ?_; rintro e w6 ⟨rfl, hb6⟩; have HB6 := Lib.hid (HB5.out.trans hb6); have HI6 := Lib.hid (HI5.out.but hb6 (fun f => f)); clear hb6) | (go_at_call 26; refine (CF.out _ HB6.out).mono ?_; rintro e w7 ⟨rfl, hb7⟩; have HB7 := Lib.hid (HB6.out.trans hb7); have HI7 := Lib.hid (HI6.out.but hb7 (fun f => f)); clear hb7) | (go_at_call 27; refine (CG.out _ HB7.out).mono ?_; rintro e w8 ⟨rfl, hb8⟩; have HB8 := Lib.hid (HB7.out.trans hb8); have HI8 := Lib.hid (HI7.out.but hb8 (fun f => f)); clear hb8))
            have HP8 := Lib.hid (HPS.out.no HB8.out)
            obtain ⟨A8, c8, _, hx8, _⟩ := HP8.out.rf.head
            rw [← HN8.out] at hx8
            have CL : Hid (∀ m, Calls Try.prog 28 #[.pointer (some ⟨p, 0, none⟩)] (w8.drewN m) fun r w' => r = .returned (.int .i64 n8) ∧ w' = w8.drewN m) := fun m => by
              rw [HN8.out]; exact len_back p R T2 L2 S3 _ (HP8.out.no ((But.refl No w8).drewN m)).hw.hp
            have HNB : Hid (¬ S3 b ∧ ¬ Sx3 b ∧ w.heap.size ≤ b) := by
              refine ⟨fun hk => ?_, fun hk => ?_, ?_⟩
              · have := HPS.out.hw.hp.lt _ hk; have := HBL.out; omega
              · have := HPS.out.rf.lt _ hk; have := HBL.out; omega
              · have := HPS.out.hw.but.size; have := HBL.out; omega
            clear CA CI CF CG CN HI HI5 HI6 HI7 HB4 HB5 HB6 HB7 HBL HOV HPS
            go_quiet ((go_at_call 28; exact Calls.quiet_of_same (CL.out _)))
            clear hx8
            generalize hw9 : w8.drewN _ = w9
            have HP9 : Hid (PS w w9 p x R T2 L2 S3 Sx3) := by rw [← hw9]; exact HP8.out.no ((But.refl No w8).drewN _)
            have HC9 : Hid (∃ cur, Blk w9 b cur 3 ∧ cur.size = n8) := by
              rw [← hw9]
              exact ⟨_, Blk.but (S := No) HI8.out ((But.refl No w8).drewN _) (fun f => f), by simp; exact HN8.out.symm⟩
            clear hw9 HP8 HI8 CL HB8
            go_wp2_with fail
            go_loopw [30] (fun s wx => ∃ j : Nat, s = .int .i64 j ∧ j ≤ n8 ∧ Hid (PS w wx p x R T2 L2 S3 Sx3) ∧ Hid (∃ cur, Blk wx b cur 3 ∧ cur.size = n8)) (fun s _ => n8 - (intOf s).toNat)
            case atStart => exact ⟨0, rfl, by omega, HP9, HC9⟩
            case round =>
              obtain ⟨j, rfl, hj, hp9, hc9⟩ := hrel
              clear HP9 HC9
              by_cases hjl : j < n8
              · obtain ⟨cur, hcb, hcs⟩ := hc9.out
                have hcell := hcb.cell (o := j) (v := cur[j]'(by omega)) (Array.getElem?_eq_getElem (by omega))
                have hfz := hcb.frozen j
                generalize cur[j]'(by omega) = old at hcell
                have HN1 : Hid (PS w (wr.setCell ⟨b, j, none⟩ (.int .i64 (-1))) p x R T2 L2 S3 Sx3) := hp9.out.beside ((But.refl _ wr).setCell (p := ⟨b, j, none⟩) (just b) _) HNB.out.1 HNB.out.2.1 HNB.out.2.2
                have HN2 : Hid (∃ cur, Blk (wr.setCell ⟨b, j, none⟩ (.int .i64 (-1))) b cur 3 ∧ cur.size = n8) := ⟨_, hcb.set j _, by simpa using hcs⟩
                have jn : (j : Int) < (n8 : Int) := by omega
                clear hcb hcs hc9 hp9
                go_wp2
                go_roundw
                case rel => exact ⟨j + 1, by go_num, by omega, HN1, HN2⟩
                case measure => simp [intOf]; omega
              · have jn : decide ((j : Int) < (n8 : Int)) = false := by simp; omega
                clear hc9
                go_wp2
                go_roundw
                case rel => exact ⟨k + 1, by go_num, by omega, by omega, S3, Sx3, T2, L2, hp9.out, HT2.out⟩
                case measure => simp [intOf]; omega
          · by_cases hcase : pk x0 5 = 3
            · clear q0
              obtain ⟨T2, hT2⟩ : ∃ t, t = T := ⟨_, rfl⟩
              obtain ⟨L2, hL2⟩ : ∃ l, l = rmv x1 L := ⟨_, rfl⟩
              have HT2 : Hid (T2 ≤ ((k + 1 : Nat) : Int)) := by show _ ≤ _; rw [hT2]; have := HTK.out; omega
              have CK : Hid (∀ w, Calls Try.prog 12 #[.int .i64 x0, .int .i64 5] w fun e w' => e = .returned (.int .i64 3) ∧ w = w') := fun w => by rw [← hcase]; exact pick_any x0 5 w F0.out (by omega) (by omega)
              clear hcase
              obtain ⟨E, hE⟩ : ∃ e, e = chE L x1 := ⟨_, rfl⟩
              have C1 : Hid (∀ w', HP w' S p R T L → Calls Try.prog 19 #[.pointer (some ⟨p, 0, none⟩), .int .i64 x1] w' fun r w'' => r = .returned (.int .i64 E) ∧ Mv w' S p R T2 L2 w'') := fun w' h' => by rw [hE, hT2, hL2]; exact remove_any p R T L S w' x1 F1.out h'
              have C2 : Hid (∀ w', RF w' Sx x R L → Calls Try.prog 20 #[.pointer (some ⟨x, 0, none⟩), .int .i64 x1] w' fun r w'' => r = .returned (.int .i64 E) ∧ Rm w' Sx x R L2 w'') := fun w' h' => by rw [hE, hL2]; exact rremove_any x R L Sx w' x1 h'
              clear hE hT2 hL2
              go_wp2_with (first | (go_at_call 12; ((with_reducible refine (CK.out _).mono ?_); rintro e w2 ⟨rfl, rfl⟩)))
              generalize hwd : wr.alloc _ = wd
              have HPD : Hid (PS w wd.drew p x R T L S Sx) := by rw [← hwd]; exact HPS0.out.no ((But.refl No wr).alloc _).drew
              have HBD : Hid (Blk wd.drew wr.heap.size #[.int .i64 x0, .int .i64 x1, .int .i64 x2] 31) := by rw [← hwd]; exact (Blk.new wr _ _).but (S := No) (But.refl No _).drew (fun f => f)
              have HND : Hid (¬ S wr.heap.size ∧ ¬ Sx wr.heap.size) := ⟨fun hk => by have := HPS0.out.hw.hp.lt _ hk; omega, fun hk => by have := HPS0.out.rf.lt _ hk; omega⟩
              clear hwd HPS0
              generalize wr.heap.size = db at HBD HND ⊢
              go_region_held3 (fun w' => w'.cell? ⟨db, 1, none⟩ = some (.int .i64 x1))
                (first | exact (HBD.out).cell (o := 1) rfl | exact (PS.side (w3 := w2) HPD.out HBD.out HND.out.1 hm2).cell (o := 1) rfl | exact (PS.side2 HPD.out HBD.out HND.out.1 HND.out.2 hm2 hm3).cell (o := 1) rfl)
                (first | (go_at_call 19; ((with_reducible refine (C1.out _ HPD.out.hw.hp).mono ?_); rintro e w2 ⟨rfl, hm2⟩)) | (go_at_call 20; ((with_reducible refine (C2.out _ (HPD.out.mid hm2)).mono ?_); rintro e w3 ⟨rfl, hm3⟩)))
              have HSTEP : Hid (∃ S' Sx', PS w w3 p x R T2 L2 S' Sx') := HPD.out.step hm2 hm3
              rename_i hHeld
              clear hHeld hm2 hm3 HPD HBD HND
              obtain ⟨S3, Sx3, hps⟩ := HSTEP.out
              have HPS := Lib.hid hps
              clear hps HSTEP
              obtain ⟨n8, hn8⟩ : ∃ n8, n8 = L2.length := ⟨_, rfl⟩
              have HN8 := Lib.hid hn8
              have hn8l : n8 ≤ 256 := by rw [hn8]; exact HPS.out.rf.len
              clear hn8
              obtain ⟨g1, hg1⟩ : ∃ g1, g1 = fst1 L2 := ⟨_, rfl⟩
              obtain ⟨g2, hg2⟩ : ∃ g2, g2 = fst2 L2 := ⟨_, rfl⟩
              obtain ⟨g3, hg3⟩ : ∃ g3, g3 = fst3 L2 := ⟨_, rfl⟩
              have CA : Hid (Calls Try.prog 23 #[.pointer (some ⟨p, 0, none⟩)] w3 fun e w' => ∃ b, e = .returned (.slice (some ⟨b, 0, none⟩) n8 n8) ∧ Ints w' b (L2.map It.id) ∧ But No w3 w' ∧ w3.heap.size ≤ b) := by
                rw [HN8.out]; exact all_any p R T2 L2 S3 w3 HPS.out.hw.hp
              have CI : Hid (∀ w', But No w3 w' → Calls Try.prog 25 #[.pointer (some ⟨x, 0, none⟩)] w' fun e w'' => ∃ A c, e = .returned (.slice A n8 c) ∧ Ov w'' (.slice A n8 c) (L2.map It.id) ∧ But No w' w'') := fun w' hb => by
                rw [HN8.out]; exact ids_any x R L2 Sx3 w' (HPS.out.no hb).rf
              have CF : Hid (∀ w', But No w3 w' → Calls Try.prog 26 #[.pointer (some ⟨p, 0, none⟩)] w' fun e w'' => e = .returned (.tuple #[.int .i64 g1, .int .i64 g2, .bool g3]) ∧ But No w' w'') := fun w' hb => by
                rw [hg1, hg2, hg3]; exact first_any p R T2 L2 S3 w' (HPS.out.no hb).hw.hp
              have CG : Hid (∀ w', But No w3 w' → Calls Try.prog 27 #[.pointer (some ⟨x, 0, none⟩)] w' fun e w'' => e = .returned (.tuple #[.int .i64 g1, .int .i64 g2, .bool g3]) ∧ But No w' w'') := fun w' hb => by
                rw [hg1, hg2, hg3]; exact rfirst_any x R L2 Sx3 w' (HPS.out.no hb).rf
              have CN : Hid (∀ w' b A c, Ints w' b (L2.map It.id) → Ov w' (.slice A n8 c) (L2.map It.id) → Calls Try.prog 24 #[.slice (some ⟨b, 0, none⟩) n8 n8, .slice A n8 c] w' fun e w'' => e = .returned (.bool true) ∧ But No w' w'') := fun w' b A c h1 h2 => by
                have hlm : (L2.map It.id).length = n8 := by rw [List.length_map, HN8.out]
                have r1 := h1.rl (by omega)
                rw [hlm] at r1
                have := numbers_any (some ⟨b, 0, none⟩) A n8 n8 n8 c _ _ w' r1 (h2.rl (by omega)).1
                simp only [decide_true] at this
                exact this
              clear hg1 hg2 hg3
              go_wp2_with fail
              refine CA.out.mono ?_
              rintro e w4 ⟨b, rfl, hI, hb4, hbl⟩
              have HI := Lib.hid hI
              have HB4 := Lib.hid hb4
              have HBL := Lib.hid hbl
              clear hI hb4 hbl
              go_wp2_with (first | (go_at_call 25; refine (CI.out _ HB4.out).mono ?_; rintro e w5 ⟨A5, c5, rfl, hov, hb5⟩; have HOV := Lib.hid hov; have HB5 := Lib.hid (HB4.out.trans hb5); have HI5 := Lib.hid (HI.out.but hb5 (fun f => f)); clear hov hb5) | (go_at_call 24; refine (CN.out _ _ _ _ HI5.out HOV.out).mono ?_; rintro e w6 ⟨rfl, hb6⟩; have HB6 := Lib.hid (HB5.out.trans hb6); have HI6 := Lib.hid (HI5.out.but hb6 (fun f => f)); clear hb6) | (go_at_call 26; refine (CF.out _ HB6.out).mono ?_; rintro e w7 ⟨rfl, hb7⟩; have HB7 := Lib.hid (HB6.out.trans hb7); have HI7 := Lib.hid (HI6.out.but hb7 (fun f => f)); clear hb7) | (go_at_call 27; refine (CG.out _ HB7.out).mono ?_; rintro e w8 ⟨rfl, hb8⟩; have HB8 := Lib.hid (HB7.out.trans hb8); have HI8 := Lib.hid (HI7.out.but hb8 (fun f => f)); clear hb8))
              have HP8 := Lib.hid (HPS.out.no HB8.out)
              obtain ⟨A8, c8, _, hx8, _⟩ := HP8.out.rf.head
              rw [← HN8.out] at hx8
              have CL : Hid (∀ m, Calls Try.prog 28 #[.pointer (some ⟨p, 0, none⟩)] (w8.drewN m) fun r w' => r = .returned (.int .i64 n8) ∧ w' = w8.drewN m) := fun m => by
                rw [HN8.out]; exact len_back p R T2 L2 S3 _ (HP8.out.no ((But.refl No w8).drewN m)).hw.hp
              have HNB : Hid (¬ S3 b ∧ ¬ Sx3 b ∧ w.heap.size ≤ b) := by
                refine ⟨fun hk => ?_, fun hk => ?_, ?_⟩
                · have := HPS.out.hw.hp.lt _ hk; have := HBL.out; omega
                · have := HPS.out.rf.lt _ hk; have := HBL.out; omega
                · have := HPS.out.hw.but.size; have := HBL.out; omega
              clear CA CI CF CG CN HI HI5 HI6 HI7 HB4 HB5 HB6 HB7 HBL HOV HPS
              go_quiet ((go_at_call 28; exact Calls.quiet_of_same (CL.out _)))
              clear hx8
              generalize hw9 : w8.drewN _ = w9
              have HP9 : Hid (PS w w9 p x R T2 L2 S3 Sx3) := by rw [← hw9]; exact HP8.out.no ((But.refl No w8).drewN _)
              have HC9 : Hid (∃ cur, Blk w9 b cur 3 ∧ cur.size = n8) := by
                rw [← hw9]
                exact ⟨_, Blk.but (S := No) HI8.out ((But.refl No w8).drewN _) (fun f => f), by simp; exact HN8.out.symm⟩
              clear hw9 HP8 HI8 CL HB8
              go_wp2_with fail
              go_loopw [30] (fun s wx => ∃ j : Nat, s = .int .i64 j ∧ j ≤ n8 ∧ Hid (PS w wx p x R T2 L2 S3 Sx3) ∧ Hid (∃ cur, Blk wx b cur 3 ∧ cur.size = n8)) (fun s _ => n8 - (intOf s).toNat)
              case atStart => exact ⟨0, rfl, by omega, HP9, HC9⟩
              case round =>
                obtain ⟨j, rfl, hj, hp9, hc9⟩ := hrel
                clear HP9 HC9
                by_cases hjl : j < n8
                · obtain ⟨cur, hcb, hcs⟩ := hc9.out
                  have hcell := hcb.cell (o := j) (v := cur[j]'(by omega)) (Array.getElem?_eq_getElem (by omega))
                  have hfz := hcb.frozen j
                  generalize cur[j]'(by omega) = old at hcell
                  have HN1 : Hid (PS w (wr.setCell ⟨b, j, none⟩ (.int .i64 (-1))) p x R T2 L2 S3 Sx3) := hp9.out.beside ((But.refl _ wr).setCell (p := ⟨b, j, none⟩) (just b) _) HNB.out.1 HNB.out.2.1 HNB.out.2.2
                  have HN2 : Hid (∃ cur, Blk (wr.setCell ⟨b, j, none⟩ (.int .i64 (-1))) b cur 3 ∧ cur.size = n8) := ⟨_, hcb.set j _, by simpa using hcs⟩
                  have jn : (j : Int) < (n8 : Int) := by omega
                  clear hcb hcs hc9 hp9
                  go_wp2
                  go_roundw
                  case rel => exact ⟨j + 1, by go_num, by omega, HN1, HN2⟩
                  case measure => simp [intOf]; omega
                · have jn : decide ((j : Int) < (n8 : Int)) = false := by simp; omega
                  clear hc9
                  go_wp2
                  go_roundw
                  case rel => exact ⟨k + 1, by go_num, by omega, by omega, S3, Sx3, T2, L2, hp9.out, HT2.out⟩
                  case measure => simp [intOf]; omega
            · have hcase : pk x0 5 = 4 := by omega
              clear q0
              obtain ⟨T2, hT2⟩ : ∃ t, t = T := ⟨_, rfl⟩
              obtain ⟨L2, hL2⟩ : ∃ l, l = L := ⟨_, rfl⟩
              have HT2 : Hid (T2 ≤ ((k + 1 : Nat) : Int)) := by show _ ≤ _; rw [hT2]; have := HTK.out; omega
              have CK : Hid (∀ w, Calls Try.prog 12 #[.int .i64 x0, .int .i64 5] w fun e w' => e = .returned (.int .i64 4) ∧ w = w') := fun w => by rw [← hcase]; exact pick_any x0 5 w F0.out (by omega) (by omega)
              clear hcase
              obtain ⟨f1, hf1⟩ : ∃ e, e = keyV L x1 := ⟨_, rfl⟩
              obtain ⟨f3, hf3⟩ : ∃ e, e = hasI x1 L := ⟨_, rfl⟩
              have C1 : Hid (∀ w', HP w' S p R T L → Calls Try.prog 21 #[.pointer (some ⟨p, 0, none⟩), .int .i64 x1] w' fun r w'' => r = .returned (.tuple #[.int .i64 f1, .bool f3]) ∧ But No w' w'') := fun w' h' => by rw [hf1, hf3]; exact key_any p R T L S w' x1 F1.out h'
              have C2 : Hid (∀ w', RF w' Sx x R L → Calls Try.prog 22 #[.pointer (some ⟨x, 0, none⟩), .int .i64 x1] w' fun r w'' => r = .returned (.tuple #[.int .i64 f1, .bool f3]) ∧ But No w' w'') := fun w' h' => by rw [hf1, hf3]; exact rkey_any x R L Sx w' x1 h' HPS0.out.hw.hp.nd
              have HPD : Hid (PS w (wr.alloc (.cells #[.int .i64 x0, .int .i64 x1, .int .i64 x2] 31)) p x R T2 L2 S Sx) := by rw [hT2, hL2]; exact HPS0.out.no ((But.refl No wr).alloc _)
              rw [← hL2, ← hT2] at C1
              rw [← hL2] at C2
              have HBD : Hid (Blk (wr.alloc (.cells #[.int .i64 x0, .int .i64 x1, .int .i64 x2] 31)) wr.heap.size #[.int .i64 x0, .int .i64 x1, .int .i64 x2] 31) := Blk.new wr _ _
              clear hf1 hf3 hT2 hL2 HPS0
              have q1 : (f1 == f1) = true := by simp
              have q3 : (f3 == f3) = true := by simp
              go_wp2_with (first | (go_at_call 12; ((with_reducible refine (CK.out _).mono ?_); rintro e w2 ⟨rfl, rfl⟩)) | (go_at_call 21; refine (C1.out _ HPD.out.hw.hp).mono ?_; rintro e w2 ⟨rfl, hm2⟩; have dc1 : w2.cell? ⟨wr.heap.size, 1, none⟩ = some (.int .i64 x1) := (HBD.out.but hm2 (fun f => f)).cell (o := 1) rfl; have HM2 := Lib.hid hm2; clear hm2) | (go_at_call 22; refine (C2.out _ (HPD.out.no HM2.out).rf).mono ?_; rintro e w3 ⟨rfl, hm3⟩; have HSTEP : Hid (∃ S' Sx', PS w w3 p x R T2 L2 S' Sx') := ⟨S, Sx, HPD.out.no (HM2.out.trans hm3)⟩; clear hm3))
              obtain ⟨S3, Sx3, hps⟩ := HSTEP.out
              have HPS := Lib.hid hps
              clear hps HSTEP
              obtain ⟨n8, hn8⟩ : ∃ n8, n8 = L2.length := ⟨_, rfl⟩
              have HN8 := Lib.hid hn8
              have hn8l : n8 ≤ 256 := by rw [hn8]; exact HPS.out.rf.len
              clear hn8
              obtain ⟨g1, hg1⟩ : ∃ g1, g1 = fst1 L2 := ⟨_, rfl⟩
              obtain ⟨g2, hg2⟩ : ∃ g2, g2 = fst2 L2 := ⟨_, rfl⟩
              obtain ⟨g3, hg3⟩ : ∃ g3, g3 = fst3 L2 := ⟨_, rfl⟩
              have CA : Hid (Calls Try.prog 23 #[.pointer (some ⟨p, 0, none⟩)] w3 fun e w' => ∃ b, e = .returned (.slice (some ⟨b, 0, none⟩) n8 n8) ∧ Ints w' b (L2.map It.id) ∧ But No w3 w' ∧ w3.heap.size ≤ b) := by
                rw [HN8.out]; exact all_any p R T2 L2 S3 w3 HPS.out.hw.hp
              have CI : Hid (∀ w', But No w3 w' → Calls Try.prog 25 #[.pointer (some ⟨x, 0, none⟩)] w' fun e w'' => ∃ A c, e = .returned (.slice A n8 c) ∧ Ov w'' (.slice A n8 c) (L2.map It.id) ∧ But No w' w'') := fun w' hb => by
                rw [HN8.out]; exact ids_any x R L2 Sx3 w' (HPS.out.no hb).rf
              have CF : Hid (∀ w', But No w3 w' → Calls Try.prog 26 #[.pointer (some ⟨p, 0, none⟩)] w' fun e w'' => e = .returned (.tuple #[.int .i64 g1, .int .i64 g2, .bool g3]) ∧ But No w' w'') := fun w' hb => by
                rw [hg1, hg2, hg3]; exact first_any p R T2 L2 S3 w' (HPS.out.no hb).hw.hp
              have CG : Hid (∀ w', But No w3 w' → Calls Try.prog 27 #[.pointer (some ⟨x, 0, none⟩)] w' fun e w'' => e = .returned (.tuple #[.int .i64 g1, .int .i64 g2, .bool g3]) ∧ But No w' w'') := fun w' hb => by
                rw [hg1, hg2, hg3]; exact rfirst_any x R L2 Sx3 w' (HPS.out.no hb).rf
              have CN : Hid (∀ w' b A c, Ints w' b (L2.map It.id) → Ov w' (.slice A n8 c) (L2.map It.id) → Calls Try.prog 24 #[.slice (some ⟨b, 0, none⟩) n8 n8, .slice A n8 c] w' fun e w'' => e = .returned (.bool true) ∧ But No w' w'') := fun w' b A c h1 h2 => by
                have hlm : (L2.map It.id).length = n8 := by rw [List.length_map, HN8.out]
                have r1 := h1.rl (by omega)
                rw [hlm] at r1
                have := numbers_any (some ⟨b, 0, none⟩) A n8 n8 n8 c _ _ w' r1 (h2.rl (by omega)).1
                simp only [decide_true] at this
                exact this
              clear hg1 hg2 hg3
              refine CA.out.mono ?_
              rintro e w4 ⟨b, rfl, hI, hb4, hbl⟩
              have HI := Lib.hid hI
              have HB4 := Lib.hid hb4
              have HBL := Lib.hid hbl
              clear hI hb4 hbl
              go_wp2_with (first | (go_at_call 25; refine (CI.out _ HB4.out).mono ?_; rintro e w5 ⟨A5, c5, rfl, hov, hb5⟩; have HOV := Lib.hid hov; have HB5 := Lib.hid (HB4.out.trans hb5); have HI5 := Lib.hid (HI.out.but hb5 (fun f => f)); clear hov hb5) | (go_at_call 24; refine (CN.out _ _ _ _ HI5.out HOV.out).mono ?_; rintro e w6 ⟨rfl, hb6⟩; have HB6 := Lib.hid (HB5.out.trans hb6); have HI6 := Lib.hid (HI5.out.but hb6 (fun f => f)); clear hb6) | (go_at_call 26; refine (CF.out _ HB6.out).mono ?_; rintro e w7 ⟨rfl, hb7⟩; have HB7 := Lib.hid (HB6.out.trans hb7); have HI7 := Lib.hid (HI6.out.but hb7 (fun f => f)); clear hb7) | (go_at_call 27; refine (CG.out _ HB7.out).mono ?_; rintro e w8 ⟨rfl, hb8⟩; have HB8 := Lib.hid (HB7.out.trans hb8); have HI8 := Lib.hid (HI7.out.but hb8 (fun f => f)); clear hb8))
              have HP8 := Lib.hid (HPS.out.no HB8.out)
              obtain ⟨A8, c8, _, hx8, _⟩ := HP8.out.rf.head
              rw [← HN8.out] at hx8
              have CL : Hid (∀ m, Calls Try.prog 28 #[.pointer (some ⟨p, 0, none⟩)] (w8.drewN m) fun r w' => r = .returned (.int .i64 n8) ∧ w' = w8.drewN m) := fun m => by
                rw [HN8.out]; exact len_back p R T2 L2 S3 _ (HP8.out.no ((But.refl No w8).drewN m)).hw.hp
              have HNB : Hid (¬ S3 b ∧ ¬ Sx3 b ∧ w.heap.size ≤ b) := by
                refine ⟨fun hk => ?_, fun hk => ?_, ?_⟩
                · have := HPS.out.hw.hp.lt _ hk; have := HBL.out; omega
                · have := HPS.out.rf.lt _ hk; have := HBL.out; omega
                · have := HPS.out.hw.but.size; have := HBL.out; omega
              clear CA CI CF CG CN HI HI5 HI6 HI7 HB4 HB5 HB6 HB7 HBL HOV HPS
              go_quiet ((go_at_call 28; exact Calls.quiet_of_same (CL.out _)))
              clear hx8
              generalize hw9 : w8.drewN _ = w9
              have HP9 : Hid (PS w w9 p x R T2 L2 S3 Sx3) := by rw [← hw9]; exact HP8.out.no ((But.refl No w8).drewN _)
              have HC9 : Hid (∃ cur, Blk w9 b cur 3 ∧ cur.size = n8) := by
                rw [← hw9]
                exact ⟨_, Blk.but (S := No) HI8.out ((But.refl No w8).drewN _) (fun f => f), by simp; exact HN8.out.symm⟩
              clear hw9 HP8 HI8 CL HB8
              go_wp2_with fail
              go_loopw [30] (fun s wx => ∃ j : Nat, s = .int .i64 j ∧ j ≤ n8 ∧ Hid (PS w wx p x R T2 L2 S3 Sx3) ∧ Hid (∃ cur, Blk wx b cur 3 ∧ cur.size = n8)) (fun s _ => n8 - (intOf s).toNat)
              case atStart => exact ⟨0, rfl, by omega, HP9, HC9⟩
              case round =>
                obtain ⟨j, rfl, hj, hp9, hc9⟩ := hrel
                clear HP9 HC9
                by_cases hjl : j < n8
                · obtain ⟨cur, hcb, hcs⟩ := hc9.out
                  have hcell := hcb.cell (o := j) (v := cur[j]'(by omega)) (Array.getElem?_eq_getElem (by omega))
                  have hfz := hcb.frozen j
                  generalize cur[j]'(by omega) = old at hcell
                  have HN1 : Hid (PS w (wr.setCell ⟨b, j, none⟩ (.int .i64 (-1))) p x R T2 L2 S3 Sx3) := hp9.out.beside ((But.refl _ wr).setCell (p := ⟨b, j, none⟩) (just b) _) HNB.out.1 HNB.out.2.1 HNB.out.2.2
                  have HN2 : Hid (∃ cur, Blk (wr.setCell ⟨b, j, none⟩ (.int .i64 (-1))) b cur 3 ∧ cur.size = n8) := ⟨_, hcb.set j _, by simpa using hcs⟩
                  have jn : (j : Int) < (n8 : Int) := by omega
                  clear hcb hcs hc9 hp9
                  go_wp2
                  go_roundw
                  case rel => exact ⟨j + 1, by go_num, by omega, HN1, HN2⟩
                  case measure => simp [intOf]; omega
                · have jn : decide ((j : Int) < (n8 : Int)) = false := by simp; omega
                  clear hc9
                  go_wp2
                  go_roundw
                  case rel => exact ⟨k + 1, by go_num, by omega, by omega, S3, Sx3, T2, L2, hp9.out, HT2.out⟩
                  case measure => simp [intOf]; omega
    · have HBW := Lib.hid HPS0.out.hw.but
      by_cases hkn : k < n
      · have b1 : (k : Int) < (n : Int) := by omega
        have b2 : decide ((k : Int) < 300) = false := by simp; omega
        go_wp2
        go_ret
        exact ⟨rfl, HBW.out⟩
      · have b1 : decide ((k : Int) < (n : Int)) = false := by simp; omega
        go_wp2
        go_ret
        exact ⟨rfl, HBW.out⟩
theorem walk (a0 : Int) (_ : (Lit.int .i64 a0).wf = true) (A : Option Addr) (n c : Nat) (kd di dk : Nat → Int) (w : World) (hd : RdD w A n kd di dk) :
    Calls Try.prog 3 #[.int .i64 a0, .slice A n c] w fun e w' => e = .returned (.bool true) ∧ But No w w' := by
  by_cases h : a0 < 0 ∨ 256 < a0
  · exact walk0 a0 A n c w h
  · exact walk1 a0 A n c kd di dk w hd (by omega) (by omega)
end Go.Proofs.Ytlnoelahlbbgkaa.heapPlays
