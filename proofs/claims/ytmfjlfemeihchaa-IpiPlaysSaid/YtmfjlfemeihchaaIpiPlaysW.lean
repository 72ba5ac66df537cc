/- Mailboxes do, deed by deed, just what the chapter says: IpiPlays returns true. (The walk.) -/
import Derived.Test.YtmfjlfemeihchaaD
import Derived.Test.YtmfjlfemeihchaaR4
namespace Go.Proofs.Ytmfjlfemeihchaa
open Go.ChangeShapes Go.WideShapes Go.ChangeAt Go.RowKit Go.Deep
namespace ipiPlays
/-- Both mailboxes, the program's and the document's, hold L. -/
structure PP (w wr : World) (p m x : Nat) (C : Int) (T : Nat) (L : List Nt) (Sx : Nat → Prop) : Prop where
  hw : Hw w wr p m C T L
  rf : RF wr Sx x C L
  ds : ∀ k, Own p m k → ¬ Sx k
  nx : ∀ k, Sx k → w.heap.size ≤ k
theorem PP.no {w wr wd : World} {p m x : Nat} {C : Int} {T : Nat} {L : List Nt} {Sx : Nat → Prop} (h : PP w wr p m x C T L Sx) (hb : But No wr wd) : PP w wd p m x C T L Sx :=
  ⟨h.hw.no hb, h.rf.no hb, h.ds, h.nx⟩
theorem PP.mid {w wd w2 : World} {p m x : Nat} {C : Int} {T : Nat} {L : List Nt} {Sx : Nat → Prop} (h : PP w wd p m x C T L Sx) (hb : But (Own p m) wd w2) : RF w2 Sx x C L :=
  h.rf.but hb (fun k hk ho => h.ds k ho hk)
theorem PP.two {w wd w2 w3 : World} {p m x : Nat} {C : Int} {T T' : Nat} {L L' : List Nt} {Sx : Nat → Prop} (h : PP w wd p m x C T L Sx) (b : BP w2 p m C T' L') (hb : But (Own p m) wd w2) (hr : Rm w2 Sx x C L' w3) : ∃ Sx', PP w w3 p m x C T' L' Sx' := by
  obtain ⟨Sx', r1, r2, r3⟩ := hr
  have h1 : But No w w2 := h.hw.but.andThen hb (fun k hk => .inr (h.hw.new k hk))
  have hsz := h1.size
  refine ⟨Sx', ⟨⟨b.but r2 (h.ds p (.inl rfl)) (h.ds m (.inr rfl)), h1.andThen r2 (fun k hk => .inr (h.nx k hk)), h.hw.new⟩, r1, fun k hk hx => ?_, fun k hk => (r3 k hk).elim (h.nx k) (fun g => by omega)⟩⟩
  exact (r3 k hx).elim (h.ds k hk) (fun g => by have := b.lt k hk; omega)
theorem PP.side {w wd w2 w3 : World} {p m x : Nat} {C : Int} {T : Nat} {L L' : List Nt} {Sx : Nat → Prop} (_ : PP w wd p m x C T L Sx) {b : Nat} {cur : Array Value} {e : TypeId} (hk : Blk wd b cur e) (h1 : ¬ Own p m b) (h2 : ¬ Sx b) (hb : But (Own p m) wd w2) (hr : Rm w2 Sx x C L' w3) : Blk w3 b cur e := by
  obtain ⟨Sx', r1, r2, r3⟩ := hr
  exact (hk.but hb h1).but r2 h2
def Rel (w wr : World) (p m x : Nat) (C : Int) (k : Nat) : Prop := ∃ Sx T L, PP w wr p m x C T L Sx ∧ T ≤ k
theorem turnS_up (C : Int) (T : Nat) (L : List Nt) (c t now : Int) : turnS C T L c t now ≤ T + 1 := by unfold turnS; split <;> omega
theorem sb {wd w2 : World} {b : Nat} {k c t n l : Int} (h : Blk wd b #[.int .i64 k, .int .i64 c, .int .i64 t, .int .i64 n, .int .i64 l] 31) (hb : But No wd w2) : w2.cell? ⟨b, 1, none⟩ = some (.int .i64 c) ∧ w2.cell? ⟨b, 2, none⟩ = some (.int .i64 t) ∧ But No wd w2 :=
  ⟨(h.but hb (fun f => f)).cell (o := 1) rfl, (h.but hb (fun f => f)).cell (o := 2) rfl, hb⟩
theorem sc {w2 : World} {b : Nat} {k c t n l : Int} (h : Blk w2 b #[.int .i64 k, .int .i64 c, .int .i64 t, .int .i64 n, .int .i64 l] 31) : w2.cell? ⟨b, 1, none⟩ = some (.int .i64 c) ∧ w2.cell? ⟨b, 2, none⟩ = some (.int .i64 t) ∧ w2.cell? ⟨b, 3, none⟩ = some (.int .i64 n) ∧ w2.cell? ⟨b, 4, none⟩ = some (.int .i64 l) :=
  ⟨h.cell (o := 1) rfl, h.cell (o := 2) rfl, h.cell (o := 3) rfl, h.cell (o := 4) rfl⟩
set_option maxHeartbeats 1000000 in
set_option maxRecDepth 100000 in
theorem walk0 (a0 : Int) (A : Option Addr) (n c : Nat) (w : World) (hb : a0 < 1 ∨ 8 < a0) :
    Calls Try.prog 3 #[.int .i64 a0, .slice A n c] w fun e w' => e = .returned (.bool true) ∧ But No w w' := by
  have C1 : Hid (∀ w, Calls Try.prog 7 #[.int .i64 a0] w fun r w' => r = .returned (.tuple #[.pointer none, .int .i64 1]) ∧ w = w') := fun w => new_bad a0 w hb
  have C2 : Hid (∀ w, Calls Try.prog 8 #[.int .i64 a0] w fun r w' => r = .returned (.pointer none) ∧ w = w') := fun w => rnew_bad a0 w hb
  clear hb
  go_enter Try.func3, Try.ntmps3
  go_wp2_with (first
    | (go_at_call 6; refine (examples_any _).mono ?_; rintro e we ⟨rfl, hbe⟩; have HE := Lib.hid hbe; clear hbe)
    | (go_at_call 7; refine (C1.out _).mono ?_; rintro e w1 ⟨rfl, rfl⟩)
    | (go_at_call 8; refine (C2.out _).mono ?_; rintro e w1 ⟨rfl, rfl⟩))
  go_ret
  exact ⟨rfl, HE.out⟩
set_option maxHeartbeats 20000000 in
set_option maxRecDepth 100000 in
theorem walk1 (C : Int) (A : Option Addr) (n c : Nat) (f : Nat → Dd) (w : World) (hd : RdD w A n f) (hC0 : 1 ≤ C) (hC1 : C ≤ 8) :
    Calls Try.prog 3 #[.int .i64 C, .slice A n c] w fun e w' => e = .returned (.bool true) ∧ But No w w' := by
  have HD := Lib.hid hd
  have hmax := hd.max
  clear hd
  go_enter Try.func3, Try.ntmps3
  go_wp2_with (first
    | (go_at_call 6; refine (examples_any _).mono ?_; rintro e we ⟨rfl, hbe⟩; have HE := Lib.hid hbe; clear hbe)
    | (go_at_call 7; refine (new_ok C _ hC0 hC1).mono ?_; rintro e w1 ⟨p, m, rfl, h1, h2, h3⟩; have HN1 := Lib.hid (Hw.made HE.out h1 h2 h3); clear h1 h2 h3)
    | (go_at_call 8; refine (rnew_ok C _ hC0 hC1).mono ?_; rintro e w2 ⟨x, Sx, rfl, hne⟩; have HN2 := Lib.hid hne; clear hne))
  have H1 : Hid (Rel w w2 p m x C 0) := by
    obtain ⟨h1, h2, h3⟩ := HN2.out
    exact ⟨Sx, 0, [], ⟨HN1.out.no h2, h1, fun k hk hx => by have := HN1.out.bp.lt k hk; have := h3 k hx; omega, fun k hk => by have := h3 k hk; have := HN1.out.but.size; omega⟩, by omega⟩
  clear HN1 HN2
  go_loopw [9] (fun s wr => ∃ k : Nat, s = .int .i64 k ∧ k ≤ n ∧ k ≤ 300 ∧ Hid (Rel w wr p m x C k)) (fun s _ => n - (intOf s).toNat)
  case atStart => exact ⟨0, rfl, by omega, by omega, H1⟩
  case round =>
    obtain ⟨k, rfl, hk, hk3, hrel⟩ := hrel
    clear H1
    obtain ⟨Sx1, T, L, hps, htk⟩ := hrel.out
    have HPS0 := Lib.hid hps
    have HTK := Lib.hid htk
    have hT : T ≤ 1000 := by omega
    clear hps htk hrel
    by_cases hgo : k < n ∧ k < 300
    · obtain ⟨hlt, hl3⟩ := hgo
      obtain ⟨eb, eoff, rfl, hbl, hc⟩ := (HD.out.no HPS0.out.hw.but).at_ (by omega)
      obtain ⟨c0, c1, c2, c3, c4⟩ := hc k hlt
      have hf := HD.out.fit k hlt
      obtain ⟨x0, hx0⟩ : ∃ y, f k = y := ⟨_, rfl⟩
      rw [hx0] at c0 c1 c2 c3 c4 hf
      obtain ⟨kd, co, tk_, nw, lt⟩ := x0
      dsimp only at c0 c1 c2 c3 c4 hf
      have HFF := Lib.hid hf
      have q0 := pk_lt kd 2 (by omega)
      have kn' : (k : Int) < (n : Int) := by omega
      have k3' : (k : Int) < 300 := by omega
      have HND : Hid (¬ Own p m wr.heap.size ∧ ¬ Sx1 wr.heap.size) := ⟨fun hk => by have := HPS0.out.hw.bp.lt _ hk; omega, fun hk => by have := HPS0.out.rf.lt _ hk; omega⟩
      clear hc hbl hf hx0
      by_cases hc0 : pk kd 2 = 0
      · have CK : Hid (∀ w, Calls Try.prog 9 #[.int .i64 kd, .int .i64 2] w fun e w' => e = .returned (.int .i64 0) ∧ w = w') := fun w => by rw [← hc0]; exact pick_any kd 2 w HFF.out.1 (by omega) (by omega)
        clear hc0 q0
        go_wp2_with (go_at_call 9; ((with_reducible refine (CK.out _).mono ?_); rintro e w2 ⟨rfl, rfl⟩))
        generalize hwd : World.alloc _ _ = wd
        have HPD : Hid (PP w wd p m x C T L Sx1) := by rw [← hwd]; exact HPS0.out.no ((But.refl No wr).alloc _)
        have HBD : Hid (Blk wd wr.heap.size #[.int .i64 kd, .int .i64 co, .int .i64 tk_, .int .i64 nw, .int .i64 lt] 31) := by rw [← hwd]; exact Blk.new wr _ _
        clear hwd HPS0 c0 c1 c2 c3 c4 CK
        generalize wr.heap.size = db at HBD HND ⊢
        obtain ⟨T2, hT2⟩ : ∃ t, t = turnS C T L co tk_ nw := ⟨_, rfl⟩
        obtain ⟨L2, hL2⟩ : ∃ l, l = sent C T L co tk_ nw lt := ⟨_, rfl⟩
        have HT2 : Hid (T2 ≤ k + 1) := by show _ ≤ _; rw [hT2]; have := turnS_up C T L co tk_ nw; have := HTK.out; omega
        obtain ⟨E, hE⟩ : ∃ e, e = okS C L co tk_ nw := ⟨_, rfl⟩
        have C1 : Hid (∀ w', BP w' p m C T L → Calls Try.prog 10 #[.pointer (some ⟨p, 0, none⟩), .int .i64 co, .int .i64 tk_, .int .i64 nw, .int .i64 lt] w' fun r w'' => r = .returned (.bool E) ∧ BP w'' p m C T2 L2 ∧ But (Own p m) w' w'') := fun w' h' => by rw [hE, hT2, hL2]; exact send_any p m C T L co tk_ nw lt w' h' hT
        have C2 : Hid (∀ w', RF w' Sx1 x C L → Calls Try.prog 11 #[.pointer (some ⟨x, 0, none⟩), .int .i64 co, .int .i64 tk_, .int .i64 nw, .int .i64 lt] w' fun r w'' => r = .returned (.bool E) ∧ Rm w' Sx1 x C L2 w'') := fun w' h' => by rw [hE, hL2]; exact rsend_any x C T L Sx1 w' co tk_ nw lt h' HPD.out.hw.bp.gd hT
        have bE : (E == E) = true := by simp
        clear hE hT2 hL2
        go_region_held3 (fun w' => w'.cell? ⟨db, 1, none⟩ = some (.int .i64 co) ∧ w'.cell? ⟨db, 2, none⟩ = some (.int .i64 tk_) ∧ w'.cell? ⟨db, 3, none⟩ = some (.int .i64 nw) ∧ w'.cell? ⟨db, 4, none⟩ = some (.int .i64 lt))
          (first | exact sc (HBD.out.but (But.refl No wd).drew (fun f => f)) | exact sc HBD.out | exact sc ((HBD.out.but (But.refl No wd).drew (fun f => f)).but hb2 HND.out.1) | exact sc (PP.side (HPD.out.no (But.refl No wd).drew) (HBD.out.but (But.refl No wd).drew (fun f => f)) HND.out.1 HND.out.2 hb2 hm3))
          (first | (go_at_call 10; ((with_reducible refine (C1.out _ (HPD.out.no (But.refl No wd).drew).hw.bp).mono ?_); rintro e w2 ⟨rfl, hm2, hb2⟩)) | (go_at_call 11; ((with_reducible refine (C2.out _ ((HPD.out.no (But.refl No wd).drew).mid hb2)).mono ?_); rintro e w3 ⟨rfl, hm3⟩)))
        rename_i hHeld
        clear hHeld
        have HSTEP : Hid (∃ Sx', PP w w3 p m x C T2 L2 Sx') := (HPD.out.no (But.refl No wd).drew).two hm2 hb2 hm3
        have HBD3 : Hid (Blk w3 db #[.int .i64 kd, .int .i64 co, .int .i64 tk_, .int .i64 nw, .int .i64 lt] 31) := PP.side (HPD.out.no (But.refl No wd).drew) (HBD.out.but (But.refl No wd).drew (fun f => f)) HND.out.1 HND.out.2 hb2 hm3
        clear hm2 hb2 hm3 HPD HBD HND C1 C2
        obtain ⟨Sx3, hps⟩ := HSTEP.out
        have HPS := Lib.hid hps
        clear hps HSTEP
        have hlen : L2.length ≤ 1000 := by have := HPS.out.hw.bp.gd.len; have := HT2.out; omega
        have CD1 : Hid (∀ w', But No w3 w' → Calls Try.prog 14 #[.pointer (some ⟨p, 0, none⟩), .int .i64 co, .int .i64 tk_] w' fun e w'' => e = .returned (.int .i64 (dueOf L2 co tk_)) ∧ But No w3 w'') := fun w' hb => (due_any p m C T2 L2 co tk_ w' (HPS.out.no hb).hw.bp HFF.out.2.1 HFF.out.2.2.1).mono (fun _ _ h => ⟨h.1, hb.trans h.2⟩)
        have CD2 : Hid (∀ w', But No w3 w' → Calls Try.prog 15 #[.pointer (some ⟨x, 0, none⟩), .int .i64 co, .int .i64 tk_] w' fun e w'' => e = .returned (.int .i64 (dueOf L2 co tk_)) ∧ But No w3 w'') := fun w' hb => (rdue_any x C L2 Sx3 w' co tk_ (HPS.out.no hb).rf hlen).mono (fun _ _ h => ⟨h.1, by rw [h.2]; exact hb⟩)
        have CL1 : Hid (∀ w', But No w3 w' → Calls Try.prog 16 #[.pointer (some ⟨p, 0, none⟩), .int .i64 co] w' fun e w'' => e = .returned (.int .i64 (cn L2 co)) ∧ But No w3 w'') := fun w' hb => (len_any p m C T2 L2 co w' (HPS.out.no hb).hw.bp HFF.out.2.1).mono (fun _ _ h => ⟨h.1, hb.trans h.2⟩)
        have CL2 : Hid (∀ w', But No w3 w' → Calls Try.prog 17 #[.pointer (some ⟨x, 0, none⟩), .int .i64 co] w' fun e w'' => e = .returned (.int .i64 (cn L2 co)) ∧ But No w3 w'') := fun w' hb => (rlen_any x C L2 Sx3 w' co (HPS.out.no hb).rf hlen).mono (fun _ _ h => ⟨h.1, by rw [h.2]; exact hb⟩)
        generalize dueOf L2 co tk_ = dq at CD1 CD2
        generalize cn L2 co = cq at CL1 CL2
        have bd1 : (dq != dq) = false := by simp
        have bd2 : ((cq : Int) != (cq : Int)) = false := by simp
        clear hlen
        go_wp2_with fail
        go_region_held3 (fun w' => w'.cell? ⟨db, 1, none⟩ = some (.int .i64 co) ∧ w'.cell? ⟨db, 2, none⟩ = some (.int .i64 tk_) ∧ But No w3 w')
          (first | exact sb HBD3.out (But.refl No w3).drew | exact sb HBD3.out hgA | exact sb HBD3.out hgB | exact sb HBD3.out hgC | exact sb HBD3.out hgD)
          (first | (go_at_call 14; ((with_reducible refine (CD1.out _ (But.refl No w3).drew).mono ?_); rintro e wA ⟨rfl, hgA⟩)) | (go_at_call 15; ((with_reducible refine (CD2.out _ hgA).mono ?_); rintro e wB ⟨rfl, hgB⟩)) | (go_at_call 16; ((with_reducible refine (CL1.out _ hgB).mono ?_); rintro e wC ⟨rfl, hgC⟩)) | (go_at_call 17; ((with_reducible refine (CL2.out _ hgC).mono ?_); rintro e wD ⟨rfl, hgD⟩)))
        rename_i hHeld
        clear hHeld
        have HP9 : Hid (Rel w wD p m x C (k + 1)) := ⟨Sx3, T2, L2, HPS.out.no hgD, HT2.out⟩
        clear hgA hgB hgC hgD HPS HBD3 CD1 CD2 CL1 CL2
        go_wp2
        go_roundw
        case rel => exact ⟨k + 1, by go_num, by omega, by omega, HP9⟩
        case measure => simp [intOf]; omega
      · have hc1 : pk kd 2 = 1 := by omega
        have CK : Hid (∀ w, Calls Try.prog 9 #[.int .i64 kd, .int .i64 2] w fun e w' => e = .returned (.int .i64 1) ∧ w = w') := fun w => by rw [← hc1]; exact pick_any kd 2 w HFF.out.1 (by omega) (by omega)
        clear hc0 hc1 q0
        obtain ⟨zs, hzs⟩ : ∃ zs, zs = (tk co nw L).map Nt.task := ⟨_, rfl⟩
        obtain ⟨nz, hnz⟩ : ∃ nz, nz = zs.length := ⟨_, rfl⟩
        have HNZ := Lib.hid hnz
        have hnz9 : nz ≤ 1000 := by rw [hnz, hzs, List.length_map]; have := tk_le co nw L; have := HPS0.out.hw.bp.gd.len; omega
        obtain ⟨wz, hwz⟩ : ∃ wz, wz = wr := ⟨_, rfl⟩
        subst hwz
        go_upto_region 15 with (go_at_call 9; ((with_reducible refine (CK.out _).mono ?_); rintro e w2 ⟨rfl, rfl⟩))
        generalize hwd : World.alloc _ _ = wd
        have HPD : Hid (PP w wd p m x C T L Sx1) := by rw [← hwd]; exact HPS0.out.no ((But.refl No wz).alloc _)
        have HBD : Hid (Blk wd wz.heap.size #[.int .i64 kd, .int .i64 co, .int .i64 tk_, .int .i64 nw, .int .i64 lt] 31) := by rw [← hwd]; exact Blk.new wz _ _
        have HDL : Hid (wz.heap.size < wd.heap.size) := by rw [← hwd, size_alloc1]; exact Nat.lt_succ_self _
        clear hwd HPS0 c0 c1 c2 c3 c4 CK
        generalize wz.heap.size = db at HBD HND HDL ⊢
        have C1 : Hid (Calls Try.prog 12 #[.pointer (some ⟨p, 0, none⟩), .int .i64 co, .int .i64 nw] wd fun r w'' => ∃ A d, r = .returned (.slice A nz d) ∧ TkEnd wd p m C T L co nw (.slice A nz d) w'') := by
          refine (take_any p m C T L co nw wd HPD.out.hw.bp HFF.out.2.1).mono ?_
          rintro r w'' ⟨v, rfl, ht⟩
          obtain ⟨A, d, rfl, _⟩ := ht.o.slice
          rw [← hzs, ← hnz] at ht ⊢
          exact ⟨A, d, rfl, ht⟩
        have C2 : Hid (∀ w', RF w' Sx1 x C L → Calls Try.prog 13 #[.pointer (some ⟨x, 0, none⟩), .int .i64 co, .int .i64 nw] w' fun r w'' => ∃ A d, r = .returned (.slice A nz d) ∧ RtEnd w' Sx1 x C zs (lf co nw L) (.slice A nz d) w'') := by
          intro w' h'
          refine (rtake_any x C L Sx1 w' co nw h' HPD.out.hw.bp.gd.up (by have := HPD.out.hw.bp.gd.len; omega)).mono ?_
          rintro r w'' ⟨v, rfl, S', t1, t2⟩
          rw [← hzs] at t1
          obtain ⟨A, d, rfl, _⟩ := t1.slice
          rw [← hnz] at t1 t2 ⊢
          exact ⟨A, d, rfl, S', t1, t2⟩
        have HZS := Lib.hid hzs
        clear hzs hnz
        obtain ⟨e1, _, e3, _⟩ := sc HBD.out
        go_wp2_with (first
          | (go_at_call 12; (with_reducible refine C1.out.mono ?_); rintro e w2 ⟨A1, d1, rfl, hm2⟩; have HM2 := Lib.hid hm2; have HX2 := Lib.hid (HPD.out.mid hm2.but); have HB2 := Lib.hid (HBD.out.but hm2.but HND.out.1); obtain ⟨e1', _, e3', _⟩ := sc (HBD.out.but hm2.but HND.out.1); clear hm2 e1 e3)
          | (go_at_call 13; (with_reducible refine (C2.out _ HX2.out).mono ?_); rintro e w3 ⟨A2, d2, rfl, hm3⟩; have HM3 := Lib.hid hm3; clear hm3 e1' e3'))
        have HSTEP : Hid (∃ Sx', PP w w3 p m x C T (lf co nw L) Sx') := by
          obtain ⟨S', t1, t2, t3, t4, t5⟩ := HM3.out
          exact HPD.out.two HM2.out.bp HM2.out.but ⟨S', t2, t3, t4⟩
        have HBD3 : Hid (Blk w3 db #[.int .i64 kd, .int .i64 co, .int .i64 tk_, .int .i64 nw, .int .i64 lt] 31) := by
          obtain ⟨S', t1, t2, t3, t4, t5⟩ := HM3.out
          exact HB2.out.but t3 HND.out.2
        have HZ1 : Hid (Ov w3 (.slice A1 nz d1) zs) := by
          obtain ⟨S', t1, t2, t3, t4, t5⟩ := HM3.out
          have := HM2.out.o
          rw [← HZS.out] at this
          exact this.but t3 (fun q e hs => by have := HM2.out.new q e; have := HPD.out.rf.lt q hs; omega)
        have HZ2 : Hid (Ov w3 (.slice A2 nz d2) zs) := by
          obtain ⟨S', t1, t2, t3, t4, t5⟩ := HM3.out
          exact t1
        clear HM2 HM3 HX2 HB2 HPD HBD HND HDL C1 C2
        obtain ⟨Sx3, hps⟩ := HSTEP.out
        have HPS3 := Lib.hid hps
        clear hps HSTEP
        have HT2 : Hid (T ≤ k + 1) := by show _ ≤ _; have := HTK.out; omega
        have H00 : Hid (∃ r, w3 = w3.drewN r) := ⟨0, rfl⟩
        go_loopw [11, 14] (fun g s wx => ∃ q : Nat, g = .bool true ∧ s = .int .i64 q ∧ q ≤ nz ∧ Hid (∃ r, wx = w3.drewN r)) (fun _ s _ => nz - (intOf s).toNat)
        case atStart => exact ⟨0, by simp, rfl, by omega, H00⟩
        case round =>
          obtain ⟨q, rfl, rfl, hq, hdr⟩ := hrel
          have HBR := Lib.hid (drewN_but hdr.out)
          by_cases hql : q < nz
          · have qn : (q : Int) < (nz : Int) := by omega
            obtain ⟨ga, hA, _, hcA⟩ := HZ1.out.cell (k := q) (by rw [← HNZ.out]; exact hql)
            obtain ⟨gb, hB, _, hcB⟩ := HZ2.out.cell (k := q) (by rw [← HNZ.out]; exact hql)
            have HAA := Lib.hid hA
            have HBB := Lib.hid hB
            subst hA hB
            have ca := cell_keep (hcA q (by rw [← HNZ.out]; exact hql)) HBR.out
            have cb := cell_keep (hcB q (by rw [← HNZ.out]; exact hql)) HBR.out
            generalize zs.getD q 0 = z at ca cb
            clear hcA hcB
            go_wp2_with fail
            go_quiet (fail)
            go_wp2
            go_roundw
            case rel => exact ⟨q + 1, by simp, by go_num, by omega, by obtain ⟨a, ha⟩ := hdr.out; exact ⟨_, by rw [ha]; exact drewN_add _ _ _⟩⟩
            case measure => simp [intOf]; omega
          · obtain rfl : q = nz := by omega
            have bq : decide ((q : Int) < (q : Int)) = false := by simp
            have HPS := Lib.hid (HPS3.out.no HBR.out)
            have HBD4 := Lib.hid (HBD3.out.but HBR.out (fun f => f))
            clear HPS3 HBD3 HZ1 HZ2 hdr H00 HBR
            have hlen : (lf co nw L).length ≤ 1000 := by have := HPS.out.hw.bp.gd.len; have := HT2.out; omega
            have CD1 : Hid (∀ w', But No wr w' → Calls Try.prog 14 #[.pointer (some ⟨p, 0, none⟩), .int .i64 co, .int .i64 tk_] w' fun e w'' => e = .returned (.int .i64 (dueOf (lf co nw L) co tk_)) ∧ But No wr w'') := fun w' hb => (due_any p m C T (lf co nw L) co tk_ w' (HPS.out.no hb).hw.bp HFF.out.2.1 HFF.out.2.2.1).mono (fun _ _ h => ⟨h.1, hb.trans h.2⟩)
            have CD2 : Hid (∀ w', But No wr w' → Calls Try.prog 15 #[.pointer (some ⟨x, 0, none⟩), .int .i64 co, .int .i64 tk_] w' fun e w'' => e = .returned (.int .i64 (dueOf (lf co nw L) co tk_)) ∧ But No wr w'') := fun w' hb => (rdue_any x C (lf co nw L) Sx3 w' co tk_ (HPS.out.no hb).rf hlen).mono (fun _ _ h => ⟨h.1, by rw [h.2]; exact hb⟩)
            have CL1 : Hid (∀ w', But No wr w' → Calls Try.prog 16 #[.pointer (some ⟨p, 0, none⟩), .int .i64 co] w' fun e w'' => e = .returned (.int .i64 (cn (lf co nw L) co)) ∧ But No wr w'') := fun w' hb => (len_any p m C T (lf co nw L) co w' (HPS.out.no hb).hw.bp HFF.out.2.1).mono (fun _ _ h => ⟨h.1, hb.trans h.2⟩)
            have CL2 : Hid (∀ w', But No wr w' → Calls Try.prog 17 #[.pointer (some ⟨x, 0, none⟩), .int .i64 co] w' fun e w'' => e = .returned (.int .i64 (cn (lf co nw L) co)) ∧ But No wr w'') := fun w' hb => (rlen_any x C (lf co nw L) Sx3 w' co (HPS.out.no hb).rf hlen).mono (fun _ _ h => ⟨h.1, by rw [h.2]; exact hb⟩)
            generalize dueOf (lf co nw L) co tk_ = dq at CD1 CD2
            generalize cn (lf co nw L) co = cq at CL1 CL2
            have bd1 : (dq != dq) = false := by simp
            have bd2 : ((cq : Int) != (cq : Int)) = false := by simp
            clear hlen
            go_wp2_with fail
            go_region_held3 (fun w' => w'.cell? ⟨db, 1, none⟩ = some (.int .i64 co) ∧ w'.cell? ⟨db, 2, none⟩ = some (.int .i64 tk_) ∧ But No wr w')
              (first | exact sb HBD4.out (But.refl No wr).drew | exact sb HBD4.out hgA | exact sb HBD4.out hgB | exact sb HBD4.out hgC | exact sb HBD4.out hgD)
              (first | (go_at_call 14; ((with_reducible refine (CD1.out _ (But.refl No wr).drew).mono ?_); rintro e wA ⟨rfl, hgA⟩)) | (go_at_call 15; ((with_reducible refine (CD2.out _ hgA).mono ?_); rintro e wB ⟨rfl, hgB⟩)) | (go_at_call 16; ((with_reducible refine (CL1.out _ hgB).mono ?_); rintro e wC ⟨rfl, hgC⟩)) | (go_at_call 17; ((with_reducible refine (CL2.out _ hgC).mono ?_); rintro e wD ⟨rfl, hgD⟩)))
            rename_i hHeld
            clear hHeld
            have HP9 : Hid (Rel w wD p m x C (k + 1)) := ⟨Sx3, T, (lf co nw L), HPS.out.no hgD, HT2.out⟩
            clear hgA hgB hgC hgD HPS HBD4 CD1 CD2 CL1 CL2
            go_wp2
            exact ⟨⟨k + 1, by go_num, by omega, by omega, HP9⟩, by simp [intOf]; omega⟩
    · by_cases h1 : k < n
      · have h2 : ¬ k < 300 := fun h2 => hgo ⟨h1, h2⟩
        have kn' : (k : Int) < (n : Int) := by omega
        have b1 : decide ((k : Int) < (n : Int)) = true := by simp; omega
        have b2 : decide ((k : Int) < 300) = false := by simp; omega
        clear hgo
        go_wp2
        go_ret
        exact ⟨rfl, HPS0.out.hw.but⟩
      · have b1 : decide ((k : Int) < (n : Int)) = false := by simp; omega
        clear hgo
        go_wp2
        go_ret
        exact ⟨rfl, HPS0.out.hw.but⟩
theorem walk (C : Int) (_ : (Lit.int .i64 C).wf = true) (A : Option Addr) (n c : Nat) (f : Nat → Dd) (w : World) (hd : RdD w A n f) :
    Calls Try.prog 3 #[.int .i64 C, .slice A n c] w fun e w' => e = .returned (.bool true) ∧ But No w w' := by
  by_cases h : 1 ≤ C ∧ C ≤ 8
  · exact walk1 C A n c f w hd h.1 h.2
  · exact walk0 C A n c w (by omega)
end ipiPlays
end Go.Proofs.Ytmfjlfemeihchaa
