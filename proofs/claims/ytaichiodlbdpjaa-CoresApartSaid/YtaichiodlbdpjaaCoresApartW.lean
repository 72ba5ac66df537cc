/- What is done of one core is nothing to the others: CoresApart returns true. (The walk.) -/
import Derived.Test.YtaichiodlbdpjaaK
import Derived.Deep.Cut
namespace Go.Proofs.Ytaichiodlbdpjaa.coresApart
open Go.ChangeShapes Go.WideShapes Go.ChangeAt Go.RowKit Go.Deep
/-- What a deed makes of a core. -/
def dd (C : Cs) (kk : Nat) (op : Int) (s : St) : St :=
  if kk = 0 then (if 1 ≤ op ∧ op ≤ 3 then ⟨s.o + cost C op, s.l, s.s⟩ else s)
  else if kk = 1 then (if s.o = 0 then s else ⟨s.o - 1, s.l, s.s⟩)
  else if kk = 2 then (if s.l = op then s else ⟨s.o + C.b, op, s.s⟩)
  else ⟨s.o, s.l, s.s + 1⟩
theorem upd_id (f : Nat → St) (y : Nat) : upd f y (f y) = f := by
  funext j; unfold upd; by_cases h : j = y
  · simp [h]
  · simp [h]
structure Bk (s : St) (k : Nat) : Prop where
  o0 : 0 ≤ s.o
  o1 : s.o ≤ 50 * k
  s0 : 0 ≤ s.s
  s1 : s.s ≤ k
theorem Bk.dd {C : Cs} {s : St} {k : Nat} (h : Bk s k) (hC : Fit C) (kk : Nat) (op : Int) : Bk (dd C kk op s) (k + 1) := by
  obtain ⟨h1, h2, h3, h4⟩ := h
  have hc := hC.cost op
  have hb0 := hC.b0
  have hb1 := hC.b1
  unfold coresApart.dd
  split
  · split
    · exact ⟨by show 0 ≤ s.o + _; omega, by show s.o + _ ≤ _; omega, h3, by show s.s ≤ _; omega⟩
    · exact ⟨h1, by omega, h3, by omega⟩
  · split
    · split
      · exact ⟨h1, by omega, h3, by omega⟩
      · exact ⟨by show 0 ≤ s.o - 1; omega, by show s.o - 1 ≤ _; omega, h3, by show s.s ≤ _; omega⟩
    · split
      · split
        · exact ⟨h1, by omega, h3, by omega⟩
        · exact ⟨by show 0 ≤ s.o + _; omega, by show s.o + _ ≤ _; omega, h3, by show s.s ≤ _; omega⟩
      · exact ⟨h1, by show s.o ≤ _; omega, by show 0 ≤ s.s + 1; omega, by show s.s + 1 ≤ _; omega⟩
theorem Bk.more {s : St} {k : Nat} (h : Bk s k) : Bk s (k + 1) := ⟨h.o0, by have := h.o1; omega, h.s0, by have := h.s1; omega⟩
section
variable (p n : Nat) (C : Cs) (f : Nat → St) (S : Nat → Prop) (w : World)
theorem charge_any (y : Nat) (op : Int) (hy : y < n) (hC : Fit C) (h : CP w S p n C f) {k : Nat} (hk : Bk (f y) k) (k9 : k ≤ 100) : Calls Try.prog 13 #[.pointer (some ⟨p, 0, none⟩), .int .i64 y, .int .i64 op] w fun r w' => (∃ b, r = .returned (.bool b)) ∧ Mv w S p n C (upd f y (dd C 0 op (f y))) w' := by
  by_cases ho : 1 ≤ op ∧ op ≤ 3
  · have e : dd C 0 op (f y) = ⟨(f y).o + cost C op, (f y).l, (f y).s⟩ := by unfold dd; rw [if_pos rfl, if_pos ho]
    rw [e]
    exact (charge_ok p n C f S w y op hy ho hC h hk.o0 (by have := hk.o1; omega)).mono fun r w' ⟨e1, e2⟩ => ⟨⟨_, e1⟩, e2⟩
  · have e : dd C 0 op (f y) = f y := by unfold dd; rw [if_pos rfl, if_neg ho]
    rw [e, upd_id]
    exact (charge_bad p n C f S w y op hy ho h).mono fun r w' ⟨e1, e2⟩ => ⟨⟨_, e1⟩, by subst e2; exact h.stay (But.refl _ _)⟩
theorem pay_any (y : Nat) (op : Int) (hy : y < n) (h : CP w S p n C f) {k : Nat} (hk : Bk (f y) k) (k9 : k ≤ 100) : Calls Try.prog 15 #[.pointer (some ⟨p, 0, none⟩), .int .i64 y] w fun r w' => (∃ b, r = .returned (.bool b)) ∧ Mv w S p n C (upd f y (dd C 1 op (f y))) w' := by
  by_cases ho : (f y).o = 0
  · have e : dd C 1 op (f y) = f y := by unfold dd; rw [if_neg (by omega), if_pos rfl, if_pos ho]
    rw [e, upd_id]
    exact (pay_none p n C f S w y hy h ho).mono fun r w' ⟨e1, e2⟩ => ⟨⟨_, e1⟩, by subst e2; exact h.stay (But.refl _ _)⟩
  · have e : dd C 1 op (f y) = ⟨(f y).o - 1, (f y).l, (f y).s⟩ := by unfold dd; rw [if_neg (by omega), if_pos rfl, if_neg ho]
    rw [e]
    exact (pay_one p n C f S w y hy h (by have := hk.o0; omega) (by have := hk.o1; omega)).mono fun r w' ⟨e1, e2⟩ => ⟨⟨_, e1⟩, e2⟩
theorem load_any (y : Nat) (op : Int) (hy : y < n) (hC : Fit C) (h : CP w S p n C f) {k : Nat} (hk : Bk (f y) k) (k9 : k ≤ 100) : Calls Try.prog 14 #[.pointer (some ⟨p, 0, none⟩), .int .i64 y, .int .i64 op] w fun r w' => (∃ b, r = .returned (.bool b)) ∧ Mv w S p n C (upd f y (dd C 2 op (f y))) w' := by
  by_cases ho : (f y).l = op
  · have e : dd C 2 op (f y) = f y := by unfold dd; rw [if_neg (by omega), if_neg (by omega), if_pos rfl, if_pos ho]
    rw [e, upd_id]
    exact (load_same p n C f S w y op hy h ho).mono fun r w' ⟨e1, e2⟩ => ⟨⟨_, e1⟩, by subst e2; exact h.stay (But.refl _ _)⟩
  · have e : dd C 2 op (f y) = ⟨(f y).o + C.b, op, (f y).s⟩ := by unfold dd; rw [if_neg (by omega), if_neg (by omega), if_pos rfl, if_neg ho]
    rw [e]
    exact (load_new p n C f S w y op hy hC h ho hk.o0 (by have := hk.o1; omega)).mono fun r w' ⟨e1, e2⟩ => ⟨⟨_, e1⟩, e2⟩
theorem step_any (y : Nat) (op : Int) (hy : y < n) (h : CP w S p n C f) {k : Nat} (hk : Bk (f y) k) (k9 : k ≤ 100) : Calls Try.prog 18 #[.pointer (some ⟨p, 0, none⟩), .int .i64 y] w fun r w' => (∃ b, r = .returned (.int .i64 b)) ∧ Mv w S p n C (upd f y (dd C 3 op (f y))) w' := by
  have e : dd C 3 op (f y) = ⟨(f y).o, (f y).l, (f y).s + 1⟩ := by unfold dd; rw [if_neg (by omega), if_neg (by omega), if_neg (by omega)]
  rw [e]
  exact (step_in p n C f S w y hy h hk.s0 (by have := hk.s1; omega)).mono fun r w' ⟨e1, e2⟩ => ⟨⟨_, e1⟩, e2⟩
end
/-- Two of the law's own, apart, of which core co is the same. -/
structure Pq (w wr : World) (S T : Nat → Prop) (p q m : Nat) (C : Cs) (f g : Nat → St) : Prop where
  h1 : Hw w wr S p m C f
  h2 : Hw w wr T q m C g
  ds : ∀ k, S k → ¬ T k
theorem Pq.no {w wr wd : World} {S T : Nat → Prop} {p q m : Nat} {C : Cs} {f g : Nat → St} (h : Pq w wr S T p q m C f g) (hb : But No wr wd) : Pq w wd S T p q m C f g := ⟨h.h1.no hb, h.h2.no hb, h.ds⟩
theorem Pq.fst {w wr wd : World} {S T : Nat → Prop} {p q m : Nat} {C : Cs} {f f2 g : Nat → St} (h : Pq w wr S T p q m C f g) (hm : Mv wr S p m C f2 wd) : Pq w wd S T p q m C f2 g :=
  ⟨h.h1.step hm, ⟨h.h2.cp.but hm.2 (fun k hk hs => h.ds k hs hk), h.h2.but.andThen hm.2 (fun k hk => .inr (h.h1.new k hk)), h.h2.new⟩, h.ds⟩
theorem Pq.snd {w wr wd : World} {S T : Nat → Prop} {p q m : Nat} {C : Cs} {f g g2 : Nat → St} (h : Pq w wr S T p q m C f g) (hm : Mv wr T q m C g2 wd) : Pq w wd S T p q m C f g2 :=
  ⟨⟨h.h1.cp.but hm.2 (fun k hk hs => h.ds k hk hs), h.h1.but.andThen hm.2 (fun k hk => .inr (h.h2.new k hk)), h.h1.new⟩, h.h2.step hm, h.ds⟩
structure Rel (w wr : World) (S T : Nat → Prop) (p q m : Nat) (C : Cs) (co : Nat) (k : Nat) (f g : Nat → St) : Prop where
  pq : Pq w wr S T p q m C f g
  eq : f co = g co
  b1 : ∀ j, Bk (f j) k
  b2 : ∀ j, Bk (g j) k
theorem bk_upd {f : Nat → St} {k y : Nat} {s : St} (h : ∀ j, Bk (f j) k) (hs : Bk s (k + 1)) : ∀ j, Bk (upd f y s j) (k + 1) := fun j => by
  unfold upd
  by_cases e : j = y
  · rw [if_pos e]; exact hs
  · rw [if_neg e]; exact (h j).more
theorem made {w w2 w3 w4 : World} {p q m co : Nat} {C : Cs} (hb : But No w w2) (h : NewEnd w2 m C p w3) (k : NewEnd w3 m C q w4) : ∃ S T, Rel w w4 S T p q m C co 0 (fun _ => st0) (fun _ => st0) := by
  obtain ⟨S, h1, h2, h3⟩ := h
  obtain ⟨T, k1, k2, k3⟩ := k
  have hw : Hw w w3 S p m C (fun _ => st0) := ⟨h1, hb.trans h2, fun j hj => Nat.le_trans hb.size (h3 j hj)⟩
  refine ⟨S, T, ⟨hw.no k2, ⟨k1, hw.but.trans k2, fun j hj => Nat.le_trans hw.but.size (k3 j hj)⟩, fun j hs ht => ?_⟩, rfl, fun j => ?_, fun j => ?_⟩
  · have := h1.lt j hs
    have := k3 j ht
    omega
  all_goals exact ⟨by decide, by decide, by decide, by decide⟩
set_option maxHeartbeats 32000000 in
set_option maxRecDepth 100000 in
theorem walk (a0 : Int) (w0 : (Lit.int .i64 a0).wf = true) (x y z : Int) (hxyz : inR x ∧ inR y ∧ inR z) (A : Option Addr) (n c : Nat) (kd di dk : Nat → Int) (a3 : Int) (w3 : (Lit.int .i64 a3).wf = true) (w : World) (hd : RdD w A n kd di dk) :
    Calls Try.prog 6 #[.int .i64 a0, .agg #[.int .i64 x, .int .i64 y, .int .i64 z], .slice A n c, .int .i64 a3] w fun e w' => e = .returned (.bool true) ∧ But No w w' := by
  have HD := Lib.hid hd
  have hmax := hd.max
  obtain ⟨q, hq, hq8⟩ := pkn a0 8 (by omega)
  have CN : Hid (∀ W, Calls Try.prog 11 #[.int .i64 a0, .int .i64 8] W fun r w' => r = .returned (.int .i64 q) ∧ W = w') := fun W => by rw [← hq]; exact pick_any a0 8 W (inR_of w0) (by omega) (by omega)
  obtain ⟨m, hm⟩ : ∃ m, m = 1 + q := ⟨_, rfl⟩
  have em : 1 + (q : Int) = (m : Int) := by omega
  have h1 : 1 ≤ m := by omega
  have h8 : m ≤ 8 := by omega
  obtain ⟨co, hco, hcm⟩ := pkn a3 m (by omega)
  have CC : Hid (∀ W, Calls Try.prog 11 #[.int .i64 a3, .int .i64 m] W fun r w' => r = .returned (.int .i64 co) ∧ W = w') := fun W => by rw [← hco]; exact pick_any a3 m W (inR_of w3) (by omega) (by omega)
  have C51 : Hid (∀ v, inR v → ∀ W, Calls Try.prog 11 #[.int .i64 v, .int .i64 51] W fun r w' => r = .returned (.int .i64 (pk v 51)) ∧ W = w') := fun v hv W => pick_any v 51 W hv (by omega) (by omega)
  have CX := Lib.hid (C51.out x hxyz.1)
  have CY := Lib.hid (C51.out y hxyz.2.1)
  have CZ := Lib.hid (C51.out z hxyz.2.2)
  have hC : Fit ⟨pk x 51, pk y 51, pk z 51⟩ := ⟨pk_fit.1, pk_fit.2, pk_fit.1, pk_fit.2, pk_fit.1, pk_fit.2⟩
  obtain ⟨c0, hc0⟩ : ∃ v, pk x 51 = v := ⟨_, rfl⟩
  obtain ⟨c1, hc1⟩ : ∃ v, pk y 51 = v := ⟨_, rfl⟩
  obtain ⟨c2, hc2⟩ : ∃ v, pk z 51 = v := ⟨_, rfl⟩
  rw [hc0] at CX hC
  rw [hc1] at CY hC
  rw [hc2] at CZ hC
  have HC := Lib.hid hC
  obtain ⟨wb, hwb⟩ : ∃ wb, w.alloc (.cells #[.int .i64 x, .int .i64 y, .int .i64 z] 26) = wb := ⟨_, rfl⟩
  have HWB := Lib.hid hwb
  have HBB : Hid (But No w wb ∧ Blk wb w.heap.size #[.int .i64 x, .int .i64 y, .int .i64 z] 26) := by rw [← hwb]; exact ⟨(But.refl No w).alloc _, Blk.new _ _ _⟩
  have HBX : Hid (w.heap.size ≤ w.heap.size) := Nat.le_refl _
  clear hd hq hm hco C51 hxyz hc0 hc1 hc2 hC hwb w0 w3
  go_enter Try.func6, Try.ntmps6
  go_upto_region 1 with fail
  rw [HWB.out]
  generalize hbx : w.heap.size = bx
  rw [hbx] at HBB HBX
  have HBN : Hid (w.heap.size ≤ bx) := by show _ ≤ _; omega
  clear hbx HBX HWB
  go_wp2_with (first
    | (go_at_call 8; refine (examples_any _).mono ?_; rintro e w1 ⟨rfl, hb⟩; have HB : Hid (But No w w1 ∧ Blk w1 bx #[.int .i64 x, .int .i64 y, .int .i64 z] 26) := ⟨HBB.out.1.trans hb, HBB.out.2.but hb (fun f => f)⟩; have x0 : w1.cell? ⟨bx, 0, none⟩ = some (.int .i64 x) := HB.out.2.cell (o := 0) rfl; have x1 : w1.cell? ⟨bx, 1, none⟩ = some (.int .i64 y) := HB.out.2.cell (o := 1) rfl; have x2 : w1.cell? ⟨bx, 2, none⟩ = some (.int .i64 z) := HB.out.2.cell (o := 2) rfl; have f0 := HB.out.2.frozen 0; have f1 := HB.out.2.frozen 1; have f2 := HB.out.2.frozen 2; clear hb)
    | (go_at_call 11; (with_reducible refine (CN.out _).mono ?_); rintro e w2 ⟨rfl, rfl⟩)
    | (go_at_call 11; (with_reducible refine (CC.out _).mono ?_); rintro e w2 ⟨rfl, rfl⟩))
  obtain ⟨w2, hw2⟩ : ∃ w2, ((w1.setCell ⟨bx, 0, none⟩ (.int .i64 c0)).setCell ⟨bx, 1, none⟩ (.int .i64 c1)).setCell ⟨bx, 2, none⟩ (.int .i64 c2) = w2 := ⟨_, rfl⟩
  have HW2 := Lib.hid hw2
  have HB2 : Hid (But No w w2 ∧ Blk w2 bx #[.int .i64 c0, .int .i64 c1, .int .i64 c2] 26) := by
    rw [← hw2]
    refine ⟨((HB.out.1.setNew (p := ⟨bx, 0, none⟩) HBN.out _).setNew (p := ⟨bx, 1, none⟩) HBN.out _).setNew (p := ⟨bx, 2, none⟩) HBN.out _, ?_⟩
    have := ((HB.out.2.set 0 (.int .i64 c0)).set 1 (.int .i64 c1)).set 2 (.int .i64 c2)
    simpa using this
  clear hw2 CN CC
  refine wp_loop_rounds 4 ?_
  rw [rounds_succ]
  go_wp2_with (go_at_call 11; (with_reducible refine (CX.out _).mono ?_); rintro e w3 ⟨rfl, rfl⟩)
  rw [rounds_succ]
  go_wp2_with (go_at_call 11; (with_reducible refine (CY.out _).mono ?_); rintro e w3 ⟨rfl, rfl⟩)
  rw [rounds_succ]
  go_wp2_with (go_at_call 11; (with_reducible refine (CZ.out _).mono ?_); rintro e w3 ⟨rfl, rfl⟩)
  rw [rounds_succ]
  go_upto_region 8 with fail
  rw [HW2.out]
  have x0 : w2.cell? ⟨bx, 0, none⟩ = some (.int .i64 c0) := HB2.out.2.cell (o := 0) rfl
  have x1 : w2.cell? ⟨bx, 1, none⟩ = some (.int .i64 c1) := HB2.out.2.cell (o := 1) rfl
  have x2 : w2.cell? ⟨bx, 2, none⟩ = some (.int .i64 c2) := HB2.out.2.cell (o := 2) rfl
  clear HB CX CY CZ HBB
  go_wp2_with (first
    | (go_at_call 12; (with_reducible refine (new_ok m ⟨c0, c1, c2⟩ w2 h1 h8 HC.out).mono ?_); rintro e w3 ⟨p, rfl, hne⟩; have HNE := Lib.hid hne; have HX3 : Hid (Blk w3 bx #[.int .i64 c0, .int .i64 c1, .int .i64 c2] 26) := (by obtain ⟨_, _, hb3, _⟩ := hne; exact HB2.out.2.but hb3 (fun f => f)); have y0 : w3.cell? ⟨bx, 0, none⟩ = some (.int .i64 c0) := HX3.out.cell (o := 0) rfl; have y1 : w3.cell? ⟨bx, 1, none⟩ = some (.int .i64 c1) := HX3.out.cell (o := 1) rfl; have y2 : w3.cell? ⟨bx, 2, none⟩ = some (.int .i64 c2) := HX3.out.cell (o := 2) rfl; clear hne)
    | (go_at_call 12; (with_reducible refine (new_ok m ⟨c0, c1, c2⟩ w3 h1 h8 HC.out).mono ?_); rintro e w4 ⟨q, rfl, hne⟩; have HNE2 := Lib.hid hne; clear hne))
  obtain ⟨S, T, hR⟩ := made (co := co) HB2.out.1 HNE.out HNE2.out
  have HR := Lib.hid hR
  clear hR HNE HNE2 HB2 HW2 HX3 y0 y1 y2
  obtain ⟨C, hCC⟩ : ∃ C, (⟨c0, c1, c2⟩ : Cs) = C := ⟨_, rfl⟩
  rw [hCC] at HR HC
  clear hCC
  go_loopw [15] (fun s15 wr => ∃ (k : Nat), s15 = .int .i64 k ∧ k ≤ n ∧ k ≤ 100 ∧ Hid (∃ f g, Rel w wr S T p q m C co k f g)) (fun s15 _ => n - (intOf s15).toNat)
  case atStart => exact ⟨0, rfl, by omega, by omega, _, _, HR.out⟩
  case round =>
    obtain ⟨k, rfl, hk, hk9, hrel⟩ := hrel
    clear HR
    obtain ⟨f, g, hre⟩ := hrel.out
    have HL := Lib.hid hre
    clear hre hrel
    by_cases hgo : k < n ∧ k < 100
    · obtain ⟨hlt, hl3⟩ := hgo
      obtain ⟨eb', eoff, rfl, hbl, hcc⟩ := (HD.out.no HL.out.pq.h1.but).at_ (by omega)
      obtain ⟨d0, d1, d2⟩ := hcc k hlt
      obtain ⟨r0, r1, r2⟩ := HD.out.fit k hlt
      generalize kd k = v0 at d0 r0
      generalize di k = v1 at d1 r1
      generalize dk k = v2 at d2 r2
      obtain ⟨kk, hkk, hkk4⟩ := pkn v0 4 (by omega)
      have CK : Hid (∀ w, Calls Try.prog 11 #[.int .i64 v0, .int .i64 4] w fun e w' => e = .returned (.int .i64 kk) ∧ w = w') := fun w => by rw [← hkk]; exact pick_any v0 4 w r0 (by omega) (by omega)
      obtain ⟨yy, hyy, hym⟩ := pkn v1 m (by omega)
      have CY : Hid (∀ w, Calls Try.prog 11 #[.int .i64 v1, .int .i64 m] w fun e w' => e = .returned (.int .i64 yy) ∧ w = w') := fun w => by rw [← hyy]; exact pick_any v1 m w r1 (by omega) (by omega)
      have kn' : (k : Int) < (n : Int) := by omega
      have k3' : (k : Int) < 100 := by omega
      clear hcc hbl r0 r1 r2 hkk hyy
      go_upto_region 16 with fail
      generalize hwd : World.alloc _ _ = wd
      have HDB : Hid (But No wr wd ∧ Blk wd wr.heap.size #[.int .i64 v0, .int .i64 v1, .int .i64 v2] 34) := by rw [← hwd]; exact ⟨(But.refl No wr).alloc _, Blk.new _ _ _⟩
      clear hwd
      have HNS : Hid (¬ S wr.heap.size ∧ ¬ T wr.heap.size) := ⟨fun hs => Nat.lt_irrefl _ (HL.out.pq.h1.cp.lt _ hs), fun hs => Nat.lt_irrefl _ (HL.out.pq.h2.cp.lt _ hs)⟩
      generalize wr.heap.size = db at HDB HNS ⊢
      have g0 : wd.cell? ⟨db, 0, none⟩ = some (.int .i64 v0) := HDB.out.2.cell (o := 0) rfl
      have g1 : wd.cell? ⟨db, 1, none⟩ = some (.int .i64 v1) := HDB.out.2.cell (o := 1) rfl
      have g2 : wd.cell? ⟨db, 2, none⟩ = some (.int .i64 v2) := HDB.out.2.cell (o := 2) rfl
      have HPQ : Hid (Pq w wd S T p q m C f g) := HL.out.pq.no HDB.out.1
      have HB1 : Hid (∀ j, Bk (f j) k) := HL.out.b1
      have HB2 : Hid (∀ j, Bk (g j) k) := HL.out.b2
      have HEQ : Hid (f co = g co) := HL.out.eq
      have HC1 : Hid (∀ f' w', Pq w w' S T p q m C f' g → Calls Try.prog 16 #[.pointer (some ⟨p, 0, none⟩), .int .i64 co] w' fun r w'' => r = .returned (.int .i64 (f' co).o) ∧ w' = w'') := fun f' w' h => owes_in p m C f' S w' co hcm h.h1.cp
      clear d0 d1 d2 HL HC1
      obtain hk0 | hk0 | hk0 | hk0 : kk = 0 ∨ kk = 1 ∨ kk = 2 ∨ kk = 3 := by omega
      · have bk0 : ((kk : Int) == 0) = true := by simp; omega
        have C1 : Hid (Calls Try.prog 13 #[.pointer (some ⟨p, 0, none⟩), .int .i64 yy, .int .i64 v2] wd fun r w' => (∃ b, r = .returned (.bool b)) ∧ Mv wd S p m C (upd f yy (dd C 0 v2 (f yy))) w') := charge_any p m C f S wd yy v2 hym HC.out HPQ.out.h1.cp (HB1.out yy) (by omega)
        have HQ2 : Hid (∀ w1, Mv wd S p m C (upd f yy (dd C 0 v2 (f yy))) w1 → Pq w w1 S T p q m C (upd f yy (dd C 0 v2 (f yy))) g ∧ Blk w1 db #[.int .i64 v0, .int .i64 v1, .int .i64 v2] 34) := fun w1 hm => ⟨HPQ.out.fst hm, HDB.out.2.but hm.2 HNS.out.1⟩
        have HBF : Hid (∀ j, Bk (upd f yy (dd C 0 v2 (f yy)) j) (k + 1)) := bk_upd HB1.out ((HB1.out yy).dd HC.out 0 v2)
        by_cases e : yy = co
        · have by_ : ((yy : Int) != (co : Int)) = false := by simp [e]
          have C2 : Hid (∀ w1, Pq w w1 S T p q m C (upd f yy (dd C 0 v2 (f yy))) g → Calls Try.prog 13 #[.pointer (some ⟨q, 0, none⟩), .int .i64 yy, .int .i64 v2] w1 fun r w' => (∃ b, r = .returned (.bool b)) ∧ Mv w1 T q m C (upd g yy (dd C 0 v2 (g yy))) w') := fun w1 h => charge_any q m C g T w1 yy v2 hym HC.out h.h2.cp (HB2.out yy) (by omega)
          have HBG : Hid (∀ j, Bk (upd g yy (dd C 0 v2 (g yy)) j) (k + 1)) := bk_upd HB2.out ((HB2.out yy).dd HC.out 0 v2)
          have HE2 : Hid ((upd f yy (dd C 0 v2 (f yy))) co = (upd g yy (dd C 0 v2 (g yy))) co) := by show _ = _; rw [e, upd_same, upd_same, HEQ.out]
          generalize (upd f yy (dd C 0 v2 (f yy))) = f2 at C1 HQ2 HBF C2 HE2
          generalize (upd g yy (dd C 0 v2 (g yy))) = g2 at C2 HBG HE2
          obtain ⟨o2, ho2⟩ : ∃ v, (f2 co).o = v := ⟨_, rfl⟩
          obtain ⟨l2, hl2⟩ : ∃ v, (f2 co).l = v := ⟨_, rfl⟩
          have HO1 : Hid (∀ w1, Pq w w1 S T p q m C f2 g2 → Calls Try.prog 16 #[.pointer (some ⟨p, 0, none⟩), .int .i64 co] w1 fun r w' => r = .returned (.int .i64 o2) ∧ w1 = w') := fun w1 h => by rw [← ho2]; exact owes_in p m C _ S w1 co hcm h.h1.cp
          have HO2 : Hid (∀ w1, Pq w w1 S T p q m C f2 g2 → Calls Try.prog 16 #[.pointer (some ⟨q, 0, none⟩), .int .i64 co] w1 fun r w' => r = .returned (.int .i64 o2) ∧ w1 = w') := fun w1 h => by rw [← ho2, HE2.out]; exact owes_in q m C _ T w1 co hcm h.h2.cp
          have HL1 : Hid (∀ w1, Pq w w1 S T p q m C f2 g2 → Calls Try.prog 17 #[.pointer (some ⟨p, 0, none⟩), .int .i64 co] w1 fun r w' => r = .returned (.int .i64 l2) ∧ w1 = w') := fun w1 h => by rw [← hl2]; exact last_in p m C _ S w1 co hcm h.h1.cp
          have HL2 : Hid (∀ w1, Pq w w1 S T p q m C f2 g2 → Calls Try.prog 17 #[.pointer (some ⟨q, 0, none⟩), .int .i64 co] w1 fun r w' => r = .returned (.int .i64 l2) ∧ w1 = w') := fun w1 h => by rw [← hl2, HE2.out]; exact last_in q m C _ T w1 co hcm h.h2.cp
          have bo : (o2 != o2) = false := by simp
          have bl : (l2 != l2) = false := by simp
          clear HPQ HB1 HB2 HEQ HDB HNS e ho2 hl2 hkk4 hk0
          go_wp2_with (first | (go_at_call 11; (with_reducible refine (CK.out _).mono ?_); rintro e w9 ⟨rfl, rfl⟩) | (go_at_call 11; (with_reducible refine (CY.out _).mono ?_); rintro e w9 ⟨rfl, rfl⟩))
          refine wp_loop_rounds 3 ?_
          rw [rounds_succ]
          go_wp2_with (first | (go_at_call 13; (with_reducible refine C1.out.mono ?_); rintro e w4 ⟨⟨b4, rfl⟩, hm⟩; have HM := Lib.hid (HQ2.out _ hm); have i0 : w4.cell? ⟨db, 0, none⟩ = some (.int .i64 v0) := HM.out.2.cell (o := 0) rfl; have i2 : w4.cell? ⟨db, 2, none⟩ = some (.int .i64 v2) := HM.out.2.cell (o := 2) rfl; clear hm) | (go_at_call 11; (with_reducible refine (CK.out _).mono ?_); rintro e w9 ⟨rfl, rfl⟩) | (go_at_call 11; (with_reducible refine (CY.out _).mono ?_); rintro e w9 ⟨rfl, rfl⟩))
          rw [rounds_succ]
          go_wp2_with (first | (go_at_call 13; (with_reducible refine (C2.out _ HM.out.1).mono ?_); rintro e w5 ⟨⟨b5, rfl⟩, hm⟩; have HM2 := Lib.hid (HM.out.1.snd hm); clear hm) | (go_at_call 11; (with_reducible refine (CK.out _).mono ?_); rintro e w9 ⟨rfl, rfl⟩) | (go_at_call 11; (with_reducible refine (CY.out _).mono ?_); rintro e w9 ⟨rfl, rfl⟩))
          rw [rounds_succ]
          go_wp2_with (first | (go_at_call 16; (with_reducible refine (HO1.out _ HM2.out).mono ?_); rintro e w9 ⟨rfl, rfl⟩) | (go_at_call 16; (with_reducible refine (HO2.out _ HM2.out).mono ?_); rintro e w9 ⟨rfl, rfl⟩) | (go_at_call 17; (with_reducible refine (HL1.out _ HM2.out).mono ?_); rintro e w9 ⟨rfl, rfl⟩) | (go_at_call 17; (with_reducible refine (HL2.out _ HM2.out).mono ?_); rintro e w9 ⟨rfl, rfl⟩))
          go_roundw
          case rel => exact ⟨k + 1, by go_num, by omega, by omega, f2, g2, HM2.out, HE2.out, HBF.out, HBG.out⟩
          case measure => simp [intOf]; omega
        · have by_ : ((yy : Int) != (co : Int)) = true := by simp; omega
          have HBG : Hid (∀ j, Bk (g j) (k + 1)) := fun j => (HB2.out j).more
          have HE2 : Hid ((upd f yy (dd C 0 v2 (f yy))) co = g co) := by show _ = _; rw [upd_other _ _ (Ne.symm e), HEQ.out]
          generalize (upd f yy (dd C 0 v2 (f yy))) = f2 at C1 HQ2 HBF HE2
          obtain ⟨o2, ho2⟩ : ∃ v, (f2 co).o = v := ⟨_, rfl⟩
          obtain ⟨l2, hl2⟩ : ∃ v, (f2 co).l = v := ⟨_, rfl⟩
          have HO1 : Hid (∀ w1, Pq w w1 S T p q m C f2 g → Calls Try.prog 16 #[.pointer (some ⟨p, 0, none⟩), .int .i64 co] w1 fun r w' => r = .returned (.int .i64 o2) ∧ w1 = w') := fun w1 h => by rw [← ho2]; exact owes_in p m C _ S w1 co hcm h.h1.cp
          have HO2 : Hid (∀ w1, Pq w w1 S T p q m C f2 g → Calls Try.prog 16 #[.pointer (some ⟨q, 0, none⟩), .int .i64 co] w1 fun r w' => r = .returned (.int .i64 o2) ∧ w1 = w') := fun w1 h => by rw [← ho2, HE2.out]; exact owes_in q m C _ T w1 co hcm h.h2.cp
          have HL1 : Hid (∀ w1, Pq w w1 S T p q m C f2 g → Calls Try.prog 17 #[.pointer (some ⟨p, 0, none⟩), .int .i64 co] w1 fun r w' => r = .returned (.int .i64 l2) ∧ w1 = w') := fun w1 h => by rw [← hl2]; exact last_in p m C _ S w1 co hcm h.h1.cp
          have HL2 : Hid (∀ w1, Pq w w1 S T p q m C f2 g → Calls Try.prog 17 #[.pointer (some ⟨q, 0, none⟩), .int .i64 co] w1 fun r w' => r = .returned (.int .i64 l2) ∧ w1 = w') := fun w1 h => by rw [← hl2, HE2.out]; exact last_in q m C _ T w1 co hcm h.h2.cp
          have bo : (o2 != o2) = false := by simp
          have bl : (l2 != l2) = false := by simp
          clear HPQ HB1 HB2 HEQ HDB HNS e ho2 hl2 hkk4 hk0
          go_wp2_with (first | (go_at_call 11; (with_reducible refine (CK.out _).mono ?_); rintro e w9 ⟨rfl, rfl⟩) | (go_at_call 11; (with_reducible refine (CY.out _).mono ?_); rintro e w9 ⟨rfl, rfl⟩))
          refine wp_loop_rounds 3 ?_
          rw [rounds_succ]
          go_wp2_with (first | (go_at_call 13; (with_reducible refine C1.out.mono ?_); rintro e w4 ⟨⟨b4, rfl⟩, hm⟩; have HM := Lib.hid (HQ2.out _ hm); clear hm) | (go_at_call 11; (with_reducible refine (CK.out _).mono ?_); rintro e w9 ⟨rfl, rfl⟩) | (go_at_call 11; (with_reducible refine (CY.out _).mono ?_); rintro e w9 ⟨rfl, rfl⟩))
          rw [rounds_succ]
          go_wp2_with (first | (go_at_call 11; (with_reducible refine (CK.out _).mono ?_); rintro e w9 ⟨rfl, rfl⟩) | (go_at_call 11; (with_reducible refine (CY.out _).mono ?_); rintro e w9 ⟨rfl, rfl⟩))
          rw [rounds_succ]
          go_wp2_with (first | (go_at_call 16; (with_reducible refine (HO1.out _ HM.out.1).mono ?_); rintro e w9 ⟨rfl, rfl⟩) | (go_at_call 16; (with_reducible refine (HO2.out _ HM.out.1).mono ?_); rintro e w9 ⟨rfl, rfl⟩) | (go_at_call 17; (with_reducible refine (HL1.out _ HM.out.1).mono ?_); rintro e w9 ⟨rfl, rfl⟩) | (go_at_call 17; (with_reducible refine (HL2.out _ HM.out.1).mono ?_); rintro e w9 ⟨rfl, rfl⟩))
          go_roundw
          case rel => exact ⟨k + 1, by go_num, by omega, by omega, f2, g, HM.out.1, HE2.out, HBF.out, HBG.out⟩
          case measure => simp [intOf]; omega
      · have bk0 : ((kk : Int) == 0) = false := by simp; omega
        have bk1 : ((kk : Int) == 1) = true := by simp; omega
        have C1 : Hid (Calls Try.prog 15 #[.pointer (some ⟨p, 0, none⟩), .int .i64 yy] wd fun r w' => (∃ b, r = .returned (.bool b)) ∧ Mv wd S p m C (upd f yy (dd C 1 v2 (f yy))) w') := pay_any p m C f S wd yy v2 hym HPQ.out.h1.cp (HB1.out yy) (by omega)
        have HQ2 : Hid (∀ w1, Mv wd S p m C (upd f yy (dd C 1 v2 (f yy))) w1 → Pq w w1 S T p q m C (upd f yy (dd C 1 v2 (f yy))) g ∧ Blk w1 db #[.int .i64 v0, .int .i64 v1, .int .i64 v2] 34) := fun w1 hm => ⟨HPQ.out.fst hm, HDB.out.2.but hm.2 HNS.out.1⟩
        have HBF : Hid (∀ j, Bk (upd f yy (dd C 1 v2 (f yy)) j) (k + 1)) := bk_upd HB1.out ((HB1.out yy).dd HC.out 1 v2)
        by_cases e : yy = co
        · have by_ : ((yy : Int) != (co : Int)) = false := by simp [e]
          have C2 : Hid (∀ w1, Pq w w1 S T p q m C (upd f yy (dd C 1 v2 (f yy))) g → Calls Try.prog 15 #[.pointer (some ⟨q, 0, none⟩), .int .i64 yy] w1 fun r w' => (∃ b, r = .returned (.bool b)) ∧ Mv w1 T q m C (upd g yy (dd C 1 v2 (g yy))) w') := fun w1 h => pay_any q m C g T w1 yy v2 hym h.h2.cp (HB2.out yy) (by omega)
          have HBG : Hid (∀ j, Bk (upd g yy (dd C 1 v2 (g yy)) j) (k + 1)) := bk_upd HB2.out ((HB2.out yy).dd HC.out 1 v2)
          have HE2 : Hid ((upd f yy (dd C 1 v2 (f yy))) co = (upd g yy (dd C 1 v2 (g yy))) co) := by show _ = _; rw [e, upd_same, upd_same, HEQ.out]
          generalize (upd f yy (dd C 1 v2 (f yy))) = f2 at C1 HQ2 HBF C2 HE2
          generalize (upd g yy (dd C 1 v2 (g yy))) = g2 at C2 HBG HE2
          obtain ⟨o2, ho2⟩ : ∃ v, (f2 co).o = v := ⟨_, rfl⟩
          obtain ⟨l2, hl2⟩ : ∃ v, (f2 co).l = v := ⟨_, rfl⟩
          have HO1 : Hid (∀ w1, Pq w w1 S T p q m C f2 g2 → Calls Try.prog 16 #[.pointer (some ⟨p, 0, none⟩), .int .i64 co] w1 fun r w' => r = .returned (.int .i64 o2) ∧ w1 = w') := fun w1 h => by rw [← ho2]; exact owes_in p m C _ S w1 co hcm h.h1.cp
          have HO2 : Hid (∀ w1, Pq w w1 S T p q m C f2 g2 → Calls Try.prog 16 #[.pointer (some ⟨q, 0, none⟩), .int .i64 co] w1 fun r w' => r = .returned (.int .i64 o2) ∧ w1 = w') := fun w1 h => by rw [← ho2, HE2.out]; exact owes_in q m C _ T w1 co hcm h.h2.cp
          have HL1 : Hid (∀ w1, Pq w w1 S T p q m C f2 g2 → Calls Try.prog 17 #[.pointer (some ⟨p, 0, none⟩), .int .i64 co] w1 fun r w' => r = .returned (.int .i64 l2) ∧ w1 = w') := fun w1 h => by rw [← hl2]; exact last_in p m C _ S w1 co hcm h.h1.cp
          have HL2 : Hid (∀ w1, Pq w w1 S T p q m C f2 g2 → Calls Try.prog 17 #[.pointer (some ⟨q, 0, none⟩), .int .i64 co] w1 fun r w' => r = .returned (.int .i64 l2) ∧ w1 = w') := fun w1 h => by rw [← hl2, HE2.out]; exact last_in q m C _ T w1 co hcm h.h2.cp
          have bo : (o2 != o2) = false := by simp
          have bl : (l2 != l2) = false := by simp
          clear HPQ HB1 HB2 HEQ HDB HNS e ho2 hl2 hkk4 hk0
          go_wp2_with (first | (go_at_call 11; (with_reducible refine (CK.out _).mono ?_); rintro e w9 ⟨rfl, rfl⟩) | (go_at_call 11; (with_reducible refine (CY.out _).mono ?_); rintro e w9 ⟨rfl, rfl⟩))
          refine wp_loop_rounds 3 ?_
          rw [rounds_succ]
          go_wp2_with (first | (go_at_call 15; (with_reducible refine C1.out.mono ?_); rintro e w4 ⟨⟨b4, rfl⟩, hm⟩; have HM := Lib.hid (HQ2.out _ hm); have i0 : w4.cell? ⟨db, 0, none⟩ = some (.int .i64 v0) := HM.out.2.cell (o := 0) rfl; have i2 : w4.cell? ⟨db, 2, none⟩ = some (.int .i64 v2) := HM.out.2.cell (o := 2) rfl; clear hm) | (go_at_call 11; (with_reducible refine (CK.out _).mono ?_); rintro e w9 ⟨rfl, rfl⟩) | (go_at_call 11; (with_reducible refine (CY.out _).mono ?_); rintro e w9 ⟨rfl, rfl⟩))
          rw [rounds_succ]
          go_wp2_with (first | (go_at_call 15; (with_reducible refine (C2.out _ HM.out.1).mono ?_); rintro e w5 ⟨⟨b5, rfl⟩, hm⟩; have HM2 := Lib.hid (HM.out.1.snd hm); clear hm) | (go_at_call 11; (with_reducible refine (CK.out _).mono ?_); rintro e w9 ⟨rfl, rfl⟩) | (go_at_call 11; (with_reducible refine (CY.out _).mono ?_); rintro e w9 ⟨rfl, rfl⟩))
          rw [rounds_succ]
          go_wp2_with (first | (go_at_call 16; (with_reducible refine (HO1.out _ HM2.out).mono ?_); rintro e w9 ⟨rfl, rfl⟩) | (go_at_call 16; (with_reducible refine (HO2.out _ HM2.out).mono ?_); rintro e w9 ⟨rfl, rfl⟩) | (go_at_call 17; (with_reducible refine (HL1.out _ HM2.out).mono ?_); rintro e w9 ⟨rfl, rfl⟩) | (go_at_call 17; (with_reducible refine (HL2.out _ HM2.out).mono ?_); rintro e w9 ⟨rfl, rfl⟩))
          go_roundw
          case rel => exact ⟨k + 1, by go_num, by omega, by omega, f2, g2, HM2.out, HE2.out, HBF.out, HBG.out⟩
          case measure => simp [intOf]; omega
        · have by_ : ((yy : Int) != (co : Int)) = true := by simp; omega
          have HBG : Hid (∀ j, Bk (g j) (k + 1)) := fun j => (HB2.out j).more
          have HE2 : Hid ((upd f yy (dd C 1 v2 (f yy))) co = g co) := by show _ = _; rw [upd_other _ _ (Ne.symm e), HEQ.out]
          generalize (upd f yy (dd C 1 v2 (f yy))) = f2 at C1 HQ2 HBF HE2
          obtain ⟨o2, ho2⟩ : ∃ v, (f2 co).o = v := ⟨_, rfl⟩
          obtain ⟨l2, hl2⟩ : ∃ v, (f2 co).l = v := ⟨_, rfl⟩
          have HO1 : Hid (∀ w1, Pq w w1 S T p q m C f2 g → Calls Try.prog 16 #[.pointer (some ⟨p, 0, none⟩), .int .i64 co] w1 fun r w' => r = .returned (.int .i64 o2) ∧ w1 = w') := fun w1 h => by rw [← ho2]; exact owes_in p m C _ S w1 co hcm h.h1.cp
          have HO2 : Hid (∀ w1, Pq w w1 S T p q m C f2 g → Calls Try.prog 16 #[.pointer (some ⟨q, 0, none⟩), .int .i64 co] w1 fun r w' => r = .returned (.int .i64 o2) ∧ w1 = w') := fun w1 h => by rw [← ho2, HE2.out]; exact owes_in q m C _ T w1 co hcm h.h2.cp
          have HL1 : Hid (∀ w1, Pq w w1 S T p q m C f2 g → Calls Try.prog 17 #[.pointer (some ⟨p, 0, none⟩), .int .i64 co] w1 fun r w' => r = .returned (.int .i64 l2) ∧ w1 = w') := fun w1 h => by rw [← hl2]; exact last_in p m C _ S w1 co hcm h.h1.cp
          have HL2 : Hid (∀ w1, Pq w w1 S T p q m C f2 g → Calls Try.prog 17 #[.pointer (some ⟨q, 0, none⟩), .int .i64 co] w1 fun r w' => r = .returned (.int .i64 l2) ∧ w1 = w') := fun w1 h => by rw [← hl2, HE2.out]; exact last_in q m C _ T w1 co hcm h.h2.cp
          have bo : (o2 != o2) = false := by simp
          have bl : (l2 != l2) = false := by simp
          clear HPQ HB1 HB2 HEQ HDB HNS e ho2 hl2 hkk4 hk0
          go_wp2_with (first | (go_at_call 11; (with_reducible refine (CK.out _).mono ?_); rintro e w9 ⟨rfl, rfl⟩) | (go_at_call 11; (with_reducible refine (CY.out _).mono ?_); rintro e w9 ⟨rfl, rfl⟩))
          refine wp_loop_rounds 3 ?_
          rw [rounds_succ]
          go_wp2_with (first | (go_at_call 15; (with_reducible refine C1.out.mono ?_); rintro e w4 ⟨⟨b4, rfl⟩, hm⟩; have HM := Lib.hid (HQ2.out _ hm); clear hm) | (go_at_call 11; (with_reducible refine (CK.out _).mono ?_); rintro e w9 ⟨rfl, rfl⟩) | (go_at_call 11; (with_reducible refine (CY.out _).mono ?_); rintro e w9 ⟨rfl, rfl⟩))
          rw [rounds_succ]
          go_wp2_with (first | (go_at_call 11; (with_reducible refine (CK.out _).mono ?_); rintro e w9 ⟨rfl, rfl⟩) | (go_at_call 11; (with_reducible refine (CY.out _).mono ?_); rintro e w9 ⟨rfl, rfl⟩))
          rw [rounds_succ]
          go_wp2_with (first | (go_at_call 16; (with_reducible refine (HO1.out _ HM.out.1).mono ?_); rintro e w9 ⟨rfl, rfl⟩) | (go_at_call 16; (with_reducible refine (HO2.out _ HM.out.1).mono ?_); rintro e w9 ⟨rfl, rfl⟩) | (go_at_call 17; (with_reducible refine (HL1.out _ HM.out.1).mono ?_); rintro e w9 ⟨rfl, rfl⟩) | (go_at_call 17; (with_reducible refine (HL2.out _ HM.out.1).mono ?_); rintro e w9 ⟨rfl, rfl⟩))
          go_roundw
          case rel => exact ⟨k + 1, by go_num, by omega, by omega, f2, g, HM.out.1, HE2.out, HBF.out, HBG.out⟩
          case measure => simp [intOf]; omega
      · have bk0 : ((kk : Int) == 0) = false := by simp; omega
        have bk1 : ((kk : Int) == 1) = false := by simp; omega
        have bk2 : ((kk : Int) == 2) = true := by simp; omega
        have C1 : Hid (Calls Try.prog 14 #[.pointer (some ⟨p, 0, none⟩), .int .i64 yy, .int .i64 v2] wd fun r w' => (∃ b, r = .returned (.bool b)) ∧ Mv wd S p m C (upd f yy (dd C 2 v2 (f yy))) w') := load_any p m C f S wd yy v2 hym HC.out HPQ.out.h1.cp (HB1.out yy) (by omega)
        have HQ2 : Hid (∀ w1, Mv wd S p m C (upd f yy (dd C 2 v2 (f yy))) w1 → Pq w w1 S T p q m C (upd f yy (dd C 2 v2 (f yy))) g ∧ Blk w1 db #[.int .i64 v0, .int .i64 v1, .int .i64 v2] 34) := fun w1 hm => ⟨HPQ.out.fst hm, HDB.out.2.but hm.2 HNS.out.1⟩
        have HBF : Hid (∀ j, Bk (upd f yy (dd C 2 v2 (f yy)) j) (k + 1)) := bk_upd HB1.out ((HB1.out yy).dd HC.out 2 v2)
        by_cases e : yy = co
        · have by_ : ((yy : Int) != (co : Int)) = false := by simp [e]
          have C2 : Hid (∀ w1, Pq w w1 S T p q m C (upd f yy (dd C 2 v2 (f yy))) g → Calls Try.prog 14 #[.pointer (some ⟨q, 0, none⟩), .int .i64 yy, .int .i64 v2] w1 fun r w' => (∃ b, r = .returned (.bool b)) ∧ Mv w1 T q m C (upd g yy (dd C 2 v2 (g yy))) w') := fun w1 h => load_any q m C g T w1 yy v2 hym HC.out h.h2.cp (HB2.out yy) (by omega)
          have HBG : Hid (∀ j, Bk (upd g yy (dd C 2 v2 (g yy)) j) (k + 1)) := bk_upd HB2.out ((HB2.out yy).dd HC.out 2 v2)
          have HE2 : Hid ((upd f yy (dd C 2 v2 (f yy))) co = (upd g yy (dd C 2 v2 (g yy))) co) := by show _ = _; rw [e, upd_same, upd_same, HEQ.out]
          generalize (upd f yy (dd C 2 v2 (f yy))) = f2 at C1 HQ2 HBF C2 HE2
          generalize (upd g yy (dd C 2 v2 (g yy))) = g2 at C2 HBG HE2
          obtain ⟨o2, ho2⟩ : ∃ v, (f2 co).o = v := ⟨_, rfl⟩
          obtain ⟨l2, hl2⟩ : ∃ v, (f2 co).l = v := ⟨_, rfl⟩
          have HO1 : Hid (∀ w1, Pq w w1 S T p q m C f2 g2 → Calls Try.prog 16 #[.pointer (some ⟨p, 0, none⟩), .int .i64 co] w1 fun r w' => r = .returned (.int .i64 o2) ∧ w1 = w') := fun w1 h => by rw [← ho2]; exact owes_in p m C _ S w1 co hcm h.h1.cp
          have HO2 : Hid (∀ w1, Pq w w1 S T p q m C f2 g2 → Calls Try.prog 16 #[.pointer (some ⟨q, 0, none⟩), .int .i64 co] w1 fun r w' => r = .returned (.int .i64 o2) ∧ w1 = w') := fun w1 h => by rw [← ho2, HE2.out]; exact owes_in q m C _ T w1 co hcm h.h2.cp
          have HL1 : Hid (∀ w1, Pq w w1 S T p q m C f2 g2 → Calls Try.prog 17 #[.pointer (some ⟨p, 0, none⟩), .int .i64 co] w1 fun r w' => r = .returned (.int .i64 l2) ∧ w1 = w') := fun w1 h => by rw [← hl2]; exact last_in p m C _ S w1 co hcm h.h1.cp
          have HL2 : Hid (∀ w1, Pq w w1 S T p q m C f2 g2 → Calls Try.prog 17 #[.pointer (some ⟨q, 0, none⟩), .int .i64 co] w1 fun r w' => r = .returned (.int .i64 l2) ∧ w1 = w') := fun w1 h => by rw [← hl2, HE2.out]; exact last_in q m C _ T w1 co hcm h.h2.cp
          have bo : (o2 != o2) = false := by simp
          have bl : (l2 != l2) = false := by simp
          clear HPQ HB1 HB2 HEQ HDB HNS e ho2 hl2 hkk4 hk0
          go_wp2_with (first | (go_at_call 11; (with_reducible refine (CK.out _).mono ?_); rintro e w9 ⟨rfl, rfl⟩) | (go_at_call 11; (with_reducible refine (CY.out _).mono ?_); rintro e w9 ⟨rfl, rfl⟩))
          refine wp_loop_rounds 3 ?_
          rw [rounds_succ]
          go_wp2_with (first | (go_at_call 14; (with_reducible refine C1.out.mono ?_); rintro e w4 ⟨⟨b4, rfl⟩, hm⟩; have HM := Lib.hid (HQ2.out _ hm); have i0 : w4.cell? ⟨db, 0, none⟩ = some (.int .i64 v0) := HM.out.2.cell (o := 0) rfl; have i2 : w4.cell? ⟨db, 2, none⟩ = some (.int .i64 v2) := HM.out.2.cell (o := 2) rfl; clear hm) | (go_at_call 11; (with_reducible refine (CK.out _).mono ?_); rintro e w9 ⟨rfl, rfl⟩) | (go_at_call 11; (with_reducible refine (CY.out _).mono ?_); rintro e w9 ⟨rfl, rfl⟩))
          rw [rounds_succ]
          go_wp2_with (first | (go_at_call 14; (with_reducible refine (C2.out _ HM.out.1).mono ?_); rintro e w5 ⟨⟨b5, rfl⟩, hm⟩; have HM2 := Lib.hid (HM.out.1.snd hm); clear hm) | (go_at_call 11; (with_reducible refine (CK.out _).mono ?_); rintro e w9 ⟨rfl, rfl⟩) | (go_at_call 11; (with_reducible refine (CY.out _).mono ?_); rintro e w9 ⟨rfl, rfl⟩))
          rw [rounds_succ]
          go_wp2_with (first | (go_at_call 16; (with_reducible refine (HO1.out _ HM2.out).mono ?_); rintro e w9 ⟨rfl, rfl⟩) | (go_at_call 16; (with_reducible refine (HO2.out _ HM2.out).mono ?_); rintro e w9 ⟨rfl, rfl⟩) | (go_at_call 17; (with_reducible refine (HL1.out _ HM2.out).mono ?_); rintro e w9 ⟨rfl, rfl⟩) | (go_at_call 17; (with_reducible refine (HL2.out _ HM2.out).mono ?_); rintro e w9 ⟨rfl, rfl⟩))
          go_roundw
          case rel => exact ⟨k + 1, by go_num, by omega, by omega, f2, g2, HM2.out, HE2.out, HBF.out, HBG.out⟩
          case measure => simp [intOf]; omega
        · have by_ : ((yy : Int) != (co : Int)) = true := by simp; omega
          have HBG : Hid (∀ j, Bk (g j) (k + 1)) := fun j => (HB2.out j).more
          have HE2 : Hid ((upd f yy (dd C 2 v2 (f yy))) co = g co) := by show _ = _; rw [upd_other _ _ (Ne.symm e), HEQ.out]
          generalize (upd f yy (dd C 2 v2 (f yy))) = f2 at C1 HQ2 HBF HE2
          obtain ⟨o2, ho2⟩ : ∃ v, (f2 co).o = v := ⟨_, rfl⟩
          obtain ⟨l2, hl2⟩ : ∃ v, (f2 co).l = v := ⟨_, rfl⟩
          have HO1 : Hid (∀ w1, Pq w w1 S T p q m C f2 g → Calls Try.prog 16 #[.pointer (some ⟨p, 0, none⟩), .int .i64 co] w1 fun r w' => r = .returned (.int .i64 o2) ∧ w1 = w') := fun w1 h => by rw [← ho2]; exact owes_in p m C _ S w1 co hcm h.h1.cp
          have HO2 : Hid (∀ w1, Pq w w1 S T p q m C f2 g → Calls Try.prog 16 #[.pointer (some ⟨q, 0, none⟩), .int .i64 co] w1 fun r w' => r = .returned (.int .i64 o2) ∧ w1 = w') := fun w1 h => by rw [← ho2, HE2.out]; exact owes_in q m C _ T w1 co hcm h.h2.cp
          have HL1 : Hid (∀ w1, Pq w w1 S T p q m C f2 g → Calls Try.prog 17 #[.pointer (some ⟨p, 0, none⟩), .int .i64 co] w1 fun r w' => r = .returned (.int .i64 l2) ∧ w1 = w') := fun w1 h => by rw [← hl2]; exact last_in p m C _ S w1 co hcm h.h1.cp
          have HL2 : Hid (∀ w1, Pq w w1 S T p q m C f2 g → Calls Try.prog 17 #[.pointer (some ⟨q, 0, none⟩), .int .i64 co] w1 fun r w' => r = .returned (.int .i64 l2) ∧ w1 = w') := fun w1 h => by rw [← hl2, HE2.out]; exact last_in q m C _ T w1 co hcm h.h2.cp
          have bo : (o2 != o2) = false := by simp
          have bl : (l2 != l2) = false := by simp
          clear HPQ HB1 HB2 HEQ HDB HNS e ho2 hl2 hkk4 hk0
          go_wp2_with (first | (go_at_call 11; (with_reducible refine (CK.out _).mono ?_); rintro e w9 ⟨rfl, rfl⟩) | (go_at_call 11; (with_reducible refine (CY.out _).mono ?_); rintro e w9 ⟨rfl, rfl⟩))
          refine wp_loop_rounds 3 ?_
          rw [rounds_succ]
          go_wp2_with (first | (go_at_call 14; (with_reducible refine C1.out.mono ?_); rintro e w4 ⟨⟨b4, rfl⟩, hm⟩; have HM := Lib.hid (HQ2.out _ hm); clear hm) | (go_at_call 11; (with_reducible refine (CK.out _).mono ?_); rintro e w9 ⟨rfl, rfl⟩) | (go_at_call 11; (with_reducible refine (CY.out _).mono ?_); rintro e w9 ⟨rfl, rfl⟩))
          rw [rounds_succ]
          go_wp2_with (first | (go_at_call 11; (with_reducible refine (CK.out _).mono ?_); rintro e w9 ⟨rfl, rfl⟩) | (go_at_call 11; (with_reducible refine (CY.out _).mono ?_); rintro e w9 ⟨rfl, rfl⟩))
          rw [rounds_succ]
          go_wp2_with (first | (go_at_call 16; (with_reducible refine (HO1.out _ HM.out.1).mono ?_); rintro e w9 ⟨rfl, rfl⟩) | (go_at_call 16; (with_reducible refine (HO2.out _ HM.out.1).mono ?_); rintro e w9 ⟨rfl, rfl⟩) | (go_at_call 17; (with_reducible refine (HL1.out _ HM.out.1).mono ?_); rintro e w9 ⟨rfl, rfl⟩) | (go_at_call 17; (with_reducible refine (HL2.out _ HM.out.1).mono ?_); rintro e w9 ⟨rfl, rfl⟩))
          go_roundw
          case rel => exact ⟨k + 1, by go_num, by omega, by omega, f2, g, HM.out.1, HE2.out, HBF.out, HBG.out⟩
          case measure => simp [intOf]; omega
      · have bk0 : ((kk : Int) == 0) = false := by simp; omega
        have bk1 : ((kk : Int) == 1) = false := by simp; omega
        have bk2 : ((kk : Int) == 2) = false := by simp; omega
        have C1 : Hid (Calls Try.prog 18 #[.pointer (some ⟨p, 0, none⟩), .int .i64 yy] wd fun r w' => (∃ b, r = .returned (.int .i64 b)) ∧ Mv wd S p m C (upd f yy (dd C 3 v2 (f yy))) w') := step_any p m C f S wd yy v2 hym HPQ.out.h1.cp (HB1.out yy) (by omega)
        have HQ2 : Hid (∀ w1, Mv wd S p m C (upd f yy (dd C 3 v2 (f yy))) w1 → Pq w w1 S T p q m C (upd f yy (dd C 3 v2 (f yy))) g ∧ Blk w1 db #[.int .i64 v0, .int .i64 v1, .int .i64 v2] 34) := fun w1 hm => ⟨HPQ.out.fst hm, HDB.out.2.but hm.2 HNS.out.1⟩
        have HBF : Hid (∀ j, Bk (upd f yy (dd C 3 v2 (f yy)) j) (k + 1)) := bk_upd HB1.out ((HB1.out yy).dd HC.out 3 v2)
        by_cases e : yy = co
        · have by_ : ((yy : Int) != (co : Int)) = false := by simp [e]
          have C2 : Hid (∀ w1, Pq w w1 S T p q m C (upd f yy (dd C 3 v2 (f yy))) g → Calls Try.prog 18 #[.pointer (some ⟨q, 0, none⟩), .int .i64 yy] w1 fun r w' => (∃ b, r = .returned (.int .i64 b)) ∧ Mv w1 T q m C (upd g yy (dd C 3 v2 (g yy))) w') := fun w1 h => step_any q m C g T w1 yy v2 hym h.h2.cp (HB2.out yy) (by omega)
          have HBG : Hid (∀ j, Bk (upd g yy (dd C 3 v2 (g yy)) j) (k + 1)) := bk_upd HB2.out ((HB2.out yy).dd HC.out 3 v2)
          have HE2 : Hid ((upd f yy (dd C 3 v2 (f yy))) co = (upd g yy (dd C 3 v2 (g yy))) co) := by show _ = _; rw [e, upd_same, upd_same, HEQ.out]
          generalize (upd f yy (dd C 3 v2 (f yy))) = f2 at C1 HQ2 HBF C2 HE2
          generalize (upd g yy (dd C 3 v2 (g yy))) = g2 at C2 HBG HE2
          obtain ⟨o2, ho2⟩ : ∃ v, (f2 co).o = v := ⟨_, rfl⟩
          obtain ⟨l2, hl2⟩ : ∃ v, (f2 co).l = v := ⟨_, rfl⟩
          have HO1 : Hid (∀ w1, Pq w w1 S T p q m C f2 g2 → Calls Try.prog 16 #[.pointer (some ⟨p, 0, none⟩), .int .i64 co] w1 fun r w' => r = .returned (.int .i64 o2) ∧ w1 = w') := fun w1 h => by rw [← ho2]; exact owes_in p m C _ S w1 co hcm h.h1.cp
          have HO2 : Hid (∀ w1, Pq w w1 S T p q m C f2 g2 → Calls Try.prog 16 #[.pointer (some ⟨q, 0, none⟩), .int .i64 co] w1 fun r w' => r = .returned (.int .i64 o2) ∧ w1 = w') := fun w1 h => by rw [← ho2, HE2.out]; exact owes_in q m C _ T w1 co hcm h.h2.cp
          have HL1 : Hid (∀ w1, Pq w w1 S T p q m C f2 g2 → Calls Try.prog 17 #[.pointer (some ⟨p, 0, none⟩), .int .i64 co] w1 fun r w' => r = .returned (.int .i64 l2) ∧ w1 = w') := fun w1 h => by rw [← hl2]; exact last_in p m C _ S w1 co hcm h.h1.cp
          have HL2 : Hid (∀ w1, Pq w w1 S T p q m C f2 g2 → Calls Try.prog 17 #[.pointer (some ⟨q, 0, none⟩), .int .i64 co] w1 fun r w' => r = .returned (.int .i64 l2) ∧ w1 = w') := fun w1 h => by rw [← hl2, HE2.out]; exact last_in q m C _ T w1 co hcm h.h2.cp
          have bo : (o2 != o2) = false := by simp
          have bl : (l2 != l2) = false := by simp
          clear HPQ HB1 HB2 HEQ HDB HNS e ho2 hl2 hkk4 hk0
          go_wp2_with (first | (go_at_call 11; (with_reducible refine (CK.out _).mono ?_); rintro e w9 ⟨rfl, rfl⟩) | (go_at_call 11; (with_reducible refine (CY.out _).mono ?_); rintro e w9 ⟨rfl, rfl⟩))
          refine wp_loop_rounds 3 ?_
          rw [rounds_succ]
          go_wp2_with (first | (go_at_call 18; (with_reducible refine C1.out.mono ?_); rintro e w4 ⟨⟨b4, rfl⟩, hm⟩; have HM := Lib.hid (HQ2.out _ hm); have i0 : w4.cell? ⟨db, 0, none⟩ = some (.int .i64 v0) := HM.out.2.cell (o := 0) rfl; have i2 : w4.cell? ⟨db, 2, none⟩ = some (.int .i64 v2) := HM.out.2.cell (o := 2) rfl; clear hm) | (go_at_call 11; (with_reducible refine (CK.out _).mono ?_); rintro e w9 ⟨rfl, rfl⟩) | (go_at_call 11; (with_reducible refine (CY.out _).mono ?_); rintro e w9 ⟨rfl, rfl⟩))
          rw [rounds_succ]
          go_wp2_with (first | (go_at_call 18; (with_reducible refine (C2.out _ HM.out.1).mono ?_); rintro e w5 ⟨⟨b5, rfl⟩, hm⟩; have HM2 := Lib.hid (HM.out.1.snd hm); clear hm) | (go_at_call 11; (with_reducible refine (CK.out _).mono ?_); rintro e w9 ⟨rfl, rfl⟩) | (go_at_call 11; (with_reducible refine (CY.out _).mono ?_); rintro e w9 ⟨rfl, rfl⟩))
          rw [rounds_succ]
          go_wp2_with (first | (go_at_call 16; (with_reducible refine (HO1.out _ HM2.out).mono ?_); rintro e w9 ⟨rfl, rfl⟩) | (go_at_call 16; (with_reducible refine (HO2.out _ HM2.out).mono ?_); rintro e w9 ⟨rfl, rfl⟩) | (go_at_call 17; (with_reducible refine (HL1.out _ HM2.out).mono ?_); rintro e w9 ⟨rfl, rfl⟩) | (go_at_call 17; (with_reducible refine (HL2.out _ HM2.out).mono ?_); rintro e w9 ⟨rfl, rfl⟩))
          go_roundw
          case rel => exact ⟨k + 1, by go_num, by omega, by omega, f2, g2, HM2.out, HE2.out, HBF.out, HBG.out⟩
          case measure => simp [intOf]; omega
        · have by_ : ((yy : Int) != (co : Int)) = true := by simp; omega
          have HBG : Hid (∀ j, Bk (g j) (k + 1)) := fun j => (HB2.out j).more
          have HE2 : Hid ((upd f yy (dd C 3 v2 (f yy))) co = g co) := by show _ = _; rw [upd_other _ _ (Ne.symm e), HEQ.out]
          generalize (upd f yy (dd C 3 v2 (f yy))) = f2 at C1 HQ2 HBF HE2
          obtain ⟨o2, ho2⟩ : ∃ v, (f2 co).o = v := ⟨_, rfl⟩
          obtain ⟨l2, hl2⟩ : ∃ v, (f2 co).l = v := ⟨_, rfl⟩
          have HO1 : Hid (∀ w1, Pq w w1 S T p q m C f2 g → Calls Try.prog 16 #[.pointer (some ⟨p, 0, none⟩), .int .i64 co] w1 fun r w' => r = .returned (.int .i64 o2) ∧ w1 = w') := fun w1 h => by rw [← ho2]; exact owes_in p m C _ S w1 co hcm h.h1.cp
          have HO2 : Hid (∀ w1, Pq w w1 S T p q m C f2 g → Calls Try.prog 16 #[.pointer (some ⟨q, 0, none⟩), .int .i64 co] w1 fun r w' => r = .returned (.int .i64 o2) ∧ w1 = w') := fun w1 h => by rw [← ho2, HE2.out]; exact owes_in q m C _ T w1 co hcm h.h2.cp
          have HL1 : Hid (∀ w1, Pq w w1 S T p q m C f2 g → Calls Try.prog 17 #[.pointer (some ⟨p, 0, none⟩), .int .i64 co] w1 fun r w' => r = .returned (.int .i64 l2) ∧ w1 = w') := fun w1 h => by rw [← hl2]; exact last_in p m C _ S w1 co hcm h.h1.cp
          have HL2 : Hid (∀ w1, Pq w w1 S T p q m C f2 g → Calls Try.prog 17 #[.pointer (some ⟨q, 0, none⟩), .int .i64 co] w1 fun r w' => r = .returned (.int .i64 l2) ∧ w1 = w') := fun w1 h => by rw [← hl2, HE2.out]; exact last_in q m C _ T w1 co hcm h.h2.cp
          have bo : (o2 != o2) = false := by simp
          have bl : (l2 != l2) = false := by simp
          clear HPQ HB1 HB2 HEQ HDB HNS e ho2 hl2 hkk4 hk0
          go_wp2_with (first | (go_at_call 11; (with_reducible refine (CK.out _).mono ?_); rintro e w9 ⟨rfl, rfl⟩) | (go_at_call 11; (with_reducible refine (CY.out _).mono ?_); rintro e w9 ⟨rfl, rfl⟩))
          refine wp_loop_rounds 3 ?_
          rw [rounds_succ]
          go_wp2_with (first | (go_at_call 18; (with_reducible refine C1.out.mono ?_); rintro e w4 ⟨⟨b4, rfl⟩, hm⟩; have HM := Lib.hid (HQ2.out _ hm); clear hm) | (go_at_call 11; (with_reducible refine (CK.out _).mono ?_); rintro e w9 ⟨rfl, rfl⟩) | (go_at_call 11; (with_reducible refine (CY.out _).mono ?_); rintro e w9 ⟨rfl, rfl⟩))
          rw [rounds_succ]
          go_wp2_with (first | (go_at_call 11; (with_reducible refine (CK.out _).mono ?_); rintro e w9 ⟨rfl, rfl⟩) | (go_at_call 11; (with_reducible refine (CY.out _).mono ?_); rintro e w9 ⟨rfl, rfl⟩))
          rw [rounds_succ]
          go_wp2_with (first | (go_at_call 16; (with_reducible refine (HO1.out _ HM.out.1).mono ?_); rintro e w9 ⟨rfl, rfl⟩) | (go_at_call 16; (with_reducible refine (HO2.out _ HM.out.1).mono ?_); rintro e w9 ⟨rfl, rfl⟩) | (go_at_call 17; (with_reducible refine (HL1.out _ HM.out.1).mono ?_); rintro e w9 ⟨rfl, rfl⟩) | (go_at_call 17; (with_reducible refine (HL2.out _ HM.out.1).mono ?_); rintro e w9 ⟨rfl, rfl⟩))
          go_roundw
          case rel => exact ⟨k + 1, by go_num, by omega, by omega, f2, g, HM.out.1, HE2.out, HBF.out, HBG.out⟩
          case measure => simp [intOf]; omega
    · have CA : Hid (Calls Try.prog 18 #[.pointer (some ⟨p, 0, none⟩), .int .i64 co] wr fun r w' => r = .returned (.int .i64 ((f co).s + 1)) ∧ Mv wr S p m C (upd f co ⟨(f co).o, (f co).l, (f co).s + 1⟩) w') :=
        step_in p m C f S wr co hcm HL.out.pq.h1.cp (HL.out.b1 co).s0 (by have := (HL.out.b1 co).s1; omega)
      have CB : Hid (∀ w1, Mv wr S p m C (upd f co ⟨(f co).o, (f co).l, (f co).s + 1⟩) w1 → Calls Try.prog 18 #[.pointer (some ⟨q, 0, none⟩), .int .i64 co] w1 fun r w' => r = .returned (.int .i64 ((f co).s + 1)) ∧ But No w w') := fun w1 hm => by
        have h2 := HL.out.pq.fst hm
        have := step_in q m C g T w1 co hcm h2.h2.cp (HL.out.b2 co).s0 (by have := (HL.out.b2 co).s1; omega)
        rw [← HL.out.eq] at this
        exact this.mono fun r w' ⟨e1, e2⟩ => ⟨e1, (h2.snd e2).h1.but⟩
      obtain ⟨v, hv⟩ : ∃ v, (f co).s + 1 = v := ⟨_, rfl⟩
      have bv : (v == v) = true := by simp
      generalize (upd f co ⟨(f co).o, (f co).l, (f co).s + 1⟩) = f2 at CA CB
      rw [hv] at CA CB
      clear hv HL
      by_cases hlt : k < n
      · have b1 : (k : Int) < (n : Int) := by omega
        have b2 : decide ((k : Int) < 100) = false := by simp; omega
        clear hgo
        go_wp2_with (first | (go_at_call 18; (with_reducible refine CA.out.mono ?_); rintro e w5 ⟨rfl, hm⟩; have HM := Lib.hid hm; clear hm) | (go_at_call 18; (with_reducible refine (CB.out _ HM.out).mono ?_); rintro e w6 ⟨rfl, hm⟩; have HE := Lib.hid hm; clear hm))
        go_ret
        exact ⟨rfl, HE.out⟩
      · have b1 : decide ((k : Int) < (n : Int)) = false := by simp; omega
        clear hgo
        go_wp2_with (first | (go_at_call 18; (with_reducible refine CA.out.mono ?_); rintro e w5 ⟨rfl, hm⟩; have HM := Lib.hid hm; clear hm) | (go_at_call 18; (with_reducible refine (CB.out _ HM.out).mono ?_); rintro e w6 ⟨rfl, hm⟩; have HE := Lib.hid hm; clear hm))
        go_ret
        exact ⟨rfl, HE.out⟩
end Go.Proofs.Ytaichiodlbdpjaa.coresApart
