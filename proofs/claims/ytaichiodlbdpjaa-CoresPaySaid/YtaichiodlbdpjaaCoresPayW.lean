/- A core pays just what it was charged, tick by tick, whatever others do: CoresPay returns true. (The walk.) -/
import Derived.Test.YtaichiodlbdpjaaK
import Derived.Deep.Cut
namespace Go.Proofs.Ytaichiodlbdpjaa.coresPay
open Go.ChangeShapes Go.WideShapes Go.ChangeAt Go.RowKit Go.Deep
/-- What is kept: core co owes ow, and its last task is la. -/
def Rel (w wr : World) (S : Nat → Prop) (p m : Nat) (C : Cs) (bx co ow : Nat) (la : Int) (k : Nat) : Prop := ∃ f, Px w wr S p m C f bx ∧ (f co).o = ow ∧ (f co).l = la ∧ Bd f (50 * k)
theorem rel_made {w w2 w3 : World} {p m bx co : Nat} {C : Cs} (hb : But No w w2) (hk : Blk w2 bx (cells3c C) 26) (h : NewEnd w2 m C p w3) : ∃ S, Rel w w3 S p m C bx co 0 (-1) 0 := by
  obtain ⟨S, h1, h2, h3⟩ := h
  exact ⟨S, fun _ => st0, ⟨⟨h1, hb.trans h2, fun k hk => Nat.le_trans hb.size (h3 k hk)⟩, hk.but h2 (fun x => x), fun hs => by have := h3 bx hs; have := hk.lt; omega⟩, rfl, rfl, fun j => ⟨by show (0 : Int) ≤ 0; omega, by show (0 : Int) ≤ 50 * 0; omega⟩⟩
/-- A deed of core y's. -/
theorem Rel.next {w wr wd w2 : World} {S : Nat → Prop} {p m bx co ow : Nat} {C : Cs} {la : Int} {k : Nat} {f : Nat → St} (h : Px w wr S p m C f bx) (hbd : Bd f (50 * k)) (hb : But No wr wd) {y : Nat} {v l s : Int} (hv : 0 ≤ v) (hv2 : v ≤ 50 * (k + 1))
    (hm : Mv wd S p m C (upd f y ⟨v, l, s⟩) w2) (ho : (upd f y ⟨v, l, s⟩ co).o = ow) (hl : (upd f y ⟨v, l, s⟩ co).l = la) : Rel w w2 S p m C bx co ow la (k + 1) :=
  ⟨_, (h.no hb).step hm, ho, hl, (hbd.mono (by omega)).upd y l s hv (by omega)⟩
theorem Rel.same {w wr wd : World} {S : Nat → Prop} {p m bx co ow : Nat} {C : Cs} {la : Int} {k : Nat} (h : Rel w wr S p m C bx co ow la k) (hb : But No wr wd) : Rel w wd S p m C bx co ow la (k + 1) := by
  obtain ⟨f, h1, h2, h3, h4⟩ := h
  exact ⟨f, h1.no hb, h2, h3, h4.mono (by omega)⟩
set_option maxHeartbeats 16000000 in
set_option maxRecDepth 100000 in
theorem walk (a0 : Int) (w0 : (Lit.int .i64 a0).wf = true) (x y z : Int) (hxyz : inR x ∧ inR y ∧ inR z) (A : Option Addr) (n c : Nat) (kd di dk : Nat → Int) (a3 : Int) (w3 : (Lit.int .i64 a3).wf = true) (w : World) (hd : RdD w A n kd di dk) :
    Calls Try.prog 4 #[.int .i64 a0, .agg #[.int .i64 x, .int .i64 y, .int .i64 z], .slice A n c, .int .i64 a3] w fun e w' => e = .returned (.bool true) ∧ But No w w' := by
  have HD := Lib.hid hd
  have hmax := hd.max
  obtain ⟨q, hq, hq8⟩ := pkn a0 8 (by omega)
  have CN : Hid (∀ W, Calls Try.prog 11 #[.int .i64 a0, .int .i64 8] W fun r w' => r = .returned (.int .i64 q) ∧ W = w') := fun W => by rw [← hq]; exact pick_any a0 8 W (inR_of w0) (by omega) (by omega)
  obtain ⟨m, hm⟩ : ∃ m, m = 1 + q := ⟨_, rfl⟩
  have em : 1 + (q : Int) = (m : Int) := by omega
  have h1 : 1 ≤ m := by omega
  have h8 : m ≤ 8 := by omega
  obtain ⟨co, hco, hcm⟩ := pkn a3 m (by omega)
  have CC : Hid (∀ W, Calls Try.prog 11 #[.int .i64 a3, .int .i64 m] W fun r w' => r = .returned (.int .i64 co) ∧ W = w') := fun W => by rw [← hco]; exact pick_any a3 m W (inR_of w3) (by omega) (by omega)
  have C51 : Hid (∀ v, inR v → ∀ W, Calls Try.prog 11 #[.int .i64 v, .int .i64 51] W fun r w' => r = .returned (.int .i64 (pk v 51)) ∧ W = w') := fun v hv W => pick_any v 51 W hv (by omega) (by omega)
  have CX := Lib.hid (C51.out x hxyz.1)
  have CY := Lib.hid (C51.out y hxyz.2.1)
  have CZ := Lib.hid (C51.out z hxyz.2.2)
  have hC : Fit ⟨pk x 51, pk y 51, pk z 51⟩ := ⟨pk_fit.1, pk_fit.2, pk_fit.1, pk_fit.2, pk_fit.1, pk_fit.2⟩
  obtain ⟨c0, hc0⟩ : ∃ v, pk x 51 = v := ⟨_, rfl⟩
  obtain ⟨c1, hc1⟩ : ∃ v, pk y 51 = v := ⟨_, rfl⟩
  obtain ⟨c2, hc2⟩ : ∃ v, pk z 51 = v := ⟨_, rfl⟩
  rw [hc0] at CX hC
  rw [hc1] at CY hC
  rw [hc2] at CZ hC
  have HC := Lib.hid hC
  obtain ⟨wb, hwb⟩ : ∃ wb, w.alloc (.cells #[.int .i64 x, .int .i64 y, .int .i64 z] 26) = wb := ⟨_, rfl⟩
  have HWB := Lib.hid hwb
  have HBB : Hid (But No w wb ∧ Blk wb w.heap.size #[.int .i64 x, .int .i64 y, .int .i64 z] 26) := by rw [← hwb]; exact ⟨(But.refl No w).alloc _, Blk.new _ _ _⟩
  have HBX : Hid (w.heap.size ≤ w.heap.size) := Nat.le_refl _
  clear hd hq hm hco C51 hxyz hc0 hc1 hc2 hC hwb w0 w3
  go_enter Try.func4, Try.ntmps4
  go_upto_region 1 with fail
  rw [HWB.out]
  generalize hbx : w.heap.size = bx
  rw [hbx] at HBB HBX
  have HBN : Hid (w.heap.size ≤ bx) := by show _ ≤ _; omega
  clear hbx HBX HWB
  go_wp2_with (first
    | (go_at_call 8; refine (examples_any _).mono ?_; rintro e w1 ⟨rfl, hb⟩; have HB : Hid (But No w w1 ∧ Blk w1 bx #[.int .i64 x, .int .i64 y, .int .i64 z] 26) := ⟨HBB.out.1.trans hb, HBB.out.2.but hb (fun f => f)⟩; have x0 : w1.cell? ⟨bx, 0, none⟩ = some (.int .i64 x) := HB.out.2.cell (o := 0) rfl; have x1 : w1.cell? ⟨bx, 1, none⟩ = some (.int .i64 y) := HB.out.2.cell (o := 1) rfl; have x2 : w1.cell? ⟨bx, 2, none⟩ = some (.int .i64 z) := HB.out.2.cell (o := 2) rfl; have f0 := HB.out.2.frozen 0; have f1 := HB.out.2.frozen 1; have f2 := HB.out.2.frozen 2; clear hb)
    | (go_at_call 11; (with_reducible refine (CN.out _).mono ?_); rintro e w2 ⟨rfl, rfl⟩)
    | (go_at_call 11; (with_reducible refine (CC.out _).mono ?_); rintro e w2 ⟨rfl, rfl⟩))
  obtain ⟨w2, hw2⟩ : ∃ w2, ((w1.setCell ⟨bx, 0, none⟩ (.int .i64 c0)).setCell ⟨bx, 1, none⟩ (.int .i64 c1)).setCell ⟨bx, 2, none⟩ (.int .i64 c2) = w2 := ⟨_, rfl⟩
  have HW2 := Lib.hid hw2
  have HB2 : Hid (But No w w2 ∧ Blk w2 bx #[.int .i64 c0, .int .i64 c1, .int .i64 c2] 26) := by
    rw [← hw2]
    refine ⟨((HB.out.1.setNew (p := ⟨bx, 0, none⟩) HBN.out _).setNew (p := ⟨bx, 1, none⟩) HBN.out _).setNew (p := ⟨bx, 2, none⟩) HBN.out _, ?_⟩
    have := ((HB.out.2.set 0 (.int .i64 c0)).set 1 (.int .i64 c1)).set 2 (.int .i64 c2)
    simpa using this
  clear hw2 CN CC
  refine wp_loop_rounds 4 ?_
  rw [rounds_succ]
  go_wp2_with (go_at_call 11; (with_reducible refine (CX.out _).mono ?_); rintro e w3 ⟨rfl, rfl⟩)
  rw [rounds_succ]
  go_wp2_with (go_at_call 11; (with_reducible refine (CY.out _).mono ?_); rintro e w3 ⟨rfl, rfl⟩)
  rw [rounds_succ]
  go_wp2_with (go_at_call 11; (with_reducible refine (CZ.out _).mono ?_); rintro e w3 ⟨rfl, rfl⟩)
  rw [rounds_succ]
  go_upto_region 8 with fail
  rw [HW2.out]
  have x0 : w2.cell? ⟨bx, 0, none⟩ = some (.int .i64 c0) := HB2.out.2.cell (o := 0) rfl
  have x1 : w2.cell? ⟨bx, 1, none⟩ = some (.int .i64 c1) := HB2.out.2.cell (o := 1) rfl
  have x2 : w2.cell? ⟨bx, 2, none⟩ = some (.int .i64 c2) := HB2.out.2.cell (o := 2) rfl
  clear HB CX CY CZ HBB
  go_wp2_with (go_at_call 12; refine (new_ok m ⟨c0, c1, c2⟩ w2 h1 h8 HC.out).mono ?_; rintro e w3 ⟨p, rfl, hne⟩; have HNE := Lib.hid hne; clear hne)
  obtain ⟨S, hR⟩ := rel_made (co := co) HB2.out.1 HB2.out.2 HNE.out
  have HR := Lib.hid hR
  clear hR HNE HB2 HW2
  obtain ⟨C, hCC⟩ : ∃ C, (⟨c0, c1, c2⟩ : Cs) = C := ⟨_, rfl⟩
  have eb : cost C 2 = c1 := by rw [← hCC]; rfl
  rw [hCC] at HR HC
  clear hCC
  go_loopw [13, 14, 15] (fun s13 s14 s15 wr => ∃ (ow : Nat) (la : Int) (k : Nat), s13 = .int .i64 ow ∧ s14 = .int .i64 la ∧ s15 = .int .i64 k ∧ k ≤ n ∧ k ≤ 100 ∧ Hid (Rel w wr S p m C bx co ow la k)) (fun _ _ s15 _ => n - (intOf s15).toNat)
  case atStart => exact ⟨0, -1, 0, rfl, rfl, rfl, by omega, by omega, HR⟩
  case round =>
    obtain ⟨ow, la, k, rfl, rfl, rfl, hk, hk9, hrel⟩ := hrel
    clear HR
    obtain ⟨f, hpx, hfo, hfl, hbd⟩ := hrel.out
    have HP := Lib.hid hpx
    have HFO := Lib.hid hfo
    have HFL := Lib.hid hfl
    have HBD := Lib.hid hbd
    clear hpx hfo hfl hbd
    by_cases hgo : k < n ∧ k < 100
    · obtain ⟨hlt, hl3⟩ := hgo
      obtain ⟨eb', eoff, rfl, hbl, hcc⟩ := (HD.out.no HP.out.hw.but).at_ (by omega)
      obtain ⟨d0, d1, d2⟩ := hcc k hlt
      obtain ⟨r0, r1, r2⟩ := HD.out.fit k hlt
      generalize kd k = v0 at d0 r0
      generalize di k = v1 at d1 r1
      generalize dk k = v2 at d2 r2
      obtain ⟨kk, hkk, hkk2⟩ := pkn v0 2 (by omega)
      have CK : Hid (∀ w, Calls Try.prog 11 #[.int .i64 v0, .int .i64 2] w fun e w' => e = .returned (.int .i64 kk) ∧ w = w') := fun w => by rw [← hkk]; exact pick_any v0 2 w r0 (by omega) (by omega)
      obtain ⟨yy, hyy, hym⟩ := pkn v1 m (by omega)
      have CY : Hid (∀ w, Calls Try.prog 11 #[.int .i64 v1, .int .i64 m] w fun e w' => e = .returned (.int .i64 yy) ∧ w = w') := fun w => by rw [← hyy]; exact pick_any v1 m w r1 (by omega) (by omega)
      obtain ⟨op, hop, hop3⟩ := pkn v2 3 (by omega)
      have CO : Hid (∀ w, Calls Try.prog 11 #[.int .i64 v2, .int .i64 3] w fun e w' => e = .returned (.int .i64 op) ∧ w = w') := fun w => by rw [← hop]; exact pick_any v2 3 w r2 (by omega) (by omega)
      obtain ⟨t, ht, ht5⟩ := pkn v2 5 (by omega)
      have CT : Hid (∀ w, Calls Try.prog 11 #[.int .i64 v2, .int .i64 5] w fun e w' => e = .returned (.int .i64 t) ∧ w = w') := fun w => by rw [← ht]; exact pick_any v2 5 w r2 (by omega) (by omega)
      have kn' : (k : Int) < (n : Int) := by omega
      have k3' : (k : Int) < 100 := by omega
      clear hcc hbl r0 r1 r2 hkk hyy hop ht
      go_upto_region 17 with fail
      generalize hwd : World.alloc _ _ = wd
      have HDB : Hid (But No wr wd ∧ Blk wd wr.heap.size #[.int .i64 v0, .int .i64 v1, .int .i64 v2] 34) := by rw [← hwd]; exact ⟨(But.refl No wr).alloc _, Blk.new _ _ _⟩
      clear hwd
      have HNS : Hid (¬ S wr.heap.size) := fun hs => Nat.lt_irrefl _ (HP.out.hw.cp.lt _ hs)
      generalize wr.heap.size = db at HDB HNS ⊢
      have g0 : wd.cell? ⟨db, 0, none⟩ = some (.int .i64 v0) := HDB.out.2.cell (o := 0) rfl
      have g1 : wd.cell? ⟨db, 1, none⟩ = some (.int .i64 v1) := HDB.out.2.cell (o := 1) rfl
      have g2 : wd.cell? ⟨db, 2, none⟩ = some (.int .i64 v2) := HDB.out.2.cell (o := 2) rfl
      clear d0 d1 d2
      have HPD := Lib.hid (HP.out.no HDB.out.1)
      have HO5 : Hid (ow ≤ 50 * k) := by show _ ≤ _; have h1 := (HBD.out co).2; rw [HFO.out] at h1; omega
      have ho5 : ow ≤ 5000 := by have := HO5.out; omega
      have HYO : Hid (0 ≤ (f yy).o ∧ (f yy).o ≤ 50 * k) := HBD.out yy
      by_cases hk0 : kk = 0
      · have bk : ((kk : Int) == 0) = true := by simp; omega
        obtain ⟨o1, ho1⟩ : ∃ o1, o1 = op + 1 := ⟨_, rfl⟩
        have eo : 1 + (op : Int) = (o1 : Int) := by omega
        have eo2 : (o1 : Int) - 1 = (op : Int) := by omega
        have op3 : (op : Int) < 3 := by omega
        obtain ⟨vn, hvn⟩ : ∃ vn : Nat, cost C o1 = vn := ⟨(cost C o1).toNat, by have := (HC.out.cost o1).1; omega⟩
        have hvn5 : vn ≤ 50 := by have := (HC.out.cost o1).2; omega
        have C1 : Hid (Calls Try.prog 13 #[.pointer (some ⟨p, 0, none⟩), .int .i64 yy, .int .i64 o1] wd fun r w' => r = .returned (.bool true) ∧ Mv wd S p m C (upd f yy ⟨(f yy).o + vn, (f yy).l, (f yy).s⟩) w') := by
          rw [← hvn]
          exact charge_ok p m C f S wd yy o1 hym (by omega) HC.out HPD.out.hw.cp HYO.out.1 (by have := HYO.out.2; omega)
        have HCO : Hid (∀ w', Mv wd S p m C (upd f yy ⟨(f yy).o + vn, (f yy).l, (f yy).s⟩) w' → w'.cell? ⟨bx, op, none⟩ = some (.int .i64 vn)) := fun w' hm => by
          have := (HPD.out.step hm).cost (j := op) hop3
          rw [show (op : Int) + 1 = o1 by omega, hvn] at this; exact this
        have HV : Hid (0 ≤ (f yy).o + vn ∧ (f yy).o + vn ≤ 50 * (k + 1)) := ⟨by have := HYO.out.1; omega, by have := HYO.out.2; omega⟩
        by_cases e : yy = co
        · have by_ : ((yy : Int) == (co : Int)) = true := by simp [e]
          have HR2 : Hid (∀ w', Mv wd S p m C (upd f yy ⟨(f yy).o + vn, (f yy).l, (f yy).s⟩) w' → Rel w w' S p m C bx co (ow + vn) la (k + 1)) := fun w' hm =>
            Rel.next HP.out HBD.out HDB.out.1 HV.out.1 HV.out.2 hm (by rw [← e, upd_same, e]; show (f co).o + (vn : Int) = _; rw [HFO.out]; omega) (by rw [← e, upd_same, e]; exact HFL.out)
          generalize (upd f yy ⟨(f yy).o + vn, (f yy).l, (f yy).s⟩) = g at C1 HCO HR2
          clear HFO HFL HBD HYO HV HP HPD HO5 hrel e hk0 ho1 hvn
          go_wp2_with (first | (go_at_call 13; (with_reducible refine C1.out.mono ?_); rintro e w4 ⟨rfl, hm⟩; have cc := HCO.out _ hm; have HRN := Lib.hid (HR2.out _ hm); clear hm) | (go_at_call 11; (with_reducible refine (CK.out _).mono ?_); rintro e w9 ⟨rfl, rfl⟩) | (go_at_call 11; (with_reducible refine (CY.out _).mono ?_); rintro e w9 ⟨rfl, rfl⟩) | (go_at_call 11; (with_reducible refine (CO.out _).mono ?_); rintro e w9 ⟨rfl, rfl⟩) | (go_at_call 11; (with_reducible refine (CT.out _).mono ?_); rintro e w9 ⟨rfl, rfl⟩))
          go_roundw
          case rel => exact ⟨ow + vn, la, k + 1, by go_num, rfl, by go_num, by omega, by omega, HRN.out⟩
          case measure => simp [intOf]; omega
        · have by_ : ((yy : Int) == (co : Int)) = false := by simp; omega
          have HR2 : Hid (∀ w', Mv wd S p m C (upd f yy ⟨(f yy).o + vn, (f yy).l, (f yy).s⟩) w' → Rel w w' S p m C bx co ow la (k + 1)) := fun w' hm =>
            Rel.next HP.out HBD.out HDB.out.1 HV.out.1 HV.out.2 hm (by rw [upd_other _ _ (Ne.symm e)]; exact HFO.out) (by rw [upd_other _ _ (Ne.symm e)]; exact HFL.out)
          generalize (upd f yy ⟨(f yy).o + vn, (f yy).l, (f yy).s⟩) = g at C1 HCO HR2
          clear HFO HFL HBD HYO HV HP HPD HO5 hrel e hk0 ho1 hvn
          go_wp2_with (first | (go_at_call 13; (with_reducible refine C1.out.mono ?_); rintro e w4 ⟨rfl, hm⟩; have HRN := Lib.hid (HR2.out _ hm); clear hm) | (go_at_call 11; (with_reducible refine (CK.out _).mono ?_); rintro e w9 ⟨rfl, rfl⟩) | (go_at_call 11; (with_reducible refine (CY.out _).mono ?_); rintro e w9 ⟨rfl, rfl⟩) | (go_at_call 11; (with_reducible refine (CO.out _).mono ?_); rintro e w9 ⟨rfl, rfl⟩) | (go_at_call 11; (with_reducible refine (CT.out _).mono ?_); rintro e w9 ⟨rfl, rfl⟩))
          go_roundw
          case rel => exact ⟨ow, la, k + 1, rfl, rfl, by go_num, by omega, by omega, HRN.out⟩
          case measure => simp [intOf]; omega
      · have bk : ((kk : Int) == 0) = false := by simp; omega
        by_cases hl : (f yy).l = t
        · have C1 : Hid (Calls Try.prog 14 #[.pointer (some ⟨p, 0, none⟩), .int .i64 yy, .int .i64 t] wd fun r w' => r = .returned (.bool false) ∧ wd = w') := load_same p m C f S wd yy t hym HPD.out.hw.cp hl
          have HRN : Hid (Rel w wd S p m C bx co ow la (k + 1)) := hrel.out.same HDB.out.1
          by_cases e : yy = co
          · have by_ : ((yy : Int) == (co : Int)) = true := by simp [e]
            have bl : (la != (t : Int)) = false := by rw [← HFL.out, ← e, hl]; simp
            clear HFO HFL HBD HYO HP HPD HO5 hrel e hk0 hl
            go_wp2_with (first | (go_at_call 14; (with_reducible refine C1.out.mono ?_); rintro e w4 ⟨rfl, rfl⟩) | (go_at_call 11; (with_reducible refine (CK.out _).mono ?_); rintro e w9 ⟨rfl, rfl⟩) | (go_at_call 11; (with_reducible refine (CY.out _).mono ?_); rintro e w9 ⟨rfl, rfl⟩) | (go_at_call 11; (with_reducible refine (CO.out _).mono ?_); rintro e w9 ⟨rfl, rfl⟩) | (go_at_call 11; (with_reducible refine (CT.out _).mono ?_); rintro e w9 ⟨rfl, rfl⟩))
            go_roundw
            case rel => exact ⟨ow, la, k + 1, rfl, rfl, by go_num, by omega, by omega, HRN.out⟩
            case measure => simp [intOf]; omega
          · have by_ : ((yy : Int) == (co : Int)) = false := by simp; omega
            clear HFO HFL HBD HYO HP HPD HO5 hrel e hk0 hl
            go_wp2_with (first | (go_at_call 14; (with_reducible refine C1.out.mono ?_); rintro e w4 ⟨rfl, rfl⟩) | (go_at_call 11; (with_reducible refine (CK.out _).mono ?_); rintro e w9 ⟨rfl, rfl⟩) | (go_at_call 11; (with_reducible refine (CY.out _).mono ?_); rintro e w9 ⟨rfl, rfl⟩) | (go_at_call 11; (with_reducible refine (CO.out _).mono ?_); rintro e w9 ⟨rfl, rfl⟩) | (go_at_call 11; (with_reducible refine (CT.out _).mono ?_); rintro e w9 ⟨rfl, rfl⟩))
            go_roundw
            case rel => exact ⟨ow, la, k + 1, rfl, rfl, by go_num, by omega, by omega, HRN.out⟩
            case measure => simp [intOf]; omega
        · obtain ⟨vn, hvn⟩ : ∃ vn : Nat, C.b = vn := ⟨C.b.toNat, by have := HC.out.b0; omega⟩
          have hvn5 : vn ≤ 50 := by have := HC.out.b1; omega
          have C1 : Hid (Calls Try.prog 14 #[.pointer (some ⟨p, 0, none⟩), .int .i64 yy, .int .i64 t] wd fun r w' => r = .returned (.bool true) ∧ Mv wd S p m C (upd f yy ⟨(f yy).o + vn, t, (f yy).s⟩) w') := by
            rw [← hvn]
            exact load_new p m C f S wd yy t hym HC.out HPD.out.hw.cp hl HYO.out.1 (by have := HYO.out.2; omega)
          have HCO : Hid (∀ w', Mv wd S p m C (upd f yy ⟨(f yy).o + vn, t, (f yy).s⟩) w' → w'.cell? ⟨bx, 1, none⟩ = some (.int .i64 vn) ∧ w'.cell? ⟨db, 2, none⟩ = some (.int .i64 v2)) := fun w' hm => by
            have := (HPD.out.step hm).cost (j := 1) (by omega)
            refine ⟨?_, (HDB.out.2.but hm.2 HNS.out).cell (o := 2) rfl⟩
            rw [← hvn]; exact this
          have HV : Hid (0 ≤ (f yy).o + vn ∧ (f yy).o + vn ≤ 50 * (k + 1)) := ⟨by have := HYO.out.1; omega, by have := HYO.out.2; omega⟩
          by_cases e : yy = co
          · have by_ : ((yy : Int) == (co : Int)) = true := by simp [e]
            have bl : (la != (t : Int)) = true := by rw [← HFL.out, ← e]; simpa using hl
            have HR2 : Hid (∀ w', Mv wd S p m C (upd f yy ⟨(f yy).o + vn, t, (f yy).s⟩) w' → Rel w w' S p m C bx co (ow + vn) t (k + 1)) := fun w' hm =>
              Rel.next HP.out HBD.out HDB.out.1 HV.out.1 HV.out.2 hm (by rw [← e, upd_same, e]; show (f co).o + (vn : Int) = _; rw [HFO.out]; omega) (by rw [← e, upd_same])
            generalize (upd f yy ⟨(f yy).o + vn, t, (f yy).s⟩) = g at C1 HCO HR2
            clear HFO HFL HBD HYO HV HP HPD HO5 hrel e hk0 hl hvn
            go_wp2_with (first | (go_at_call 14; (with_reducible refine C1.out.mono ?_); rintro e w4 ⟨rfl, hm⟩; have cc := (HCO.out _ hm).1; have c9 := (HCO.out _ hm).2; have HRN := Lib.hid (HR2.out _ hm); clear hm) | (go_at_call 11; (with_reducible refine (CK.out _).mono ?_); rintro e w9 ⟨rfl, rfl⟩) | (go_at_call 11; (with_reducible refine (CY.out _).mono ?_); rintro e w9 ⟨rfl, rfl⟩) | (go_at_call 11; (with_reducible refine (CO.out _).mono ?_); rintro e w9 ⟨rfl, rfl⟩) | (go_at_call 11; (with_reducible refine (CT.out _).mono ?_); rintro e w9 ⟨rfl, rfl⟩))
            go_roundw
            case rel => exact ⟨ow + vn, t, k + 1, by go_num, rfl, by go_num, by omega, by omega, HRN.out⟩
            case measure => simp [intOf]; omega
          · have by_ : ((yy : Int) == (co : Int)) = false := by simp; omega
            have HR2 : Hid (∀ w', Mv wd S p m C (upd f yy ⟨(f yy).o + vn, t, (f yy).s⟩) w' → Rel w w' S p m C bx co ow la (k + 1)) := fun w' hm =>
              Rel.next HP.out HBD.out HDB.out.1 HV.out.1 HV.out.2 hm (by rw [upd_other _ _ (Ne.symm e)]; exact HFO.out) (by rw [upd_other _ _ (Ne.symm e)]; exact HFL.out)
            generalize (upd f yy ⟨(f yy).o + vn, t, (f yy).s⟩) = g at C1 HCO HR2
            clear HFO HFL HBD HYO HV HP HPD HO5 hrel e hk0 hl hvn
            go_wp2_with (first | (go_at_call 14; (with_reducible refine C1.out.mono ?_); rintro e w4 ⟨rfl, hm⟩; have HRN := Lib.hid (HR2.out _ hm); clear hm) | (go_at_call 11; (with_reducible refine (CK.out _).mono ?_); rintro e w9 ⟨rfl, rfl⟩) | (go_at_call 11; (with_reducible refine (CY.out _).mono ?_); rintro e w9 ⟨rfl, rfl⟩) | (go_at_call 11; (with_reducible refine (CO.out _).mono ?_); rintro e w9 ⟨rfl, rfl⟩) | (go_at_call 11; (with_reducible refine (CT.out _).mono ?_); rintro e w9 ⟨rfl, rfl⟩))
            go_roundw
            case rel => exact ⟨ow, la, k + 1, rfl, rfl, by go_num, by omega, by omega, HRN.out⟩
            case measure => simp [intOf]; omega
    · have HE : Hid (∃ f, Px w wr S p m C f bx ∧ (f co).o = ((ow - 0 : Nat) : Int) ∧ (f co).l = la) := ⟨f, HP.out, HFO.out, HFL.out⟩
      have ho5 : ow ≤ 5000 := by have h1 := (HBD.out co).2; rw [HFO.out] at h1; omega
      clear HP HFO HFL HBD hrel
      by_cases hlt : k < n
      · have b1 : (k : Int) < (n : Int) := by omega
        have b2 : decide ((k : Int) < 100) = false := by simp; omega
        clear hgo
        go_wp2_with fail
        go_loopw [20] (fun s wr => ∃ j : Nat, s = .int .i64 j ∧ j ≤ ow ∧ Hid (∃ f, Px w wr S p m C f bx ∧ (f co).o = ((ow - j : Nat) : Int) ∧ (f co).l = la)) (fun s _ => ow - (intOf s).toNat)
        case atStart => exact ⟨0, rfl, by omega, HE⟩
        case round =>
          obtain ⟨j, rfl, hj, hr⟩ := hrel
          clear HE
          obtain ⟨f, hpx, hfo, hfl⟩ := hr.out
          have HP := Lib.hid hpx
          have HFO := Lib.hid hfo
          have HFL := Lib.hid hfl
          clear hpx hfo hfl hr
          by_cases hlt : j < ow
          · have b5 : decide ((j : Int) ≤ (ow : Int)) = true := by simp; omega
            have CPA : Hid (Calls Try.prog 15 #[.pointer (some ⟨p, 0, none⟩), .int .i64 co] wr fun r w' => r = .returned (.bool true) ∧ Mv wr S p m C (upd f co ⟨(f co).o - 1, (f co).l, (f co).s⟩) w') :=
              pay_one p m C f S wr co hcm HP.out.hw.cp (by rw [HFO.out]; omega) (by rw [HFO.out]; omega)
            have HN : Hid (∀ w', Mv wr S p m C (upd f co ⟨(f co).o - 1, (f co).l, (f co).s⟩) w' → ∃ f, Px w w' S p m C f bx ∧ (f co).o = ((ow - (j + 1) : Nat) : Int) ∧ (f co).l = la) := fun w' hm =>
              ⟨_, HP.out.step hm, by rw [upd_same]; show (f co).o - 1 = _; rw [HFO.out]; omega, by rw [upd_same]; exact HFL.out⟩
            generalize (upd f co ⟨(f co).o - 1, (f co).l, (f co).s⟩) = g at CPA HN
            clear HP HFO HFL
            go_wp2_with (go_at_call 15; (with_reducible refine CPA.out.mono ?_); rintro e w4 ⟨rfl, hm⟩; have HRN := Lib.hid (HN.out _ hm); clear hm)
            go_roundw
            case rel => exact ⟨j + 1, by go_num, by omega, HRN.out⟩
            case measure => simp [intOf]; omega
          · have e0 : (f co).o = 0 := by rw [HFO.out]; omega
            have CPA : Hid (Calls Try.prog 15 #[.pointer (some ⟨p, 0, none⟩), .int .i64 co] wr fun r w' => r = .returned (.bool false) ∧ wr = w') := pay_none p m C f S wr co hcm HP.out.hw.cp e0
            have CO : Hid (Calls Try.prog 16 #[.pointer (some ⟨p, 0, none⟩), .int .i64 co] wr fun r w' => r = .returned (.int .i64 0) ∧ wr = w') := by rw [← e0]; exact owes_in p m C f S wr co hcm HP.out.hw.cp
            have CL : Hid (Calls Try.prog 17 #[.pointer (some ⟨p, 0, none⟩), .int .i64 co] wr fun r w' => r = .returned (.int .i64 la) ∧ wr = w') := by rw [← HFL.out]; exact last_in p m C f S wr co hcm HP.out.hw.cp
            have HB : Hid (But No w wr) := HP.out.hw.but
            have bj : ((j : Int) == (ow : Int)) = true := by simp; omega
            have bl : (la == la) = true := by simp
            clear HP HFO HFL e0
            go_wp2_with (first | (go_at_call 15; (with_reducible refine CPA.out.mono ?_); rintro e w4 ⟨rfl, rfl⟩) | (go_at_call 16; (with_reducible refine CO.out.mono ?_); rintro e w4 ⟨rfl, rfl⟩) | (go_at_call 17; (with_reducible refine CL.out.mono ?_); rintro e w4 ⟨rfl, rfl⟩))
            go_ret
            exact ⟨rfl, HB.out⟩
      · have b1 : decide ((k : Int) < (n : Int)) = false := by simp; omega
        clear hgo
        go_wp2_with fail
        go_loopw [20] (fun s wr => ∃ j : Nat, s = .int .i64 j ∧ j ≤ ow ∧ Hid (∃ f, Px w wr S p m C f bx ∧ (f co).o = ((ow - j : Nat) : Int) ∧ (f co).l = la)) (fun s _ => ow - (intOf s).toNat)
        case atStart => exact ⟨0, rfl, by omega, HE⟩
        case round =>
          obtain ⟨j, rfl, hj, hr⟩ := hrel
          clear HE
          obtain ⟨f, hpx, hfo, hfl⟩ := hr.out
          have HP := Lib.hid hpx
          have HFO := Lib.hid hfo
          have HFL := Lib.hid hfl
          clear hpx hfo hfl hr
          by_cases hlt : j < ow
          · have b5 : decide ((j : Int) ≤ (ow : Int)) = true := by simp; omega
            have CPA : Hid (Calls Try.prog 15 #[.pointer (some ⟨p, 0, none⟩), .int .i64 co] wr fun r w' => r = .returned (.bool true) ∧ Mv wr S p m C (upd f co ⟨(f co).o - 1, (f co).l, (f co).s⟩) w') :=
              pay_one p m C f S wr co hcm HP.out.hw.cp (by rw [HFO.out]; omega) (by rw [HFO.out]; omega)
            have HN : Hid (∀ w', Mv wr S p m C (upd f co ⟨(f co).o - 1, (f co).l, (f co).s⟩) w' → ∃ f, Px w w' S p m C f bx ∧ (f co).o = ((ow - (j + 1) : Nat) : Int) ∧ (f co).l = la) := fun w' hm =>
              ⟨_, HP.out.step hm, by rw [upd_same]; show (f co).o - 1 = _; rw [HFO.out]; omega, by rw [upd_same]; exact HFL.out⟩
            generalize (upd f co ⟨(f co).o - 1, (f co).l, (f co).s⟩) = g at CPA HN
            clear HP HFO HFL
            go_wp2_with (go_at_call 15; (with_reducible refine CPA.out.mono ?_); rintro e w4 ⟨rfl, hm⟩; have HRN := Lib.hid (HN.out _ hm); clear hm)
            go_roundw
            case rel => exact ⟨j + 1, by go_num, by omega, HRN.out⟩
            case measure => simp [intOf]; omega
          · have e0 : (f co).o = 0 := by rw [HFO.out]; omega
            have CPA : Hid (Calls Try.prog 15 #[.pointer (some ⟨p, 0, none⟩), .int .i64 co] wr fun r w' => r = .returned (.bool false) ∧ wr = w') := pay_none p m C f S wr co hcm HP.out.hw.cp e0
            have CO : Hid (Calls Try.prog 16 #[.pointer (some ⟨p, 0, none⟩), .int .i64 co] wr fun r w' => r = .returned (.int .i64 0) ∧ wr = w') := by rw [← e0]; exact owes_in p m C f S wr co hcm HP.out.hw.cp
            have CL : Hid (Calls Try.prog 17 #[.pointer (some ⟨p, 0, none⟩), .int .i64 co] wr fun r w' => r = .returned (.int .i64 la) ∧ wr = w') := by rw [← HFL.out]; exact last_in p m C f S wr co hcm HP.out.hw.cp
            have HB : Hid (But No w wr) := HP.out.hw.but
            have bj : ((j : Int) == (ow : Int)) = true := by simp; omega
            have bl : (la == la) = true := by simp
            clear HP HFO HFL e0
            go_wp2_with (first | (go_at_call 15; (with_reducible refine CPA.out.mono ?_); rintro e w4 ⟨rfl, rfl⟩) | (go_at_call 16; (with_reducible refine CO.out.mono ?_); rintro e w4 ⟨rfl, rfl⟩) | (go_at_call 17; (with_reducible refine CL.out.mono ?_); rintro e w4 ⟨rfl, rfl⟩))
            go_ret
            exact ⟨rfl, HB.out⟩
end Go.Proofs.Ytaichiodlbdpjaa.coresPay
