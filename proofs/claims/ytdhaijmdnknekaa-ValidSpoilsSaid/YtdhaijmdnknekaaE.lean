/- The chapter's examples. -/
import Derived.Test.YtdhaijmdnknekaaC3
import Derived.Deep.DeepCutAuto
namespace Go.Proofs.Ytdhaijmdnknekaa
open Go.ChangeShapes Go.WideShapes Go.ChangeAt Go.RowKit Go.Deep
def exS : Sys := ⟨1, 1, 1, 0, 0, 0, 1, 0, [⟨10, 10, 3, []⟩]⟩
def exT : Sys := ⟨1, 2, 2, 0, 0, 0, 1, 0, [⟨10, 10, 3, []⟩]⟩
def exU : Sys := ⟨1, 1, 1, 0, 0, 0, 1, 0, [⟨10, 10, 3, [(2, 0, 1)]⟩]⟩
instance (a : Int) : Decidable (inR a) := by unfold inR; infer_instance
theorem exS_find : fE exS = 0 ∧ (vFind exS).2.1 = -1 ∧ (vFind exS).2.2 = -1 ∧ right exS = true := by decide
theorem exT_find : fE exT = 10 ∧ (vFind exT).2.1 = -1 ∧ (vFind exT).2.2 = -1 ∧ right exT = false := by decide
theorem exU_find : fE exU = 10 ∧ (vFind exU).2.1 = 0 ∧ (vFind exU).2.2 = 0 := by decide
theorem ex_rtsk {w : World} {g : Nat} (h : Blk w g #[.int .i64 10, .int .i64 10, .int .i64 3, .slice none 0 0] 35) : RTsk w (some ⟨g, 0, none⟩) 1 [⟨10, 10, 3, []⟩] :=
  ⟨rfl, by omega, fun _ => ⟨g, 0, rfl, h.lt, fun k t hk => by
    cases k with
    | zero =>
      cases hk
      exact ⟨h.cell rfl, h.cell rfl, h.cell rfl, none, 0, h.cell rfl, Nat.le_refl _, rfl, by simp, fun h => absurd h (by simp), by simp⟩
    | succ k => simp at hk⟩, fun t ht => by simp at ht; subst ht; simp [inR]⟩
theorem exS_rsys {w : World} {g : Nat} (h : Blk w g #[.int .i64 10, .int .i64 10, .int .i64 3, .slice none 0 0] 35) : RSys w (some ⟨g, 0, none⟩) 1 1 exS :=
  ⟨Nat.le_refl _, ex_rtsk h, by simp [exS, inR]⟩
theorem exT_rsys {w : World} {g : Nat} (h : Blk w g #[.int .i64 10, .int .i64 10, .int .i64 3, .slice none 0 0] 35) : RSys w (some ⟨g, 0, none⟩) 1 1 exT :=
  ⟨Nat.le_refl _, ex_rtsk h, by simp [exT, inR]⟩
theorem exU_rsys {w : World} {g g' : Nat} (h : Blk w g #[.int .i64 10, .int .i64 10, .int .i64 3, .slice (some ⟨g', 0, none⟩) 1 1] 35) (h' : Blk w g' #[.int .i64 2, .int .i64 0, .int .i64 1] 37) : RSys w (some ⟨g, 0, none⟩) 1 1 exU :=
  ⟨Nat.le_refl _, ⟨rfl, by omega, fun _ => ⟨g, 0, rfl, h.lt, fun k t hk => by
    cases k with
    | zero =>
      cases hk
      exact ⟨h.cell rfl, h.cell rfl, h.cell rfl, _, 1, h.cell rfl, Nat.le_refl _, rfl, by simp, fun _ => ⟨g', 0, rfl, h'.lt, fun k x hx => by
        cases k with
        | zero => cases hx; exact ⟨h'.cell rfl, h'.cell rfl, h'.cell rfl⟩
        | succ k => cases hx⟩, fun x hx => by cases hx with | head => exact ⟨by decide, by decide, by decide⟩ | tail _ h => cases h⟩
    | succ k => cases hk⟩, fun t ht => by cases ht with | head => exact ⟨by decide, by decide, by decide⟩ | tail _ h => cases h⟩, by simp [exU, inR]⟩
def exB (po pr : Int) (g : Nat) : Array Value := #[.int .i64 1, .int .i64 po, .int .i64 pr, .int .i64 0, .int .i64 0, .int .i64 0, .int .i64 1, .int .i64 0, .slice (some ⟨g, 0, none⟩) 1 1]
theorem ex_cells {w : World} {b g : Nat} {po pr : Int} (h : Blk w b (exB po pr g) 24) : w.cell? ⟨b, 0, none⟩ = some (.int .i64 1) ∧ w.cell? ⟨b, 1, none⟩ = some (.int .i64 po) ∧ w.cell? ⟨b, 2, none⟩ = some (.int .i64 pr) ∧ w.cell? ⟨b, 3, none⟩ = some (.int .i64 0) ∧ w.cell? ⟨b, 4, none⟩ = some (.int .i64 0) ∧ w.cell? ⟨b, 5, none⟩ = some (.int .i64 0) ∧ w.cell? ⟨b, 6, none⟩ = some (.int .i64 1) ∧ w.cell? ⟨b, 7, none⟩ = some (.int .i64 0) ∧ w.cell? ⟨b, 8, none⟩ = some (.slice (some ⟨g, 0, none⟩) 1 1) :=
  ⟨h.cell rfl, h.cell rfl, h.cell rfl, h.cell rfl, h.cell rfl, h.cell rfl, h.cell rfl, h.cell rfl, h.cell rfl⟩
theorem fin_cells {w : World} {b : Nat} {x y z : Value} (h : Blk w b #[x, y, z] 28) : w.cell? ⟨b, 0, none⟩ = some x ∧ w.cell? ⟨b, 1, none⟩ = some y ∧ w.cell? ⟨b, 2, none⟩ = some z := ⟨h.cell rfl, h.cell rfl, h.cell rfl⟩
set_option maxRecDepth 100000 in
set_option maxHeartbeats 1000000 in
theorem small_any (w : World) : Calls Try.prog 11 #[] w fun e w' => ∃ g, e = .returned (sysV exS (some ⟨g, 0, none⟩) 1 1) ∧ But No w w' ∧ w.heap.size ≤ g ∧ Blk w' g #[.int .i64 10, .int .i64 10, .int .i64 3, .slice none 0 0] 35 := by
  go_enter Try.func11, Try.ntmps11
  go_wp2
  refine bodyPost_ret (v := sysV exS (some ⟨w.heap.size + 1, 0, none⟩) 1 1) (by simp [results, Try.results11, go_sem, sysV, exS]) rfl ?_
  exact ⟨_, rfl, ((But.refl _ _).alloc _).alloc _, Nat.le_succ _, blk2 _ _ _ _⟩
set_option maxRecDepth 100000 in
set_option maxHeartbeats 4000000 in
theorem examples_any (w : World) : Calls Try.prog 7 #[] w fun e w' => e = .returned (.bool true) ∧ But No w w' := by
  have CM : Hid (∀ W, Calls Try.prog 11 #[] W fun e w' => ∃ g, e = .returned (.agg (boxS exS (some ⟨g, 0, none⟩) 1 1)) ∧ But No W w' ∧ W.heap.size ≤ g ∧ Blk w' g #[.int .i64 10, .int .i64 10, .int .i64 3, .slice none 0 0] 35) := small_any
  have CS : Hid (∀ W g, Blk W g #[.int .i64 10, .int .i64 10, .int .i64 3, .slice none 0 0] 35 → Calls Try.prog 8 #[sysV exS (some ⟨g, 0, none⟩) 1 1] W fun e w' => e = .returned (.agg #[.int .i64 0, .int .i64 (-1), .int .i64 (-1)]) ∧ But No W w') := fun W g h => check_any exS _ 1 1 W (exS_rsys h)
  have CT : Hid (∀ W g, Blk W g #[.int .i64 10, .int .i64 10, .int .i64 3, .slice none 0 0] 35 → Calls Try.prog 8 #[sysV exT (some ⟨g, 0, none⟩) 1 1] W fun e w' => e = .returned (.agg #[.int .i64 10, .int .i64 (-1), .int .i64 (-1)]) ∧ But No W w') := fun W g h => check_any exT _ 1 1 W (exT_rsys h)
  have CU : Hid (∀ W g g', Blk W g #[.int .i64 10, .int .i64 10, .int .i64 3, .slice (some ⟨g', 0, none⟩) 1 1] 35 → Blk W g' #[.int .i64 2, .int .i64 0, .int .i64 1] 37 → Calls Try.prog 8 #[sysV exU (some ⟨g, 0, none⟩) 1 1] W fun e w' => e = .returned (.agg #[.int .i64 10, .int .i64 0, .int .i64 0]) ∧ But No W w') := fun W g g' h h' => check_any exU _ 1 1 W (exU_rsys h h')
  have RS : Hid (∀ W g, Blk W g #[.int .i64 10, .int .i64 10, .int .i64 3, .slice none 0 0] 35 → Calls Try.prog 10 #[sysV exS (some ⟨g, 0, none⟩) 1 1] W fun e w' => e = .returned (.bool true) ∧ But No W w') := fun W g h => right_any exS _ 1 1 W (exS_rsys h)
  have RT : Hid (∀ W g, Blk W g #[.int .i64 10, .int .i64 10, .int .i64 3, .slice none 0 0] 35 → Calls Try.prog 10 #[sysV exT (some ⟨g, 0, none⟩) 1 1] W fun e w' => e = .returned (.bool false) ∧ But No W w') := fun W g h => right_any exT _ 1 1 W (exT_rsys h)
  go_enter Try.func7, Try.ntmps7
  go_upto_region 3 with (first | (go_at_call 11; refine (CM.out _).mono ?_; rintro e w1 ⟨g, rfl, hb1, hg1, hk1⟩; have HB1 := Lib.hid hb1; have HG1 := Lib.hid hk1; have HL1 := Lib.hid hg1; clear hb1 hk1 hg1; unfold boxS exS) | (go_at_call 8; refine (CS.out _ _ (HG1.out.alloc _)).mono ?_; rintro e w2 ⟨rfl, hb2⟩; have HB2 := Lib.hid hb2; clear hb2))
  obtain ⟨bs, hbs⟩ : ∃ bs, w1.heap.size = bs := ⟨_, rfl⟩
  obtain ⟨ba, hba⟩ : ∃ ba, w2.heap.size = ba := ⟨_, rfl⟩
  obtain ⟨wa, hwa, HSa, HFa, HGa, HBa⟩ : ∃ wa, w2.alloc (.cells #[.int .i64 0, .int .i64 (-1), .int .i64 (-1)] 28) = wa ∧ Hid (Blk wa bs (exB 1 1 g) 24) ∧ Hid (Blk wa ba #[.int .i64 0, .int .i64 (-1), .int .i64 (-1)] 28) ∧ Hid (Blk wa g #[.int .i64 10, .int .i64 10, .int .i64 3, .slice none 0 0] 35) ∧ Hid (But No w wa) := by
    subst hbs hba
    exact ⟨_, rfl, ((Blk.new w1 _ _).but HB2.out (fun f => f)).alloc _, Blk.new _ _ _, ((HG1.out.alloc _).but HB2.out (fun f => f)).alloc _, ((HB1.out.alloc _).trans HB2.out).alloc _⟩
  rw [hwa, hbs, hba]
  clear hwa hbs hba HG1 HL1 HB1 HB2
  clear w1 w2
  obtain ⟨s0, s1, s2, s3, s4, s5, s6, s7, s8⟩ := ex_cells HSa.out
  go_upto_region 7 with (go_at_call 8; refine (CT.out _ _ (HGa.out.alloc _)).mono ?_; rintro e w3 ⟨rfl, hb3⟩; have HB3 := Lib.hid hb3; clear hb3)
  clear s0 s1 s2 s3 s4 s5 s6 s7 s8
  obtain ⟨bt, hbt⟩ : ∃ bt, wa.heap.size = bt := ⟨_, rfl⟩
  obtain ⟨bb, hbb⟩ : ∃ bb, w3.heap.size = bb := ⟨_, rfl⟩
  obtain ⟨wb, hwb, HSb, HFb, HGb, HTb, HHb, HBb⟩ : ∃ wb, w3.alloc (.cells #[.int .i64 10, .int .i64 (-1), .int .i64 (-1)] 28) = wb ∧ Hid (Blk wb bs (exB 1 1 g) 24) ∧ Hid (Blk wb ba #[.int .i64 0, .int .i64 (-1), .int .i64 (-1)] 28) ∧ Hid (Blk wb g #[.int .i64 10, .int .i64 10, .int .i64 3, .slice none 0 0] 35) ∧ Hid (Blk wb bt (exB 2 2 g) 24) ∧ Hid (Blk wb bb #[.int .i64 10, .int .i64 (-1), .int .i64 (-1)] 28) ∧ Hid (But No w wb) := by
    subst hbt hbb
    exact ⟨_, rfl, ((HSa.out.alloc _).but HB3.out (fun f => f)).alloc _, ((HFa.out.alloc _).but HB3.out (fun f => f)).alloc _, ((HGa.out.alloc _).but HB3.out (fun f => f)).alloc _, ((Blk.new wa _ _).but HB3.out (fun f => f)).alloc _, Blk.new _ _ _, ((HBa.out.alloc _).trans HB3.out).alloc _⟩
  rw [hwb, hbt, hbb]
  clear hwb hbt hbb HSa HFa HGa HBa HB3
  clear wa w3
  go_upto_region 8 with (go_at_call 11; refine (CM.out _).mono ?_; rintro e w4 ⟨g2, rfl, hb4, hg4, hk4⟩; have HB4 := Lib.hid hb4; have HG4 := Lib.hid hk4; have HL4 := Lib.hid hg4; clear hb4 hk4 hg4; unfold boxS exS)
  obtain ⟨bu, hbu⟩ : ∃ bu, w4.heap.size = bu := ⟨_, rfl⟩
  obtain ⟨wc, hwc, HSc, HFc, HGc, HTc, HHc, HBc, HUc, HKc, HNc⟩ : ∃ wc, w4.alloc (.cells #[.int .i64 1, .int .i64 1, .int .i64 1, .int .i64 0, .int .i64 0, .int .i64 0, .int .i64 1, .int .i64 0, .slice (some ⟨g2, 0, none⟩) 1 1] 24) = wc ∧ Hid (Blk wc bs (exB 1 1 g) 24) ∧ Hid (Blk wc ba #[.int .i64 0, .int .i64 (-1), .int .i64 (-1)] 28) ∧ Hid (Blk wc g #[.int .i64 10, .int .i64 10, .int .i64 3, .slice none 0 0] 35) ∧ Hid (Blk wc bt (exB 2 2 g) 24) ∧ Hid (Blk wc bb #[.int .i64 10, .int .i64 (-1), .int .i64 (-1)] 28) ∧ Hid (But No w wc) ∧ Hid (Blk wc bu (exB 1 1 g2) 24) ∧ Hid (Blk wc g2 #[.int .i64 10, .int .i64 10, .int .i64 3, .slice none 0 0] 35) ∧ Hid (w.heap.size ≤ g2 ∧ bs ≠ g2 ∧ ba ≠ g2 ∧ g ≠ g2 ∧ bt ≠ g2 ∧ bb ≠ g2 ∧ bu ≠ g2 ∧ g2 < wc.heap.size) := by
    subst hbu
    have l1 := HSb.out.lt
    have l2 := HFb.out.lt
    have l3 := HGb.out.lt
    have l4 := HTb.out.lt
    have l5 := HHb.out.lt
    have l6 := HL4.out
    have l7 := HG4.out.lt
    have l8 := HBb.out.size
    exact ⟨_, rfl, (HSb.out.but HB4.out (fun f => f)).alloc _, (HFb.out.but HB4.out (fun f => f)).alloc _, (HGb.out.but HB4.out (fun f => f)).alloc _, (HTb.out.but HB4.out (fun f => f)).alloc _, (HHb.out.but HB4.out (fun f => f)).alloc _, (HBb.out.trans HB4.out).alloc _, Blk.new _ _ _, HG4.out.alloc _, by omega, by omega, by omega, by omega, by omega, by omega, by omega, by simp; omega⟩
  rw [hwc, hbu]
  clear hwc hbu HSb HFb HGb HTb HHb HBb HB4 HG4 HL4
  clear wb w4
  have u8 : wc.cell? ⟨bu, 8, none⟩ = some (.slice (some ⟨g2, 0, none⟩) 1 1) := HUc.out.cell rfl
  have v3 : wc.cell? ⟨g2, 3, none⟩ = some (.slice none 0 0) := HKc.out.cell rfl
  have v3' : (wc.alloc (.cells #[.int .i64 2, .int .i64 0, .int .i64 1] 37)).cell? ⟨g2, 3, none⟩ = some (.slice none 0 0) := (HKc.out.alloc _).cell rfl
  have f3 : wc.frozen? ⟨g2, 3, none⟩ = false := HKc.out.frozen 3
  have f3' : (wc.alloc (.cells #[.int .i64 2, .int .i64 0, .int .i64 1] 37)).frozen? ⟨g2, 3, none⟩ = false := (HKc.out.alloc _).frozen 3
  go_upto_region 9 with fail
  clear u8 v3 v3' f3 f3'
  obtain ⟨gx, hgx⟩ : ∃ gx, wc.heap.size = gx := ⟨_, rfl⟩
  obtain ⟨wd, hwd, HSd, HFd, HGd, HTd, HHd, HBd, HUd, HKd, HXd⟩ : ∃ wd, (wc.alloc (.cells #[.int .i64 2, .int .i64 0, .int .i64 1] 37)).setCell ⟨g2, 3, none⟩ (.slice (some ⟨gx, 0, none⟩) 1 1) = wd ∧ Hid (Blk wd bs (exB 1 1 g) 24) ∧ Hid (Blk wd ba #[.int .i64 0, .int .i64 (-1), .int .i64 (-1)] 28) ∧ Hid (Blk wd g #[.int .i64 10, .int .i64 10, .int .i64 3, .slice none 0 0] 35) ∧ Hid (Blk wd bt (exB 2 2 g) 24) ∧ Hid (Blk wd bb #[.int .i64 10, .int .i64 (-1), .int .i64 (-1)] 28) ∧ Hid (But No w wd) ∧ Hid (Blk wd bu (exB 1 1 g2) 24) ∧ Hid (Blk wd g2 #[.int .i64 10, .int .i64 10, .int .i64 3, .slice (some ⟨gx, 0, none⟩) 1 1] 35) ∧ Hid (Blk wd gx #[.int .i64 2, .int .i64 0, .int .i64 1] 37) := by
    subst hgx
    obtain ⟨n0, n1, n2, n3, n4, n5, n6, n7⟩ := HNc.out
    refine ⟨_, rfl, (HSc.out.alloc _).other n1 _, (HFc.out.alloc _).other n2 _, (HGc.out.alloc _).other n3 _, (HTc.out.alloc _).other n4 _, (HHc.out.alloc _).other n5 _, (HBc.out.alloc _).setNew n0 _, (HUc.out.alloc _).other n6 _, ?_, (Blk.new wc _ _).other (by show wc.heap.size ≠ g2; omega) _⟩
    have h4 := (HKc.out.alloc (.cells #[.int .i64 2, .int .i64 0, .int .i64 1] 37)).set 3 (.slice (some ⟨wc.heap.size, 0, none⟩) 1 1)
    simp only [List.setIfInBounds_toArray, List.set_cons_succ, List.set_cons_zero] at h4
    exact h4
  rw [hgx, hwd]
  clear hwd hgx HSc HFc HGc HTc HHc HBc HUc HKc HNc
  clear wc
  obtain ⟨s0, s1, s2, s3, s4, s5, s6, s7, s8⟩ := ex_cells HUd.out
  go_upto_region 10 with (go_at_call 8; refine (CU.out _ _ _ HKd.out HXd.out).mono ?_; rintro e w5 ⟨rfl, hb5⟩; have HB5 := Lib.hid hb5; clear hb5)
  clear s0 s1 s2 s3 s4 s5 s6 s7 s8
  obtain ⟨bc, hbc⟩ : ∃ bc, w5.heap.size = bc := ⟨_, rfl⟩
  obtain ⟨we, hwe, HSe, HFe, HGe, HTe, HHe, HBe, HCe⟩ : ∃ we, w5.alloc (.cells #[.int .i64 10, .int .i64 0, .int .i64 0] 28) = we ∧ Hid (Blk we bs (exB 1 1 g) 24) ∧ Hid (Blk we ba #[.int .i64 0, .int .i64 (-1), .int .i64 (-1)] 28) ∧ Hid (Blk we g #[.int .i64 10, .int .i64 10, .int .i64 3, .slice none 0 0] 35) ∧ Hid (Blk we bt (exB 2 2 g) 24) ∧ Hid (Blk we bb #[.int .i64 10, .int .i64 (-1), .int .i64 (-1)] 28) ∧ Hid (But No w we) ∧ Hid (Blk we bc #[.int .i64 10, .int .i64 0, .int .i64 0] 28) := by
    subst hbc
    exact ⟨_, rfl, (HSd.out.but HB5.out (fun f => f)).alloc _, (HFd.out.but HB5.out (fun f => f)).alloc _, (HGd.out.but HB5.out (fun f => f)).alloc _, (HTd.out.but HB5.out (fun f => f)).alloc _, (HHd.out.but HB5.out (fun f => f)).alloc _, (HBd.out.trans HB5.out).alloc _, Blk.new _ _ _⟩
  rw [hwe, hbc]
  clear hwe hbc HSd HFd HGd HTd HHd HBd HUd HKd HXd HB5
  clear wd w5
  obtain ⟨s0, s1, s2, s3, s4, s5, s6, s7, s8⟩ := ex_cells HSe.out
  obtain ⟨a0, a1, a2⟩ := fin_cells HFe.out
  obtain ⟨b0, b1, b2⟩ := fin_cells HHe.out
  obtain ⟨c0, c1, c2⟩ := fin_cells HCe.out
  go_wp2_with (go_at_call 10; first | (refine (RS.out _ _ HGe.out).mono ?_; rintro e w6 ⟨rfl, hb6⟩; have HB6 := Lib.hid (HBe.out.trans hb6); have HG6 := Lib.hid (HGe.out.but hb6 (fun f => f)); obtain ⟨s0, s1, s2, s3, s4, s5, s6, s7, s8⟩ := ex_cells (HTe.out.but hb6 (fun f => f)); clear hb6) | (refine (RT.out _ _ HG6.out).mono ?_; rintro e w7 ⟨rfl, hb7⟩; have HB7 := Lib.hid (HB6.out.trans hb7); clear hb7))
  go_ret
  exact ⟨rfl, HB7.out⟩
end Go.Proofs.Ytdhaijmdnknekaa
