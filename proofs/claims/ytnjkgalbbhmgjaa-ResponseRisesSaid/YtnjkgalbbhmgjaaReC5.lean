/- The contract of the program's own sum (chapter 16): a range over what may be requested. -/
import Derived.Test.YtnjkgalbbhmgjaaReC4
namespace Go.Proofs.Ytnjkgalbbhmgjaa.rsp
open Go.ChangeShapes Go.WideShapes Go.ChangeAt Go.RowKit Go.Deep Go.Shelf
attribute [local go_sem] Oper.semAt_some
/-- The boxes: the two results, the sum so far. -/
structure IW (w : World) (T r e : Int) (W : World) : Prop where
  b1 : Blk W (w.heap.size + 1) #[.int .i64 r] 3
  b2 : Blk W (w.heap.size + 1 + 1) #[.int .i64 e] 24
  b3 : Blk W (w.heap.size + 1 + 1 + 1) #[.int .i64 T] 3
  but : Below w.heap.size w W
theorem IW.no {w W W' : World} {T r e : Int} (h : IW w T r e W) (hb : But No W W') : IW w T r e W' :=
  ⟨h.b1.but hb (fun f => f), h.b2.but hb (fun f => f), h.b3.but hb (fun f => f), h.but.trans (below_but hb h.but.size)⟩
theorem IW.turn {w W W' : World} {row : Option Nat} {B : Nat} {T r e : Int} (h : IW w T r e W) (hB : w.heap.size ≤ B) (hg : W.grownBy W' row) (hr : ∀ r, row = some r → B ≤ r ∧ ∃ o : Obj, W.heap[r]? = some o ∧ o.isCells = false) : IW w T r e W' :=
  ⟨blk_turn h.b1 hg (fun k e => (hr k e).2), blk_turn h.b2 hg (fun k e => (hr k e).2), blk_turn h.b3 hg (fun k e => (hr k e).2), h.but.grown hg h.but.size (fun k e => Nat.le_trans hB (hr k e).1)⟩
theorem IW.set {w W : World} {T r e : Int} (h : IW w T r e W) (S : Int) : IW w S r e (W.setCell ⟨w.heap.size + 1 + 1 + 1, 0, none⟩ (.int .i64 S)) :=
  ⟨h.b1.other (by show w.heap.size + 1 ≠ w.heap.size + 1 + 1 + 1; omega) _, h.b2.other (by show w.heap.size + 1 + 1 ≠ w.heap.size + 1 + 1 + 1; omega) _, h.b3.set 0 _, h.but.setCell (p := ⟨w.heap.size + 1 + 1 + 1, 0, none⟩) (by show w.heap.size ≤ w.heap.size + 1 + 1 + 1; omega) _⟩
theorem IW.res {w W : World} {T r e : Int} (h : IW w T r e W) (a b : Int) : IW w T a b ((W.setCell ⟨w.heap.size + 1, 0, none⟩ (.int .i64 a)).setCell ⟨w.heap.size + 1 + 1, 0, none⟩ (.int .i64 b)) :=
  ⟨(h.b1.set 0 _).other (by show w.heap.size + 1 ≠ w.heap.size + 1 + 1; omega) _, (h.b2.other (by show w.heap.size + 1 + 1 ≠ w.heap.size + 1; omega) _).set 0 _, (h.b3.other (by show w.heap.size + 1 + 1 + 1 ≠ w.heap.size + 1; omega) _).other (by show w.heap.size + 1 + 1 + 1 ≠ w.heap.size + 1 + 1; omega) _,
    (h.but.setCell (p := ⟨w.heap.size + 1, 0, none⟩) (by show w.heap.size ≤ w.heap.size + 1; omega) _).setCell (p := ⟨w.heap.size + 1 + 1, 0, none⟩) (by show w.heap.size ≤ w.heap.size + 1 + 1; omega) _⟩
theorem IW.start (w : World) (cs : Array Value) : IW w 0 0 0 ((((w.alloc (.cells cs 38)).alloc (.cells #[.int .i64 0] 3)).alloc (.cells #[.int .i64 0] 24)).alloc (.cells #[.int .i64 0] 3)) := by
  have h3 := blk2 (w.alloc (.cells cs 38)) (.cells #[.int .i64 0] 3) #[.int .i64 0] 24
  have h4 := blk2 ((w.alloc (.cells cs 38)).alloc (.cells #[.int .i64 0] 3)) (.cells #[.int .i64 0] 24) #[.int .i64 0] 3
  rw [size_alloc1] at h3 h4
  rw [size_alloc1] at h4
  exact ⟨((blk2 w _ _ _).alloc _).alloc _, h3.alloc _, h4, below_but (((((But.refl No w).alloc _).alloc _).alloc _).alloc _) (Nat.le_refl _)⟩
/-- So much work, so many times. -/
def pr (p : Int × Int) : Int := p.1 * p.2
def sR : List (Int × Int) → Int
  | [] => 0
  | x :: l => pr x + sR l
theorem sR_app (a b : List (Int × Int)) : sR (a ++ b) = sR a + sR b := by
  induction a with
  | nil => simp [sR]
  | cons x a ih => rw [List.cons_append, sR, sR, ih]; omega
theorem sR_rqA (t : Int) (a : List Ld) : sR (rqA t a) = sL (fA t) a := by
  induction a with
  | nil => rfl
  | cons x a ih =>
    unfold rqA at ih
    rw [rqA, List.map_cons, sR, sL, ih]
    unfold pr fA
    rw [Int.mul_comm]
theorem sR_rqB (rl t : Int) (b : List Ld) : sR (rqB rl t b) = sL (fB rl t) b := by
  induction b with
  | nil => rfl
  | cons x b ih =>
    unfold rqB at ih
    rw [rqB, List.map_cons, sR, sL, ih]
    unfold pr fB
    rw [Int.mul_comm]
theorem sR_rqs (own bl rl t : Int) (a b : List Ld) : sR (rqs own bl rl t a b) = wiS own bl rl a b t := by
  unfold rqs
  rw [sR, sR, sR_app, sR_rqA, sR_rqB, wiS_L]
  unfold pr
  omega
/-- What is requested is of numbers. -/
theorem rqs_fit {own bl rl t : Int} {a b : List Ld} (h : right own bl rl a b = true) (t0 : 0 ≤ t) (t1 : t ≤ 4611686018427387904) : ∀ p ∈ rqs own bl rl t a b, 0 ≤ p.1 ∧ inR p.1 ∧ 0 ≤ p.2 ∧ inR p.2 := by
  obtain ⟨ha, hb, ⟨o0, o1⟩, ⟨b0, b1⟩, r0, r1⟩ := right_iff.1 h
  have hA := (okLs_iff.1 ha).2
  have hB := (okLs_iff.1 hb).2
  intro p hp
  unfold rqs rqA rqB at hp
  simp only [List.mem_cons, List.mem_append, List.mem_map] at hp
  unfold inR
  rcases hp with rfl | rfl | ⟨x, hx, rfl⟩ | ⟨x, hx, rfl⟩
  · dsimp only; omega
  · dsimp only; omega
  · obtain ⟨⟨w0, w1⟩, ⟨p0, p1⟩, j0, j1⟩ := okD_iff.1 (hA x hx)
    have := up_bd (n := t + x.j) (by omega) p0
    dsimp only; omega
  · obtain ⟨⟨w0, w1⟩, ⟨p0, p1⟩, j0, j1⟩ := okD_iff.1 (hB x hx)
    have := up_bd (n := t + x.j) (by omega) p0
    dsimp only; omega
def tS {l : List (Int × Int)} (pre : List {p : Int × Int // p ∈ l}) : Int := sR (pre.map Subtype.val)
theorem tS_snoc {l : List (Int × Int)} (pre : List {p : Int × Int // p ∈ l}) (x : {p : Int × Int // p ∈ l}) : tS (pre ++ [x]) = tS pre + pr x.1 := by
  unfold tS; rw [List.map_append, sR_app]; simp [sR]
theorem tS_all {l : List (Int × Int)} : tS l.attach = sR l := by
  unfold tS; rw [List.attach_map_subtype_val]
theorem tS_le {l : List (Int × Int)} (hf : ∀ p ∈ l, 0 ≤ pr p) {pre : List {p : Int × Int // p ∈ l}} (h : pre <+: l.attach) : tS pre ≤ sR l := by
  obtain ⟨r, e⟩ := h
  rw [← tS_all, ← e]
  unfold tS; rw [List.map_append, sR_app]
  have h9 : ∀ r : List {p : Int × Int // p ∈ l}, 0 ≤ sR (r.map Subtype.val) := fun r => by
    induction r with
    | nil => exact Int.le_refl 0
    | cons x r ih => rw [List.map_cons, sR]; have := hf x.1 x.2; omega
  have := h9 r
  omega
set_option maxRecDepth 100000 in
set_option maxHeartbeats 4000000 in
theorem jwithin_any (own bl rl t : Int) (A : Option Addr) (m c : Nat) (a : List Ld) (B : Option Addr) (k d : Nat) (b : List Ld) (w : World) (hA : RLd w A m a) (hB : RLd w B k b) (hr : right own bl rl a b = true) (t0 : 0 ≤ t) (t1 : t ≤ 4611686018427387904) :
    Calls Try.prog 16 #[jobV own bl rl A m c B k d, .int .i64 t] w fun e w' => e = .returned (.tuple #[.int .i64 (wiV own bl rl a b t), .int .i64 (wiE own bl rl a b t)]) ∧ But No w w' := by
  have HVE := Lib.hid (wi_cases own bl rl a b t)
  have HRT : Hid (right own bl rl a b = true ∧ 0 ≤ t ∧ t ≤ 4611686018427387904) := Lib.hid ⟨hr, t0, t1⟩
  obtain ⟨V, hV⟩ : ∃ V, wiV own bl rl a b t = V := ⟨_, rfl⟩
  obtain ⟨E, hE⟩ : ∃ E : Int, wiE own bl rl a b t = E := ⟨_, rfl⟩
  rw [hV, hE] at HVE ⊢
  rw [← sR_rqs] at HVE
  have HOV : Hid (4611686018427387904 < sR (rqs own bl rl t a b) → 0 = V ∧ 2 = E) := Lib.hid (fun h => by
    rcases HVE.out with ⟨_, _, e⟩ | ⟨_, _, e, v⟩ | ⟨_, e, _⟩
    · exact absurd HRT.out e
    · exact ⟨v.symm, e.symm⟩
    · omega)
  have HGO : Hid (sR (rqs own bl rl t a b) ≤ 4611686018427387904 → sR (rqs own bl rl t a b) = V ∧ 0 = E) := Lib.hid (fun h => by
    rcases HVE.out with ⟨_, _, e⟩ | ⟨_, e, _⟩ | ⟨_, _, e, v⟩
    · exact absurd HRT.out e
    · omega
    · exact ⟨v.symm, e.symm⟩)
  have HFIT := Lib.hid (rqs_fit hr t0 t1)
  have HPP : Hid (∀ p ∈ rqs own bl rl t a b, 0 ≤ pr p) := Lib.hid (fun p hp => by obtain ⟨h1, _, h2, _⟩ := HFIT.out p hp; exact Int.mul_nonneg h1 h2)
  have HOK := Lib.hid (And.intro (okLs_iff.1 (right_iff.1 hr).1).2 (okLs_iff.1 (right_iff.1 hr).2.1).2)
  have HA := Lib.hid hA
  have HB := Lib.hid hB
  have CL := Lib.hid (fun W => req_any own bl rl t A m c B k d W)
  unfold jobV at CL ⊢
  have HI := Lib.hid (IW.start w #[.int .i64 own, .int .i64 bl, .int .i64 rl, .slice A m c, .slice B k d])
  clear hV hE hA hB hr HVE t0 t1
  refine (callsIn_wide (n := 8)).1 ?_
  refine callsIn_of_wp_marks Try.func16 rfl trivial ?_ rfl
  simp only [Try.ntmps16, List.size_toArray, List.length_cons, List.length_nil, Nat.reduceAdd, Nat.reduceSub, Array.replicate_succ, Array.replicate_zero, List.push_toArray, List.append_toArray, List.nil_append, List.cons_append]
  gi_wp2_with (refine ⟨trivial, ?_⟩; gi_at_call 24; refine (callsIn_wide.2 (CL.out _)).mono ?_; rintro e w1 ⟨rfl, rfl⟩)
  have hs4 : ((((w.alloc (.cells #[.int .i64 own, .int .i64 bl, .int .i64 rl, .slice A m c, .slice B k d] 38)).alloc (.cells #[.int .i64 0] 3)).alloc (.cells #[.int .i64 0] 24)).alloc (.cells #[.int .i64 0] 3)).heap.size = w.heap.size + 1 + 1 + 1 + 1 := by simp
  generalize (((w.alloc (.cells #[.int .i64 own, .int .i64 bl, .int .i64 rl, .slice A m c, .slice B k d] 38)).alloc (.cells #[.int .i64 0] 3)).alloc (.cells #[.int .i64 0] 24)).alloc (.cells #[.int .i64 0] 3) = W4 at HI hs4 ⊢
  have HJB : Hid (Blk ((W4.alloc (.cells #[.int .i64 own, .int .i64 bl, .int .i64 rl, .slice A m c, .slice B k d] 38)).alloc (.cells #[.int .i64 t] 3)) (w.heap.size + 1 + 1 + 1 + 1) #[.int .i64 own, .int .i64 bl, .int .i64 rl, .slice A m c, .slice B k d] 38) := Lib.hid (by have := (Blk.new W4 #[.int .i64 own, .int .i64 bl, .int .i64 rl, .slice A m c, .slice B k d] 38).alloc (.cells #[.int .i64 t] 3); rw [hs4] at this; exact this)
  have HJN : Hid (Blk ((W4.alloc (.cells #[.int .i64 own, .int .i64 bl, .int .i64 rl, .slice A m c, .slice B k d] 38)).alloc (.cells #[.int .i64 t] 3)) (w.heap.size + 1 + 1 + 1 + 1 + 1) #[.int .i64 t] 3) := Lib.hid (by have := blk2 W4 (.cells #[.int .i64 own, .int .i64 bl, .int .i64 rl, .slice A m c, .slice B k d] 38) #[.int .i64 t] 3; rw [hs4] at this; exact this)
  have HI := Lib.hid (HI.out.no (((But.refl No W4).alloc (.cells #[.int .i64 own, .int .i64 bl, .int .i64 rl, .slice A m c, .slice B k d] 38)).alloc (.cells #[.int .i64 t] 3)))
  have hsz : w.heap.size + 6 = ((W4.alloc (.cells #[.int .i64 own, .int .i64 bl, .int .i64 rl, .slice A m c, .slice B k d] 38)).alloc (.cells #[.int .i64 t] 3)).heap.size := by simp [hs4]
  generalize (W4.alloc (.cells #[.int .i64 own, .int .i64 bl, .int .i64 rl, .slice A m c, .slice B k d] 38)).alloc (.cells #[.int .i64 t] 3) = W0 at HI HJB HJN hsz ⊢
  clear hs4
  have HSA : Hid (0 < m → ∀ b off, A = some ⟨b, off, none⟩ → ¬ (w.heap.size ≤ b ∧ b ≠ w.heap.size + 1 + 1 + 1 + 1 ∧ b ≠ w.heap.size + 1 + 1 + 1 + 1 + 1)) := Lib.hid (fun h b off e => by obtain ⟨b', off', e', hl, _⟩ := HA.out.at_ h; rw [e] at e'; cases e'; omega)
  have HSB : Hid (0 < k → ∀ b off, B = some ⟨b, off, none⟩ → ¬ (w.heap.size ≤ b ∧ b ≠ w.heap.size + 1 + 1 + 1 + 1 ∧ b ≠ w.heap.size + 1 + 1 + 1 + 1 + 1)) := Lib.hid (fun h b off e => by obtain ⟨b', off', e', hl, _⟩ := HB.out.at_ h; rw [e] at e'; cases e'; omega)
  refine wpIn_rangeFunc_ownH rfl (by omega) (gf := 30) (lb := #[.pointer (some ⟨w.heap.size + 1 + 1 + 1 + 1, 0, none⟩), .pointer (some ⟨w.heap.size + 1 + 1 + 1 + 1 + 1, 0, none⟩)]) rfl trivial (enters_of Try.func30 (by kernel_rfl) rfl)
    (req_stops (8 - 1) (by omega) (w.heap.size + 1 + 1 + 1 + 1) (w.heap.size + 1 + 1 + 1 + 1 + 1) own bl rl t A m c a B k d b W0 (HA.out.no (but_below HI.out.but)) (HB.out.no (but_below HI.out.but)) (fun z => w.heap.size ≤ z ∧ z ≠ w.heap.size + 1 + 1 + 1 + 1 ∧ z ≠ w.heap.size + 1 + 1 + 1 + 1 + 1) HSA.out HSB.out (by omega) (by omega) HOK.out.1 HOK.out.2 HRT.out.2.1 HRT.out.2.2 HJB.out HJN.out) But.trans (fun X l o o' hl ho hc _ => (But.refl _ X).grown (grownBy_putObj' _ l o') (fun z e => by cases e; exact .inl ⟨by omega, by omega, by omega⟩)) (Below.refl _ _) (fun _ => rfl)
    (fun pre W => IW w (tS pre) 0 0 W ∧ 0 ≤ tS pre ∧ tS pre ≤ 4611686018427387904 ∧ W0.heap.size ≤ W.heap.size)
    (fun c pre W => c = .ret ∧ (∃ T, IW w T 0 2 W) ∧ 4611686018427387904 < tS pre)
    (fun s X Y row hs hg hr => ⟨hs.1.turn (by omega) hg hr, hs.2.1, hs.2.2.1, Nat.le_trans hs.2.2.2 hg.size⟩)
    (fun c s X Y row hs hg hr => ⟨hs.1, by obtain ⟨T, h⟩ := hs.2.1; exact ⟨T, h.turn (by omega) hg hr⟩, hs.2.2⟩)
    ⟨HI.out, by simp [tS, sR], by simp [tS, sR], Nat.le_refl _⟩
    (fun x a' W => a' = { tmps := #[.agg #[.int .i64 own, .int .i64 bl, .int .i64 rl, .slice A m c, .slice B k d], .int .i64 t, .pointer (some ⟨w.heap.size, 0, none⟩), undef, .pointer (some ⟨w.heap.size + 1, 0, none⟩), .pointer (some ⟨w.heap.size + 1 + 1, 0, none⟩), .pointer (some ⟨w.heap.size + 1 + 1 + 1, 0, none⟩), .int .i64 x.1.1, .int .i64 x.1.2, undef, undef, .agg #[.int .i64 own, .int .i64 bl, .int .i64 rl, .slice A m c, .slice B k d], .int .i64 t, .func (.func 30) #[] #[.pointer (some ⟨w.heap.size + 1 + 1 + 1 + 1, 0, none⟩), .pointer (some ⟨w.heap.size + 1 + 1 + 1 + 1 + 1, 0, none⟩)], .int .i64 x.1.1, .int .i64 x.1.2, undef, undef, undef, undef, undef, undef, undef, undef, undef, undef, undef, undef, undef, undef, undef, undef, undef, undef], defers := [] })
    (fun x a' _ X Y row hs hg hr => hs)
    ?assign ?body ?done ?stop
  case assign =>
    rintro lp pre x W K hI hK
    gi_wp2
    exact hK _ _ (KeepsFrom.refl _ _) (But.refl _ _) hI rfl
  case body =>
    rintro lp pre x a' W hl ⟨r, hr⟩ ⟨hi, hp0, hp1, hpz⟩ rfl hlt
    obtain ⟨hx0, hx1, hx2, hx3⟩ := HFIT.out x.1 x.2
    have CM : Hid (∀ W, Calls Try.prog 25 #[.int .i64 x.1.1, .int .i64 x.1.2] W fun e w' => e = .returned (.tuple #[.int .i64 (qar.exV (pr x.1)), .int .i64 (qar.exE (pr x.1))]) ∧ But No W w') := Lib.hid (fun W => (qar.mul_any x.1.1 x.1.2 hx1 hx3 W).mono fun e w' h => ⟨h.1, h.2.butNo⟩)
    have hy0 : 0 ≤ pr x.1 := HPP.out x.1 x.2
    have HSN := Lib.hid (tS_snoc pre x)
    have HBZ := Lib.hid hi.but.size
    generalize tS pre = S at hi hp0 hp1 HSN
    generalize pr x.1 = y at CM hy0 HSN
    clear hr hlt hl hx0 hx1 hx2 hx3
    have h1' : 1 ≤ 8 - 1 - 1 := by omega
    by_cases hy : 9223372036854775807 < y
    · rw [qar.exV_out (show ¬ inR y by unfold inR; omega), qar.exE_out (show ¬ inR y by unfold inR; omega)] at CM
      gi_wp2_with (refine ⟨trivial, ?_⟩; gi_at_call 25; refine (CallsIn.inRound lp (callsIn_wide.2 (CM.out W))).mono ?_; rintro e w1 ⟨rfl, hb1⟩; have hi1 := hi.no hb1; have c1 := hi1.b1.cell (o := 0) rfl; have g1 := hi1.b1.frozen 0; have c2 := hi1.b2.cell (o := 0) rfl; have g2 := hi1.b2.frozen 0; have c3 := hi1.b3.cell (o := 0) rfl; have g3 := hi1.b3.frozen 0; have HI1 := Lib.hid hi1; have HB1 := Lib.hid hb1; clear hi1 hb1)
      refine ⟨(((keeps_but HB1.out).trans (KeepsOthers.setCell _ _ _)).trans (KeepsOthers.setCell _ _ _)).from _, rfl, ⟨S, HI1.out.res 0 2⟩, by rw [HSN.out]; omega⟩
    · rw [qar.exV_in (show inR y by unfold inR; omega), qar.exE_in (show inR y by unfold inR; omega)] at CM
      by_cases h9 : 4611686018427387904 - S < y
      · have q9 : decide (4611686018427387904 - S < y) = true := by simp [h9]
        gi_wp2_with (refine ⟨trivial, ?_⟩; gi_at_call 25; refine (CallsIn.inRound lp (callsIn_wide.2 (CM.out W))).mono ?_; rintro e w1 ⟨rfl, hb1⟩; have hi1 := hi.no hb1; have c1 := hi1.b1.cell (o := 0) rfl; have g1 := hi1.b1.frozen 0; have c2 := hi1.b2.cell (o := 0) rfl; have g2 := hi1.b2.frozen 0; have c3 := hi1.b3.cell (o := 0) rfl; have g3 := hi1.b3.frozen 0; have HI1 := Lib.hid hi1; have HB1 := Lib.hid hb1; clear hi1 hb1)
        refine ⟨(((keeps_but HB1.out).trans (KeepsOthers.setCell _ _ _)).trans (KeepsOthers.setCell _ _ _)).from _, rfl, ⟨S, HI1.out.res 0 2⟩, by rw [HSN.out]; omega⟩
      · have q9 : decide (4611686018427387904 - S < y) = false := by simp; omega
        have hs9 : 0 ≤ S + y ∧ S + y ≤ 4611686018427387904 := by omega
        gi_wp2_with (refine ⟨trivial, ?_⟩; gi_at_call 25; refine (CallsIn.inRound lp (callsIn_wide.2 (CM.out W))).mono ?_; rintro e w1 ⟨rfl, hb1⟩; have hi1 := hi.no hb1; have c1 := hi1.b1.cell (o := 0) rfl; have g1 := hi1.b1.frozen 0; have c2 := hi1.b2.cell (o := 0) rfl; have g2 := hi1.b2.frozen 0; have c3 := hi1.b3.cell (o := 0) rfl; have g3 := hi1.b3.frozen 0; have HI1 := Lib.hid hi1; have HB1 := Lib.hid hb1; clear hi1 hb1)
        refine ⟨((keeps_but HB1.out).trans (KeepsOthers.setCell _ _ _)).from _, HB1.out.no.setCell (p := ⟨w.heap.size + 1 + 1 + 1, 0, none⟩) (by dsimp only; omega) _, by rw [HSN.out]; exact HI1.out.set (S + y), by rw [HSN.out]; omega, by rw [HSN.out]; omega, ?_⟩
        have := HB1.out.size
        simp; omega
  case done =>
    rintro D ys W hD rfl ⟨hi, hp0, hp1, hpz⟩ hK
    rw [tS_all] at hi hp0 hp1
    have HV := Lib.hid (HGO.out hp1)
    have hS : sR (rqs own bl rl t a b) = V := HV.out.1
    rw [hS] at hi hp0 hp1
    clear hS
    obtain rfl := HV.out.2
    have c1 := hi.b1.cell (o := 0) rfl
    have g1 := hi.b1.frozen 0
    have c2 := hi.b2.cell (o := 0) rfl
    have g2 := hi.b2.frozen 0
    have c3 := hi.b3.cell (o := 0) rfl
    have hi2 := hi.res V 0
    have hK2 := ((KeepsOthers.setCell W ⟨w.heap.size + 1, 0, none⟩ (.int .i64 V)).trans (KeepsOthers.setCell (W.setCell ⟨w.heap.size + 1, 0, none⟩ (.int .i64 V)) ⟨w.heap.size + 1 + 1, 0, none⟩ (.int .i64 0))).same D _ hK rfl
    have hi3 := hi2.turn (B := W0.heap.size) (by omega) (grownBy_putObj' _ D (.deferred none)) (fun r e => by cases e; exact ⟨hD, _, hK2, rfl⟩)
    have r6 := hi3.b1.cell (o := 0) rfl
    have r7 := hi3.b2.cell (o := 0) rfl
    gi_wp2
    refine ⟨by simp, .inl ⟨_, _, rfl, run_takeDeferred hK2, ?_⟩⟩
    exact ⟨.tuple #[.int .i64 V, .int .i64 0], by simp [results, Try.results16, go_sem, r6, r7], rfl, but_below hi3.but⟩
  case stop =>
    rintro D c' pre W hD hp ⟨rfl, ⟨T, hi⟩, hgt⟩ hK
    have hle := tS_le HPP.out hp
    have HV := Lib.hid (HOV.out (by omega))
    obtain rfl := HV.out.1
    obtain rfl := HV.out.2
    have hi3 := hi.turn (B := W0.heap.size) (by omega) (grownBy_putObj' _ D (.deferred none)) (fun r e => by cases e; exact ⟨hD, _, hK, rfl⟩)
    have r6 := hi3.b1.cell (o := 0) rfl
    have r7 := hi3.b2.cell (o := 0) rfl
    gi_wp2
    refine ⟨by simp, .inl ⟨_, _, rfl, run_takeDeferred hK, ?_⟩⟩
    exact ⟨.tuple #[.int .i64 0, .int .i64 2], by simp [results, Try.results16, go_sem, r6, r7], rfl, but_below hi3.but⟩
end Go.Proofs.Ytnjkgalbbhmgjaa.rsp
