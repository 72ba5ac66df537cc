/- The contract of the program's own right (chapter 16): a range over the loads of both lists. -/
import Derived.Test.YtnjkgalbbhmgjaaReC2
namespace Go.Proofs.Ytnjkgalbbhmgjaa.rsp
open Go.ChangeShapes Go.WideShapes Go.ChangeAt Go.RowKit Go.Deep Go.Shelf
attribute [local go_sem] Oper.semAt_some
theorem blk_turn {W W' : World} {row : Option Nat} {b : Nat} {cur : Array Value} {e : TypeId} (h : Blk W b cur e) (hg : W.grownBy W' row) (hr : ∀ r, row = some r → ∃ o : Obj, W.heap[r]? = some o ∧ o.isCells = false) : Blk W' b cur e := by
  refine (hg.block b h.lt (fun e' => ?_)).trans h
  obtain ⟨o, ho, hc⟩ := hr b e'.symm
  rw [show W.heap[b]? = _ from h] at ho; cases ho; cases hc
/-- The result's box. -/
structure IR (w : World) (r : Bool) (W : World) : Prop where
  b1 : Blk W (w.heap.size + 1) #[.bool r] 4
  but : Below w.heap.size w W
theorem IR.no {w W W' : World} {r : Bool} (h : IR w r W) (hb : But No W W') : IR w r W' :=
  ⟨h.b1.but hb (fun f => f), h.but.trans (below_but hb h.but.size)⟩
theorem IR.turn {w W W' : World} {row : Option Nat} {B : Nat} {r : Bool} (h : IR w r W) (hB : w.heap.size ≤ B) (hg : W.grownBy W' row) (hr : ∀ r, row = some r → B ≤ r ∧ ∃ o : Obj, W.heap[r]? = some o ∧ o.isCells = false) : IR w r W' :=
  ⟨blk_turn h.b1 hg (fun k e => (hr k e).2), h.but.grown hg h.but.size (fun k e => Nat.le_trans hB (hr k e).1)⟩
theorem IR.res {w W : World} {r : Bool} (h : IR w r W) (a : Bool) : IR w a (W.setCell ⟨w.heap.size + 1, 0, none⟩ (.bool a)) :=
  ⟨h.b1.set 0 _, h.but.setCell (p := ⟨w.heap.size + 1, 0, none⟩) (by show w.heap.size ≤ w.heap.size + 1; omega) _⟩
theorem IR.start (w : World) (cs cs' : Array Value) : IR w false (((w.alloc (.cells cs 38)).alloc (.cells #[.bool false] 4)).alloc (.cells cs' 38)) :=
  ⟨(blk2 w _ _ _).alloc _, below_but ((((But.refl No w).alloc _).alloc _).alloc _) (Nat.le_refl _)⟩
theorem okAll_app {a b : List Ld} : (∀ x ∈ a ++ b, okD x = true) → (∀ x ∈ a, okD x = true) ∧ ∀ x ∈ b, okD x = true := fun h => ⟨fun x hx => h x (by simp [hx]), fun x hx => h x (by simp [hx])⟩
set_option maxRecDepth 100000 in
set_option maxHeartbeats 4000000 in
theorem jright_any (own bl rl : Int) (A : Option Addr) (m c : Nat) (a : List Ld) (B : Option Addr) (k d : Nat) (b : List Ld) (w : World) (hA : RLd w A m a) (hB : RLd w B k b) :
    Calls Try.prog 15 #[jobV own bl rl A m c B k d] w fun e w' => e = .returned (.bool (right own bl rl a b)) ∧ But No w w' := by
  have HR : Hid (∀ g, right own bl rl a b = g → right own bl rl a b = g) := Lib.hid (fun _ h => h)
  have HNA := Lib.hid hA.len
  have HNB := Lib.hid hB.len
  have HA := Lib.hid hA
  have HB := Lib.hid hB
  have hmA := hA.max
  have hmB := hB.max
  have C0 : Hid (∀ W, Calls Try.prog 20 #[.int .i64 0, .int .i64 own] W fun e w' => e = .returned (.bool (inT 0 own)) ∧ w' = W) := Lib.hid (fun W => inside_any 0 own W)
  have C1 : Hid (∀ W, Calls Try.prog 20 #[.int .i64 0, .int .i64 bl] W fun e w' => e = .returned (.bool (inT 0 bl)) ∧ w' = W) := Lib.hid (fun W => inside_any 0 bl W)
  have C2 : Hid (∀ W, Calls Try.prog 20 #[.int .i64 0, .int .i64 rl] W fun e w' => e = .returned (.bool (inT 0 rl)) ∧ w' = W) := Lib.hid (fun W => inside_any 0 rl W)
  have hc1 := (blk2 w (.cells #[.int .i64 own, .int .i64 bl, .int .i64 rl, .slice A m c, .slice B k d] 38) #[.bool false] 4).cell (o := 0) rfl
  have hbut : But No w ((w.alloc (.cells #[.int .i64 own, .int .i64 bl, .int .i64 rl, .slice A m c, .slice B k d] 38)).alloc (.cells #[.bool false] 4)) := ((But.refl No w).alloc _).alloc _
  have CL := Lib.hid (fun W => jloads_any own bl rl A m c B k d W)
  unfold jobV at CL ⊢
  clear hA hB
  cases g0 : inT 0 own with
  | false =>
    have HE : Hid (right own bl rl a b = false) := Lib.hid (by unfold right; rw [g0]; simp)
    rw [g0] at C0; clear g0
    rw [HE.out]
    go_enter Try.func15, Try.ntmps15
    go_wp2_with (go_at_call 20; first | ((with_reducible refine (C0.out _).mono ?_); rintro e w1 ⟨rfl, rfl⟩) | ((with_reducible refine (C1.out _).mono ?_); rintro e w1 ⟨rfl, rfl⟩) | ((with_reducible refine (C2.out _).mono ?_); rintro e w1 ⟨rfl, rfl⟩))
    refine bodyPost_ret (v := .bool false) (by simp [results, Try.results15, go_sem, hc1]) rfl ?_
    exact ⟨rfl, hbut⟩
  | true =>
    cases g1 : inT 0 bl with
    | false =>
      have HE : Hid (right own bl rl a b = false) := Lib.hid (by unfold right; rw [g1]; simp)
      rw [g0] at C0; rw [g1] at C1; clear g0 g1
      rw [HE.out]
      go_enter Try.func15, Try.ntmps15
      go_wp2_with (go_at_call 20; first | ((with_reducible refine (C0.out _).mono ?_); rintro e w1 ⟨rfl, rfl⟩) | ((with_reducible refine (C1.out _).mono ?_); rintro e w1 ⟨rfl, rfl⟩) | ((with_reducible refine (C2.out _).mono ?_); rintro e w1 ⟨rfl, rfl⟩))
      refine bodyPost_ret (v := .bool false) (by simp [results, Try.results15, go_sem, hc1]) rfl ?_
      exact ⟨rfl, hbut⟩
    | true =>
      cases g2 : inT 0 rl with
      | false =>
        have HE : Hid (right own bl rl a b = false) := Lib.hid (by unfold right; rw [g2]; simp)
        rw [g0] at C0; rw [g1] at C1; rw [g2] at C2; clear g0 g1 g2
        rw [HE.out]
        go_enter Try.func15, Try.ntmps15
        go_wp2_with (go_at_call 20; first | ((with_reducible refine (C0.out _).mono ?_); rintro e w1 ⟨rfl, rfl⟩) | ((with_reducible refine (C1.out _).mono ?_); rintro e w1 ⟨rfl, rfl⟩) | ((with_reducible refine (C2.out _).mono ?_); rintro e w1 ⟨rfl, rfl⟩))
        refine bodyPost_ret (v := .bool false) (by simp [results, Try.results15, go_sem, hc1]) rfl ?_
        exact ⟨rfl, hbut⟩
      | true =>
        by_cases hm : 72 < m
        · have HE : Hid (right own bl rl a b = false) := Lib.hid (by unfold right okLs; rw [HNA.out, show decide (m ≤ 72) = false by simp; omega]; simp)
          have q1 : decide ((72 : Int) < (m : Int)) = true := by simp; omega
          rw [g0] at C0; rw [g1] at C1; rw [g2] at C2; clear g0 g1 g2
          rw [HE.out]
          go_enter Try.func15, Try.ntmps15
          go_wp2_with (go_at_call 20; first | ((with_reducible refine (C0.out _).mono ?_); rintro e w1 ⟨rfl, rfl⟩) | ((with_reducible refine (C1.out _).mono ?_); rintro e w1 ⟨rfl, rfl⟩) | ((with_reducible refine (C2.out _).mono ?_); rintro e w1 ⟨rfl, rfl⟩))
          refine bodyPost_ret (v := .bool false) (by simp [results, Try.results15, go_sem, hc1]) rfl ?_
          exact ⟨rfl, hbut⟩
        · by_cases hk : 72 < k
          · have HE : Hid (right own bl rl a b = false) := Lib.hid (by unfold right okLs; rw [HNB.out, show decide (k ≤ 72) = false by simp; omega]; simp)
            have q1 : decide ((72 : Int) < (m : Int)) = false := by simp; omega
            have q2 : decide ((72 : Int) < (k : Int)) = true := by simp; omega
            rw [g0] at C0; rw [g1] at C1; rw [g2] at C2; clear g0 g1 g2
            rw [HE.out]
            go_enter Try.func15, Try.ntmps15
            go_wp2_with (go_at_call 20; first | ((with_reducible refine (C0.out _).mono ?_); rintro e w1 ⟨rfl, rfl⟩) | ((with_reducible refine (C1.out _).mono ?_); rintro e w1 ⟨rfl, rfl⟩) | ((with_reducible refine (C2.out _).mono ?_); rintro e w1 ⟨rfl, rfl⟩))
            refine bodyPost_ret (v := .bool false) (by simp [results, Try.results15, go_sem, hc1]) rfl ?_
            exact ⟨rfl, hbut⟩
          · have q1 : decide ((72 : Int) < (m : Int)) = false := by simp; omega
            have q2 : decide ((72 : Int) < (k : Int)) = false := by simp; omega
            have HI := Lib.hid (IR.start w #[.int .i64 own, .int .i64 bl, .int .i64 rl, .slice A m c, .slice B k d] #[.int .i64 own, .int .i64 bl, .int .i64 rl, .slice A m c, .slice B k d])
            have HJB := Lib.hid (Blk.new ((w.alloc (.cells #[.int .i64 own, .int .i64 bl, .int .i64 rl, .slice A m c, .slice B k d] 38)).alloc (.cells #[.bool false] 4)) #[.int .i64 own, .int .i64 bl, .int .i64 rl, .slice A m c, .slice B k d] 38)
            have hsz : w.heap.size + 3 = (((w.alloc (.cells #[.int .i64 own, .int .i64 bl, .int .i64 rl, .slice A m c, .slice B k d] 38)).alloc (.cells #[.bool false] 4)).alloc (.cells #[.int .i64 own, .int .i64 bl, .int .i64 rl, .slice A m c, .slice B k d] 38)).heap.size := by simp
            have HTRUE : Hid ((∀ x ∈ a ++ b, okD x = true) → right own bl rl a b = true) := Lib.hid (fun h => by
              obtain ⟨h1, h2⟩ := okAll_app h
              exact right_iff.2 ⟨okLs_iff.2 ⟨by rw [HNA.out]; omega, h1⟩, okLs_iff.2 ⟨by rw [HNB.out]; omega, h2⟩, inT_true.1 g0, inT_true.1 g1, inT_true.1 g2⟩)
            have HFALSE : Hid (∀ x ∈ a ++ b, okD x = false → right own bl rl a b = false) := Lib.hid (fun x hx h => by
              cases e : right own bl rl a b with
              | false => rfl
              | true =>
                have h1 := (okLs_iff.1 (right_iff.1 e).1).2
                have h2 := (okLs_iff.1 (right_iff.1 e).2.1).2
                rcases List.mem_append.1 hx with g | g
                · rw [h1 x g] at h; cases h
                · rw [h2 x g] at h; cases h)
            obtain ⟨V, hV⟩ : ∃ V, right own bl rl a b = V := ⟨_, rfl⟩
            rw [hV] at HTRUE HFALSE ⊢
            rw [g0] at C0
            rw [g1] at C1
            rw [g2] at C2
            clear g0 g1 g2 hV hm hk hc1 hbut
            refine (callsIn_wide (n := 8)).1 ?_
            refine callsIn_of_wp_marks Try.func15 rfl trivial ?_ rfl
            simp only [Try.ntmps15, List.size_toArray, List.length_cons, List.length_nil, Nat.reduceAdd, Nat.reduceSub, Array.replicate_succ, Array.replicate_zero, List.push_toArray, List.append_toArray, List.nil_append, List.cons_append]
            gi_wp2_with (first | (refine ⟨trivial, ?_⟩; gi_at_call 20; first | ((with_reducible refine (callsIn_wide.2 (C0.out _)).mono ?_); rintro e w1 ⟨rfl, rfl⟩) | ((with_reducible refine (callsIn_wide.2 (C1.out _)).mono ?_); rintro e w1 ⟨rfl, rfl⟩) | ((with_reducible refine (callsIn_wide.2 (C2.out _)).mono ?_); rintro e w1 ⟨rfl, rfl⟩)) | (refine ⟨trivial, ?_⟩; gi_at_call 22; refine (callsIn_wide.2 (CL.out _)).mono ?_; rintro e w1 ⟨rfl, rfl⟩))
            rw [show ((w.alloc (.cells #[.int .i64 own, .int .i64 bl, .int .i64 rl, .slice A m c, .slice B k d] 38)).alloc (.cells #[.bool false] 4)).heap.size = w.heap.size + 1 + 1 by simp] at HJB
            generalize ((w.alloc (.cells #[.int .i64 own, .int .i64 bl, .int .i64 rl, .slice A m c, .slice B k d] 38)).alloc (.cells #[.bool false] 4)).alloc (.cells #[.int .i64 own, .int .i64 bl, .int .i64 rl, .slice A m c, .slice B k d] 38) = W0 at HI HJB hsz ⊢
            have h3 := HJB.out.cell (o := 3) rfl
            have h4 := HJB.out.cell (o := 4) rfl
            have H34 := Lib.hid (And.intro h3 h4)
            clear h3 h4
            refine wpIn_rangeFunc_ownH rfl (by omega) (gf := 29) (lb := #[.pointer (some ⟨w.heap.size + 1 + 1, 0, none⟩)]) rfl trivial (enters_of Try.func29 (by kernel_rfl) rfl)
              (loads_stops Fence.wide (8 - 1) trivial rfl (by omega) (w.heap.size + 1 + 1) A m c a B k d b w W0 HA.out HB.out (but_below HI.out.but) H34.out.1 H34.out.2) belowK_t (belowK_b (by omega)) (Below.refl _ _) (fun _ => rfl)
              (fun pre W => IR w false W ∧ (∀ x ∈ pre, okD x.1 = true) ∧ W0.heap.size ≤ W.heap.size)
              (fun c pre W => c = .ret ∧ IR w false W ∧ V = false)
              (fun s X Y row hs hg hr => ⟨hs.1.turn (by omega) hg hr, hs.2.1, Nat.le_trans hs.2.2 hg.size⟩)
              (fun c s X Y row hs hg hr => ⟨hs.1, hs.2.1.turn (by omega) hg hr, hs.2.2⟩)
              ⟨HI.out, by simp, Nat.le_refl _⟩
              (fun x a' W => ∃ Bx, W0.heap.size ≤ Bx ∧ Blk W Bx #[.int .i64 x.1.w, .int .i64 x.1.p, .int .i64 x.1.j] 33 ∧ a' = { tmps := #[.agg #[.int .i64 own, .int .i64 bl, .int .i64 rl, .slice A m c, .slice B k d], .pointer (some ⟨w.heap.size, 0, none⟩), .pointer (some ⟨w.heap.size + 1, 0, none⟩), .pointer (some ⟨Bx, 0, none⟩), .pointer (some ⟨w.heap.size, 0, none⟩), .int .i64 own, .bool true, .bool false, .bool false, .pointer (some ⟨w.heap.size, 1, none⟩), .int .i64 bl, .bool true, .bool false, .bool false, .bool false, .pointer (some ⟨w.heap.size, 2, none⟩), .int .i64 rl, .bool true, .bool false, .bool false, .pointer (some ⟨w.heap.size, 3, none⟩), .slice A m c, .int .i64 (m : Int), .bool false, .bool false, .pointer (some ⟨w.heap.size, 4, none⟩), .slice B k d, .int .i64 (k : Int), .bool false, .bool false, .agg #[.int .i64 own, .int .i64 bl, .int .i64 rl, .slice A m c, .slice B k d], .func (.func 29) #[] #[.pointer (some ⟨w.heap.size + 1 + 1, 0, none⟩)], .agg #[.int .i64 x.1.w, .int .i64 x.1.p, .int .i64 x.1.j], undef, undef, undef], defers := [] })
              (fun x a' _ X Y row hs hg hr => by obtain ⟨Bx, h1, h2, h3⟩ := hs; exact ⟨Bx, h1, blk_turn h2 hg (fun r e => (hr r e).2), h3⟩)
              ?assign ?body ?done ?stop
            case assign =>
              rintro lp pre x W K ⟨hi, hp, hpz⟩ hK
              unfold ldV
              gi_wp2
              have hb : But No W (W.alloc (.cells #[.int .i64 x.1.w, .int .i64 x.1.p, .int .i64 x.1.j] 33)) := (But.refl No W).alloc _
              exact hK _ _ ((keeps_but hb).from _) (below_but hb hi.but.size) ⟨hi.no hb, hp, Nat.le_trans hpz hb.size⟩ ⟨W.heap.size, hpz, Blk.new W _ _, rfl⟩
            case body =>
              rintro lp pre x a' W hl ⟨r, hr⟩ ⟨hi, hp, hpz⟩ ⟨Bx, hBx, hX, rfl⟩ hlt
              have CF := Lib.hid (ldright_any x.1 W)
              have hx0 := hX.cell (o := 0) rfl
              have hx1 := hX.cell (o := 1) rfl
              have hx2 := hX.cell (o := 2) rfl
              have HX := Lib.hid x.2
              unfold ldV at CF
              clear hr hlt hl hX
              have h1' : 1 ≤ 8 - 1 - 1 := by omega
              cases hy : okD x.1 with
              | false =>
                have HVF := Lib.hid (HFALSE.out x.1 HX.out hy)
                rw [hy] at CF
                clear hy
                gi_wp2_with (refine ⟨trivial, ?_⟩; gi_at_call 23; refine (CallsIn.inRound lp (callsIn_wide.2 CF.out)).mono ?_; rintro e w1 ⟨rfl, hb1⟩; have hi1 := hi.no hb1; have c3 := hi1.b1.cell (o := 0) rfl; have g3 := hi1.b1.frozen 0; have HI1 := Lib.hid hi1; have HB1 := Lib.hid hb1; clear hi1 hb1)
                refine ⟨((keeps_but HB1.out).trans (KeepsOthers.setCell _ _ _)).from _, rfl, HI1.out.res false, HVF.out⟩
              | true =>
                have HY := Lib.hid hy
                rw [hy] at CF
                clear hy
                gi_wp2_with (refine ⟨trivial, ?_⟩; gi_at_call 23; refine (CallsIn.inRound lp (callsIn_wide.2 CF.out)).mono ?_; rintro e w1 ⟨rfl, hb1⟩; have HI1 := Lib.hid (hi.no hb1); have HB1 := Lib.hid hb1; clear hb1)
                refine ⟨(keeps_but HB1.out).from _, below_but HB1.out hi.but.size, HI1.out, ?_, Nat.le_trans hpz HB1.out.size⟩
                intro y hy
                rcases List.mem_append.1 hy with g | g
                · exact hp y g
                · rw [List.mem_singleton.1 g]; exact HY.out
            case done =>
              rintro D ys W hD rfl ⟨hi, hp, hpz⟩ hK
              have HV : Hid (V = true) := Lib.hid (HTRUE.out (fun x hx => hp ⟨x, hx⟩ (List.mem_attach _ _)))
              obtain rfl := HV.out
              have c3 := hi.b1.cell (o := 0) rfl
              have g3 := hi.b1.frozen 0
              have hi2 := hi.res true
              have hK2 := (KeepsOthers.setCell W ⟨w.heap.size + 1, 0, none⟩ (.bool true)).same D _ hK rfl
              have hi3 := hi2.turn (B := W0.heap.size) (by omega) (grownBy_putObj' _ D (.deferred none)) (fun r e => by cases e; exact ⟨hD, _, hK2, rfl⟩)
              have r6 := hi3.b1.cell (o := 0) rfl
              gi_wp2
              refine ⟨by simp, .inl ⟨_, _, rfl, run_takeDeferred hK2, ?_⟩⟩
              exact ⟨.bool true, by simp [results, Try.results15, go_sem, r6], rfl, but_below hi3.but⟩
            case stop =>
              rintro D c' pre W hD hp ⟨rfl, hi, rfl⟩ hK
              have hi3 := hi.turn (B := W0.heap.size) (by omega) (grownBy_putObj' _ D (.deferred none)) (fun r e => by cases e; exact ⟨hD, _, hK, rfl⟩)
              have r6 := hi3.b1.cell (o := 0) rfl
              gi_wp2
              refine ⟨by simp, .inl ⟨_, _, rfl, run_takeDeferred hK, ?_⟩⟩
              exact ⟨.bool false, by simp [results, Try.results15, go_sem, r6], rfl, but_below hi3.but⟩
end Go.Proofs.Ytnjkgalbbhmgjaa.rsp
