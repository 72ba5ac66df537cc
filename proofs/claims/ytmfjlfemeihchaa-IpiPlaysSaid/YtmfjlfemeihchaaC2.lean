/- The contract of inserted. -/
import Derived.Test.YtmfjlfemeihchaaC1
namespace Go.Proofs.Ytmfjlfemeihchaa
open Go.ChangeShapes Go.WideShapes Go.ChangeAt Go.RowKit Go.Deep
theorem ahead_is (a b : Nt) (r : Bool) (h : ahB a b = r) (w : World) :
    Calls Try.prog 23 #[noteV a.task a.due a.turn, noteV b.task b.due b.turn] w fun e w' => e = .returned (.bool r) ∧ But No w w' := h ▸ ahead_any a b w
/-- K with x at j. -/
def at_ (K : List Nt) (x : Nt) (j : Nat) : List Nt := K.take j ++ x :: K.drop j
theorem at_len {K : List Nt} {x : Nt} {j : Nat} (h : j ≤ K.length) : (at_ K x j).length = K.length + 1 := by
  unfold at_; simp; omega
theorem at_all (K : List Nt) (x : Nt) : at_ K x K.length = K ++ [x] := by unfold at_; simp
theorem at_here {K : List Nt} {x : Nt} {j : Nat} (h : j ≤ K.length) : (at_ K x j).getD j nt0 = x := by
  unfold at_
  rw [List.getD_eq_getElem?_getD, List.getElem?_append_right (by simp; omega)]
  simp [Nat.min_eq_left h]
theorem at_before {K : List Nt} {x : Nt} {j i : Nat} (h : j ≤ K.length) (hi : i < j) : (at_ K x j).getD i nt0 = K.getD i nt0 := by
  unfold at_
  rw [List.getD_eq_getElem?_getD, List.getElem?_append_left (by simp; omega), List.getElem?_take, if_pos hi, ← List.getD_eq_getElem?_getD]
theorem at_step {K : List Nt} {x : Nt} {j : Nat} (h : j + 1 ≤ K.length) : ((at_ K x (j + 1)).set (j + 1) (K.getD j nt0)).set j x = at_ K x j := by
  apply List.ext_getElem?
  intro i
  have hl : K.length + 1 = (at_ K x (j + 1)).length := (at_len h).symm
  rw [List.getElem?_set, List.getElem?_set]
  unfold at_
  simp only [List.length_set, List.length_append, List.length_take, List.length_cons, List.length_drop]
  have e : K.getD j nt0 = K[j] := by rw [List.getD_eq_getElem?_getD, List.getElem?_eq_getElem (by omega)]; rfl
  by_cases h1 : j = i
  · subst h1
    rw [if_pos rfl, if_pos (by omega), List.getElem?_append_right (by simp; omega)]
    simp [Nat.min_eq_left (show j ≤ K.length by omega)]
  · rw [if_neg h1]
    by_cases h2 : j + 1 = i
    · subst h2
      rw [if_pos rfl, if_pos (by omega), List.getElem?_append_right (by simp; omega), e]
      simp only [List.length_take, Nat.min_eq_left (show j ≤ K.length by omega)]
      rw [show j + 1 - j = 0 + 1 by omega, List.getElem?_cons_succ, List.getElem?_drop]
      simp
    · rw [if_neg h2]
      by_cases h3 : i < j
      · rw [List.getElem?_append_left (by simp; omega), List.getElem?_append_left (by simp; omega), List.getElem?_take, List.getElem?_take, if_pos (by omega), if_pos (by omega)]
      · rw [List.getElem?_append_right (by simp; omega), List.getElem?_append_right (by simp; omega)]
        simp only [List.length_take, Nat.min_eq_left (show j ≤ K.length by omega), Nat.min_eq_left h]
        obtain ⟨d, rfl⟩ : ∃ d, i = j + 2 + d := ⟨i - (j + 2), by omega⟩
        rw [show j + 2 + d - (j + 1) = d + 1 by omega, show j + 2 + d - j = (d + 1) + 1 by omega, List.getElem?_cons_succ, List.getElem?_cons_succ, List.getElem?_drop, List.getElem?_drop]
        congr 1; omega
/-- What a call of inserted leaves. -/
def InsEnd (w : World) (v : Value) (K : List Nt) (x : Nt) (v' : Value) (w' : World) : Prop :=
  OvP w' v' (ins x K) ∧ But (fun k => v.ownBlock = some k) w w' ∧ ∀ k, v'.ownBlock = some k → v.ownBlock = some k ∨ w.heap.size ≤ k
/-- The row while x goes ahead: it stands at j. -/
structure IL (w wx : World) (v : Value) (g d : Nat) (K : List Nt) (x : Nt) (j : Nat) : Prop where
  o : OvP wx (.slice (some ⟨g, 0, none⟩) (K.length + 1) d) (at_ K x j)
  up : ∀ i, j ≤ i → i < K.length → ahB x (K.getD i nt0) = true
  but : But (fun k => v.ownBlock = some k) w wx
  new : v.ownBlock = some g ∨ w.heap.size ≤ g
  ne : w.heap.size ≠ g
  box : Blk wx w.heap.size #[.int .i64 x.task, .int .i64 x.due, .int .i64 x.turn] 50
theorem IL.no {w wx wy : World} {v : Value} {g d : Nat} {K : List Nt} {x : Nt} {j : Nat} (h : IL w wx v g d K x j) (hb : But No wx wy) : IL w wy v g d K x j :=
  ⟨h.o.no hb, h.up, h.but.trans hb.no, h.new, h.ne, h.box.but hb (fun f => f)⟩
theorem IL.end_ {w wx : World} {v : Value} {g d : Nat} {K : List Nt} {x : Nt} {j : Nat} (h : IL w wx v g d K x j) (hs : Srt K) (hj : j ≤ K.length) (hn : 0 < j → ¬ ahB x (K.getD (j - 1) nt0) = true) : InsEnd w v K x (.slice (some ⟨g, 0, none⟩) (K.length + 1) d) wx := by
  refine ⟨?_, h.but, fun k e => ?_⟩
  · rw [← ins_place hs hj h.up hn]; exact h.o
  · have e' : k = g := by simpa [Value.ownBlock] using e.symm
    rw [e']; exact h.new
theorem InsEnd.no {w wx wy : World} {v v' : Value} {K : List Nt} {x : Nt} (h : InsEnd w v K x v' wx) (hb : But No wx wy) : InsEnd w v K x v' wy :=
  ⟨h.1.no hb, h.2.1.trans hb.no, h.2.2⟩
theorem IL.step {w wx : World} {v : Value} {g d : Nat} {K : List Nt} {x : Nt} {j : Nat} (h : IL w wx v g d K x (j + 1)) (hj : j + 1 ≤ K.length) {y : Nt} (hy : K.getD j nt0 = y) (ha : ahB x y = true) :
    IL w (put3 (put3 wx g (j + 1) y.task y.due y.turn) g j x.task x.due x.turn) v g d K x j := by
  have o1 := (h.o.set (k := j + 1) (by rw [at_len hj]; omega) y).set (k := j) (by rw [List.length_set, at_len hj]; omega) x
  have hb : But (Just g) wx (put3 (put3 wx g (j + 1) y.task y.due y.turn) g j x.task x.due x.turn) := ((But.refl _ wx).put3 (just g) _ _ _ _).put3 (just g) _ _ _ _
  refine ⟨?_, fun i hi hl => ?_, ?_, h.new, h.ne, h.box.but hb h.ne⟩
  · rw [← hy] at o1
    rw [at_step hj] at o1
    rw [← hy]; exact o1
  · by_cases e : i = j
    · rw [e, hy]; exact ha
    · exact h.up i (by omega) hl
  · exact h.but.andThen hb (fun k e => by rw [show k = g from e]; exact h.new)
theorem s6 {w wr wx : World} {v : Value} {g d j : Nat} {K : List Nt} {x y : Nt} (h : IL w wr v g d K x (j + 1)) (hj : j + 1 ≤ K.length) (hy : K.getD j nt0 = y) (hb : But No wr wx) :
    wx.cell? ⟨w.heap.size, 0, none⟩ = some (.int .i64 x.task) ∧ wx.cell? ⟨w.heap.size, 1, none⟩ = some (.int .i64 x.due) ∧ wx.cell? ⟨w.heap.size, 2, none⟩ = some (.int .i64 x.turn) ∧
    wx.cell? ⟨g, j * 3, none⟩ = some (.int .i64 y.task) ∧ wx.cell? ⟨g, j * 3 + 1, none⟩ = some (.int .i64 y.due) ∧ wx.cell? ⟨g, j * 3 + 2, none⟩ = some (.int .i64 y.turn) ∧ But No wr wx := by
  have h' := h.no hb
  obtain ⟨g', e, _, c0, c1, c2, _⟩ := h'.o.cell (k := j) (by rw [at_len hj]; omega)
  simp only [Option.some.injEq, Addr.mk.injEq, and_true] at e
  subst e
  rw [at_before hj (by omega), hy] at c0 c1 c2
  exact ⟨h'.box.cell (o := 0) rfl, h'.box.cell (o := 1) rfl, h'.box.cell (o := 2) rfl, c0, c1, c2, hb⟩
theorem three_reads2 (w : World) (o : Obj) (e : TypeId) (x y z : Int) : Reads ((w.alloc o).alloc (.cells #[.int .i64 x, .int .i64 y, .int .i64 z] e)) (w.heap.size + 1 + 1) 3 (some ⟨w.heap.size + 1, 0, none⟩) 1 [.int .i64 x, .int .i64 y, .int .i64 z] := by
  have := three_reads (w.alloc o) e x y z
  rw [size_alloc1] at this
  exact this
set_option maxHeartbeats 4000000 in
set_option maxRecDepth 100000 in
theorem inserted_any (v : Value) (K : List Nt) (x : Nt) (w : World) (h : OvP w v K) (hs : Srt K) (hl : K.length ≤ 24) :
    Calls Try.prog 22 #[v, noteV x.task x.due x.turn] w fun r w' => ∃ v', r = .returned v' ∧ InsEnd w v K x v' w' := by
  have H := Lib.hid h
  have HS := Lib.hid hs
  obtain ⟨n, hn⟩ : ∃ n, n = K.length := ⟨_, rfl⟩
  have HN := Lib.hid hn
  rw [← hn] at hl
  obtain ⟨i5, hi0, hz0, hz1, hz2⟩ := info_parts info50
  have I5 : Hid (Try.prog.info? 50 = some i5 ∧ i5.zero = some (noteV 0 0 0) ∧ i5.size = 3 ∧ i5.bytes = 24) := ⟨hi0, hz0, hz1, hz2⟩
  have ROW : Hid (∀ w', But No w w' → w'.ownsRow 0 50 3 v n (flat Nt.task Nt.due Nt.turn K)) := by
    intro w' hb
    have := h.no hb
    rw [HN.out]; exact this
  obtain ⟨xc, xt, xd, xn⟩ := x
  have AFT : Hid (∀ A3 c3 w3, w3.ownsRow 0 50 3 (.slice A3 (n + 1) c3) (n + 1) (flat Nt.task Nt.due Nt.turn K ++ [.int .i64 xt, .int .i64 xd, .int .i64 xn]) →
      ((w.alloc (.cells #[.int .i64 xt, .int .i64 xd, .int .i64 xn] 50)).alloc (.cells #[.int .i64 xt, .int .i64 xd, .int .i64 xn] 50)).grownBy w3 v.ownBlock →
      ((Value.slice A3 (n + 1) c3).ownBlock = v.ownBlock ∨ (Value.slice A3 (n + 1) c3).ownBlock = some ((w.alloc (.cells #[.int .i64 xt, .int .i64 xd, .int .i64 xn] 50)).alloc (.cells #[.int .i64 xt, .int .i64 xd, .int .i64 xn] 50)).heap.size) →
      ∃ g, A3 = some ⟨g, 0, none⟩ ∧ IL w w3 v g c3 K ⟨xc, xt, xd, xn⟩ n) := by
    intro A3 c3 w3 ho hg hat
    rw [size_alloc1, size_alloc1] at hat
    have o1 : OvP w3 (.slice A3 (n + 1) c3) (K ++ [⟨xc, xt, xd, xn⟩]) := Ov3.app HN.out.symm ho
    obtain ⟨g, e, hgl, _⟩ := o1.cell (k := 0) (by simp)
    subst e
    have hvl := H.out.lt
    have hb : But (fun k => v.ownBlock = some k) w w3 := (((But.refl _ w).alloc _).alloc _).grown hg (fun k e => .inl e)
    have hx : Blk w3 w.heap.size #[.int .i64 xt, .int .i64 xd, .int .i64 xn] 50 := by
      have := ((Blk.new w #[.int .i64 xt, .int .i64 xd, .int .i64 xn] 50).alloc (.cells #[.int .i64 xt, .int .i64 xd, .int .i64 xn] 50)).but ((But.refl (fun k => v.ownBlock = some k) _).grown hg (fun k e => .inl e)) (fun e => by have := hvl _ e; omega)
      exact this
    refine ⟨g, rfl, ?_, fun i hi hl => by rw [HN.out] at hi; omega, hb, ?_, ?_, hx⟩
    · rw [HN.out, at_all, ← HN.out]; exact o1
    · rcases hat with h | h
      · exact .inl h.symm
      · have : g = w.heap.size + 1 + 1 := by simpa [Value.ownBlock] using h
        exact .inr (by omega)
    · rcases hat with h | h
      · have := hvl g h.symm; omega
      · have : g = w.heap.size + 1 + 1 := by simpa [Value.ownBlock] using h
        omega
  dsimp only
  clear h hs hn hi0 hz0 hz1 hz2
  go_enter Try.func22, Try.ntmps22
  go_wp2_with (at_builtin; refine wpList_append_sh _ rfl _ _ 54 rfl 50 i5 _ 3 24 Try.underlying54 I5.out.1 I5.out.2.1 I5.out.2.2.1 I5.out.2.2.2 rfl (by omega) v n _ rfl (ROW.out _ (((But.refl No w).alloc _).alloc _)) (w.heap.size + 1 + 1) (some ⟨w.heap.size + 1, 0, none⟩) 1 1 [.int .i64 xt, .int .i64 xd, .int .i64 xn] rfl (three_reads2 w _ 50 xt xd xn) (three_cell xt xd xn) (by unfold maxLen; omega) (by omega) ?_; intro A3 c3 w3 hown hgrow hat; have HF := Lib.hid (AFT.out _ _ w3 hown hgrow hat); clear hown hgrow hat)
  obtain ⟨g, hA, hil⟩ := HF.out
  subst hA
  have H0 := Lib.hid hil
  clear hil HF
  have fr : ∀ (wx : World) (j : Nat), IL w wx v g c3 K ⟨xc, xt, xd, xn⟩ j → j ≤ n → ∀ o, wx.frozen? ⟨g, o, none⟩ = false := by
    intro wx j h hj
    obtain ⟨g', e, _, _, _, _, hf⟩ := h.o.cell (k := 0) (by rw [at_len (by rw [← HN.out]; exact hj)]; omega)
    simp only [Option.some.injEq, Addr.mk.injEq, and_true] at e
    subst e; exact hf
  have FR := Lib.hid fr
  clear fr AFT ROW
  go_loopw [5] (fun i wx => ∃ j : Nat, i = .int .i64 j ∧ j ≤ n ∧ Hid (IL w wx v g c3 K ⟨xc, xt, xd, xn⟩ j)) (fun i _ => (intOf i).toNat)
  case atStart => exact ⟨n, by go_num, by omega, H0⟩
  case round =>
    obtain ⟨j, rfl, hj, hil⟩ := hrel
    clear H0
    by_cases j0 : j = 0
    · have hE : Hid (InsEnd w v K ⟨xc, xt, xd, xn⟩ (.slice (some ⟨g, 0, none⟩) (n + 1) c3) wr) := by
        have := hil.out.end_ HS.out (by rw [← HN.out]; exact hj) (fun h => by omega)
        rw [← HN.out] at this; exact this
      have kt : decide ((0 : Int) < (j : Int)) = false := by simp; omega
      have kt2 : decide (0 < j) = false := by simp; omega
      clear j0 hil
      go_wp2_with fail
      go_quiet (fail)
      go_wp2
      go_ret
      exact ⟨_, rfl, hE.out.no (drewN_but ⟨_, rfl⟩)⟩
    · obtain ⟨q, hq⟩ : ∃ q, j = q + 1 := ⟨j - 1, by omega⟩
      have hqK : q + 1 ≤ K.length := by rw [← HN.out]; omega
      have HQ := Lib.hid hq
      obtain ⟨y, hy⟩ : ∃ y, K.getD q nt0 = y := ⟨_, rfl⟩
      have HY := Lib.hid hy
      have HI : Hid (IL w wr v g c3 K ⟨xc, xt, xd, xn⟩ (q + 1)) := by rw [← hq]; exact hil.out
      have kt : decide ((0 : Int) < (j : Int)) = true := by simp; omega
      have kt2 : decide (0 < j) = true := by simp; omega
      have kp : (0 : Int) < (j : Int) := by omega
      have kp2 : 0 < j := by omega
      have jq : (j : Int) - 1 = (q : Int) := by omega
      have wq1 : IntKind.i64.wrap ((j : Int) - 1) = (q : Int) := by rw [jq]; rw [IntKind.wrap_i64]; omega
      have wq2 : IntKind.i64.wrap (q : Int) = (q : Int) := by rw [IntKind.wrap_i64]; omega
      have hqn0 : (q : Int) < (n : Int) + 1 := by omega
      have hqn : (q : Int) < (n + 1 : Nat) := by omega
      have hjn : (j : Int) < (n + 1 : Nat) := by omega
      obtain ⟨yc, yt, yd, yn⟩ := y
      by_cases ha : ahB ⟨xc, xt, xd, xn⟩ ⟨yc, yt, yd, yn⟩ = true
      · have hb := Lib.hid ha
        clear hq hy ha j0
        go_wp2_with fail
        go_region_held3 (fun w' => w'.cell? ⟨w.heap.size, 0, none⟩ = some (.int .i64 xt) ∧ w'.cell? ⟨w.heap.size, 1, none⟩ = some (.int .i64 xd) ∧ w'.cell? ⟨w.heap.size, 2, none⟩ = some (.int .i64 xn) ∧
            w'.cell? ⟨g, q * 3, none⟩ = some (.int .i64 yt) ∧ w'.cell? ⟨g, q * 3 + 1, none⟩ = some (.int .i64 yd) ∧ w'.cell? ⟨g, q * 3 + 2, none⟩ = some (.int .i64 yn) ∧ But No wr w')
          (first | exact s6 HI.out hqK HY.out (But.refl No wr).drew | exact s6 HI.out hqK HY.out ((But.refl No wr).drew.trans hg2))
          (first | (go_at_call 23; ((with_reducible refine (ahead_is ⟨xc, xt, xd, xn⟩ ⟨yc, yt, yd, yn⟩ true hb.out _).mono ?_); rintro e w2 ⟨rfl, hg2⟩)))
        rename_i hH
        have HI2 := Lib.hid (HI.out.no ((But.refl No wr).drew.trans hg2))
        have HST : Hid (IL w (put3 (put3 w2 g j yt yd yn) g q xt xd xn).drew v g c3 K ⟨xc, xt, xd, xn⟩ q) := by
          have := (HI2.out.step hqK HY.out hb.out).no (But.refl No _).drew
          rw [← HQ.out] at this; exact this
        obtain ⟨g', eg, _, k0, k1, k2, fz⟩ := HI2.out.o.cell (k := q + 1) (by rw [at_len hqK]; omega)
        simp only [Option.some.injEq, Addr.mk.injEq, and_true] at eg
        subst eg
        rw [at_here hqK, ← HQ.out] at k0 k1 k2
        obtain ⟨b0, b1, b2, y0, y1, y2, _⟩ := hH
        have fj0 := fz (j * 3)
        have fj1 := fz (j * 3 + 1)
        have fj2 := fz (j * 3 + 2)
        have fq0 := fz (q * 3)
        have fq1 := fz (q * 3 + 1)
        have fq2 := fz (q * 3 + 2)
        have hq := HQ.out
        have ne1 : ¬ w.heap.size = g := HI2.out.ne
        have ne2 : ¬ g = w.heap.size := fun e => HI2.out.ne e.symm
        have d00 : ¬ j * 3 = q * 3 := by omega
        have d01 : ¬ j * 3 = q * 3 + 1 := by omega
        have d02 : ¬ j * 3 = q * 3 + 2 := by omega
        have d10 : ¬ j * 3 + 1 = q * 3 := by omega
        have d12 : ¬ j * 3 + 1 = q * 3 + 2 := by omega
        have d20 : ¬ j * 3 + 2 = q * 3 := by omega
        have d21 : ¬ j * 3 + 2 = q * 3 + 1 := by omega
        have e00 : ¬ q * 3 = j * 3 := by omega
        have e01 : ¬ q * 3 = j * 3 + 1 := by omega
        have e02 : ¬ q * 3 = j * 3 + 2 := by omega
        have e10 : ¬ q * 3 + 1 = j * 3 := by omega
        have e12 : ¬ q * 3 + 1 = j * 3 + 2 := by omega
        have e20 : ¬ q * 3 + 2 = j * 3 := by omega
        have e21 : ¬ q * 3 + 2 = j * 3 + 1 := by omega
        have e11 : ¬ q = j := by omega
        clear hq hg2 fz kt2 kp2
        go_wp2_with fail
        go_region
        clear b0 b1 b2 y0 y1 y2 k0 k1 k2 fj0 fj1 fj2 fq0 fq1 fq2 d00 d01 d02 d10 d12 d20 d21 e00 e01 e02 e10 e12 e20 e21 e11 wq1 wq2
        go_wp2
        go_roundw
        case rel => exact ⟨q, rfl, by omega, HST⟩
        case measure => simp [intOf]; omega
      · have hb : Hid (ahB ⟨xc, xt, xd, xn⟩ ⟨yc, yt, yd, yn⟩ = false) := by show _ = _; simpa using ha
        have hE : Hid (∀ w', But No wr w' → InsEnd w v K ⟨xc, xt, xd, xn⟩ (.slice (some ⟨g, 0, none⟩) (n + 1) c3) w') := by
          intro w' hbw
          have := (hil.out.no hbw).end_ HS.out (by rw [← HN.out]; exact hj) (fun _ => by rw [hq, show q + 1 - 1 = q by omega, hy]; exact ha)
          rw [← HN.out] at this; exact this
        clear hq hy ha j0
        go_wp2_with fail
        go_region_held3 (fun w' => w'.cell? ⟨w.heap.size, 0, none⟩ = some (.int .i64 xt) ∧ w'.cell? ⟨w.heap.size, 1, none⟩ = some (.int .i64 xd) ∧ w'.cell? ⟨w.heap.size, 2, none⟩ = some (.int .i64 xn) ∧
            w'.cell? ⟨g, q * 3, none⟩ = some (.int .i64 yt) ∧ w'.cell? ⟨g, q * 3 + 1, none⟩ = some (.int .i64 yd) ∧ w'.cell? ⟨g, q * 3 + 2, none⟩ = some (.int .i64 yn) ∧ But No wr w')
          (first | exact s6 HI.out hqK HY.out (But.refl No wr).drew | exact s6 HI.out hqK HY.out ((But.refl No wr).drew.trans hg2))
          (first | (go_at_call 23; ((with_reducible refine (ahead_is ⟨xc, xt, xd, xn⟩ ⟨yc, yt, yd, yn⟩ false hb.out _).mono ?_); rintro e w2 ⟨rfl, hg2⟩)))
        rename_i hH
        clear hH
        have hE2 := Lib.hid (hE.out _ ((But.refl No wr).drew.trans hg2))
        clear hg2 wq1 wq2
        go_wp2
        go_ret
        exact ⟨_, rfl, hE2.out⟩
end Go.Proofs.Ytmfjlfemeihchaa
