/- Contracts of ahead, nextTurn and swap. -/
import Derived.Test.YtbfmoaojimimjaaHeW
namespace Go.Proofs.Ytbfmoaojimimjaa.hea
open Go.ChangeShapes Go.WideShapes Go.ChangeAt Go.RowKit
def agg (x : It) : Value := .agg #[.int .i64 x.id, .int .i64 x.key, .int .i64 x.turn]
theorem ahead_w (a b c d e f : Int) (w : World) :
    Calls Try.prog 46 #[.agg #[.int .i64 a, .int .i64 b, .int .i64 c], .agg #[.int .i64 d, .int .i64 e, .int .i64 f]] w fun r w' => r = .returned (.bool (ahB ⟨a, b, c⟩ ⟨d, e, f⟩)) ∧ (w.alloc (.cells #[.int .i64 a, .int .i64 b, .int .i64 c] 67)).alloc (.cells #[.int .i64 d, .int .i64 e, .int .i64 f] 67) = w' := by
  by_cases h : b = e
  · have h1 : (b != e) = false := by simp [h]
    have HB : Hid (ahB ⟨a, b, c⟩ ⟨d, e, f⟩ = decide (c < f)) := by show _ = _; unfold ahB; simp [h]
    clear h
    go_enter Try.func46, Try.ntmps46
    go_wp2
    go_ret
    exact ⟨by rw [HB.out]; rfl, rfl⟩
  · have h1 : (b != e) = true := by simp [h]
    have HB : Hid (ahB ⟨a, b, c⟩ ⟨d, e, f⟩ = decide (b < e)) := by show _ = _; unfold ahB; simp [h]
    clear h
    go_enter Try.func46, Try.ntmps46
    go_wp2
    go_ret
    exact ⟨by rw [HB.out]; rfl, rfl⟩
theorem ahead_any (a b c d e f : Int) (r : Bool) (hr : ahB ⟨a, b, c⟩ ⟨d, e, f⟩ = r) (w : World) :
    Calls Try.prog 46 #[.agg #[.int .i64 a, .int .i64 b, .int .i64 c], .agg #[.int .i64 d, .int .i64 e, .int .i64 f]] w fun x w' => x = .returned (.bool r) ∧ But No w w' := by
  subst hr
  exact (ahead_w a b c d e f w).mono fun _ _ ⟨h, k⟩ => ⟨h, k ▸ ((But.refl No w).alloc _).alloc _⟩
theorem nextTurn_w (p : Nat) (T : Int) (w : World) (h1 : w.cell? ⟨p, 1, none⟩ = some (.int .i64 T)) (f1 : w.frozen? ⟨p, 1, none⟩ = false) (hT : 0 ≤ T) (hT' : T < 1000000) :
    Calls Try.prog 41 #[.pointer (some ⟨p, 0, none⟩)] w fun r w' => r = .returned (.int .i64 (T + 1)) ∧ w.setCell ⟨p, 1, none⟩ (.int .i64 (T + 1)) = w' := by
  go_enter Try.func41, Try.ntmps41
  go_wp2
  go_ret
  exact ⟨rfl, rfl⟩
/-- What swap leaves. -/
def SwapEnd (w : World) (p q m c n : Nat) (R T : Int) (f : Nat → It) (D : DataW Unit) (i j : Nat) (w' : World) : Prop :=
  Hm w' p q m c n R T (swp f i j) ((D.put (ky (f j).id) (vl i)).put (ky (f i).id) (vl j)) ∧ But (Own p q m) w w'
set_option maxHeartbeats 4000000 in
set_option maxRecDepth 100000 in
theorem swap_ne (p q m c n : Nat) (R T : Int) (f : Nat → It) (D : DataW Unit) (i j : Nat) (w : World) (hm : Hm w p q m c n R T f D) (hi : (i : Int) < (n : Int)) (hj : (j : Int) < (n : Int)) (hij : i ≠ j) (hn : n ≤ 256) (hD : Maps.size D ≤ 256) (hr : ∀ i, i < n → inR (f i).id) :
    Calls Try.prog 47 #[.pointer (some ⟨p, 0, none⟩), .int .i64 i, .int .i64 j] w fun r w' => r = .returned (.tuple #[]) ∧ SwapEnd w p q m c n R T f D i j w' := by
  have HM := Lib.hid hm
  have H0 : Hid (Hm ((put3 (put3 w q i (f j)) q j (f i)).drew) p q m c n R T (swp f i j) D) := ((hm.put (i := i) (by omega) (f j)).put (i := j) (by omega) (f i)).drew
  have HB : Hid (But (Own p q m) w ((put3 (put3 w q i (f j)) q j (f i)).drew)) := (((But.refl _ w).put3H (.inr (.inl rfl)) i _).put3H (.inr (.inl rfl)) j _).drew
  have h2 := hm.hp.cell (o := 2) rfl
  obtain ⟨hi0, hi1, hi2⟩ := hm.hq.cells (i := i) (by omega)
  have fi0 := hm.hq.frozen (i * 3)
  have fi1 := hm.hq.frozen (i * 3 + 1)
  have fi2 := hm.hq.frozen (i * 3 + 2)
  have ri := hr i (by omega)
  have hx0 := swp_left f i j
  have hy0 := swp_right f i j
  obtain ⟨hj0, hj1, hj2⟩ := hm.hq.cells (i := j) (by omega)
  have fj0 := hm.hq.frozen (j * 3)
  have fj1 := hm.hq.frozen (j * 3 + 1)
  have fj2 := hm.hq.frozen (j * 3 + 2)
  have rj := hr j (by omega)
  have d00 : ¬ i * 3 = j * 3 := by omega
  have d01 : ¬ i * 3 = j * 3 + 1 := by omega
  have d02 : ¬ i * 3 = j * 3 + 2 := by omega
  have d10 : ¬ i * 3 + 1 = j * 3 := by omega
  have d12 : ¬ i * 3 + 1 = j * 3 + 2 := by omega
  have d20 : ¬ i * 3 + 2 = j * 3 := by omega
  have d21 : ¬ i * 3 + 2 = j * 3 + 1 := by omega
  have e00 : ¬ j * 3 = i * 3 := by omega
  have e01 : ¬ j * 3 = i * 3 + 1 := by omega
  have e02 : ¬ j * 3 = i * 3 + 2 := by omega
  have e10 : ¬ j * 3 + 1 = i * 3 := by omega
  have e12 : ¬ j * 3 + 1 = i * 3 + 2 := by omega
  have e20 : ¬ j * 3 + 2 = i * 3 := by omega
  have e21 : ¬ j * 3 + 2 = i * 3 + 1 := by omega
  have e11 : ¬ j = i := by omega
  obtain ⟨x, hx⟩ : ∃ x, f i = x := ⟨_, rfl⟩
  obtain ⟨y, hy⟩ : ∃ y, f j = y := ⟨_, rfl⟩
  rw [hx] at hi0 hi1 hi2 hy0 ri H0 HB
  rw [hy] at hj0 hj1 hj2 hx0 rj H0 HB
  have HE : Hid (f i = x ∧ f j = y) := ⟨hx, hy⟩
  clear hx hy
  have RI := Lib.hid ri
  have RJ := Lib.hid rj
  clear ri rj
  have HX : Hid (swp f i j i = y ∧ swp f i j j = x) := ⟨hx0, hy0⟩
  clear hx0 hy0
  obtain ⟨ai, bi, ci⟩ := x
  obtain ⟨aj, bj, cj⟩ := y
  dsimp only at *
  clear hm hr
  go_enter Try.func47, Try.ntmps47
  go_wp2
  go_region
  go_wp2_with fail
  generalize hw0 : World.drew _ = w0
  have H0' : Hid (Hm w0 p q m c n R T (swp f i j) D) := by rw [← hw0]; exact H0
  have HB' : Hid (But (Own p q m) w w0) := by rw [← hw0]; exact HB
  have h2' := H0'.out.hp.cell (o := 2) rfl
  have h3' := H0'.out.hp.cell (o := 3) rfl
  have hi' := (H0'.out.hq.cells (i := i) (by omega)).1
  rw [HX.out.1] at hi'
  clear hw0 h2 H0 HB fi0 fi1 fi2 hi0 hi1 hi2
  go_still_tail 13, (by kernel_rfl)
  refine wpList_mapUpdate_in (H := Unit) _ rfl _ _ _ 49 rfl 3 3 keyed Try.underlying49 (plainElem Try.prog 3) m (Maps.size D) D rfl (show OM w0.drew m (Maps.size D) D from H0'.out.own) (by unfold maxLen; omega) _ _ (ky _) rfl rfl (Maps.keyOf_int_mk Try.underlying3 (wf_of RJ.out)) (vl i) [] (plainElem_int Try.underlying3 (wf_of (by unfold inR; omega))) ?_
  intro w1 hown1 ht1
  have H1 : Hid (Hm w1 p q m c n R T (swp f i j) _) := H0'.out.drew.turnedH ht1 hown1
  have HB1 : Hid (But (Own p q m) w w1) := HB'.out.drew.turnedH ht1 (.inr (.inr rfl))
  have HO1 := Lib.hid hown1
  clear h2' h3' hi' hown1 ht1 H0' HB'
  have h2' := H1.out.hp.cell (o := 2) rfl
  have h3' := H1.out.hp.cell (o := 3) rfl
  have hj' := (H1.out.hq.cells (i := j) (by omega)).1
  rw [HX.out.2] at hj'
  go_wp2_with fail
  go_still_tail 13, (by kernel_rfl)
  refine wpList_mapUpdate_in (H := Unit) _ rfl _ _ _ 49 rfl 3 3 keyed Try.underlying49 (plainElem Try.prog 3) m (Maps.size D + 1) _ rfl (show OM w1.drew m (Maps.size D + 1) _ from HO1.out) (by unfold maxLen; omega) _ _ (ky _) rfl rfl (Maps.keyOf_int_mk Try.underlying3 (wf_of RI.out)) (vl j) [] (plainElem_int Try.underlying3 (wf_of (by unfold inR; omega))) ?_
  intro w2 hown2 ht2
  have H2 : Hid (Hm w2 p q m c n R T (swp f i j) _) := H1.out.drew.turnedH ht2 hown2
  have HB2 : Hid (But (Own p q m) w w2) := HB1.out.drew.turnedH ht2 (.inr (.inr rfl))
  clear h2' h3' hj' hown2 ht2 H1 HB1 HO1
  go_wp2
  go_end0
  refine ⟨rfl, ?_⟩
  unfold SwapEnd
  rw [HE.out.1, HE.out.2]
  exact ⟨H2.out, HB2.out⟩
set_option maxHeartbeats 4000000 in
set_option maxRecDepth 100000 in
theorem swap_eq (p q m c n : Nat) (R T : Int) (f : Nat → It) (D : DataW Unit) (i : Nat) (w : World) (hm : Hm w p q m c n R T f D) (hi : (i : Int) < (n : Int)) (hn : n ≤ 256) (hD : Maps.size D ≤ 256) (hr : ∀ i, i < n → inR (f i).id) :
    Calls Try.prog 47 #[.pointer (some ⟨p, 0, none⟩), .int .i64 i, .int .i64 i] w fun r w' => r = .returned (.tuple #[]) ∧ SwapEnd w p q m c n R T f D i i w' := by
  have HM := Lib.hid hm
  have H0 : Hid (Hm ((put3 (put3 w q i (f i)) q i (f i)).drew) p q m c n R T (swp f i i) D) := ((hm.put (i := i) (by omega) (f i)).put (i := i) (by omega) (f i)).drew
  have HB : Hid (But (Own p q m) w ((put3 (put3 w q i (f i)) q i (f i)).drew)) := (((But.refl _ w).put3H (.inr (.inl rfl)) i _).put3H (.inr (.inl rfl)) i _).drew
  have h2 := hm.hp.cell (o := 2) rfl
  obtain ⟨hi0, hi1, hi2⟩ := hm.hq.cells (i := i) (by omega)
  have fi0 := hm.hq.frozen (i * 3)
  have fi1 := hm.hq.frozen (i * 3 + 1)
  have fi2 := hm.hq.frozen (i * 3 + 2)
  have ri := hr i (by omega)
  have hx0 := swp_left f i i
  have hy0 := swp_right f i i
  obtain ⟨x, hx⟩ : ∃ x, f i = x := ⟨_, rfl⟩
  rw [hx] at hi0 hi1 hi2 hx0 hy0 ri H0 HB
  have HE : Hid (f i = x ∧ f i = x) := ⟨hx, hx⟩
  clear hx
  have RI := Lib.hid ri
  have RJ := Lib.hid ri
  clear ri
  have HX : Hid (swp f i i i = x ∧ swp f i i i = x) := ⟨hx0, hy0⟩
  clear hx0 hy0
  obtain ⟨ai, bi, ci⟩ := x
  dsimp only at *
  clear hm hr
  go_enter Try.func47, Try.ntmps47
  go_wp2
  go_region
  go_wp2_with fail
  generalize hw0 : World.drew _ = w0
  have H0' : Hid (Hm w0 p q m c n R T (swp f i i) D) := by rw [← hw0]; exact H0
  have HB' : Hid (But (Own p q m) w w0) := by rw [← hw0]; exact HB
  have h2' := H0'.out.hp.cell (o := 2) rfl
  have h3' := H0'.out.hp.cell (o := 3) rfl
  have hi' := (H0'.out.hq.cells (i := i) (by omega)).1
  rw [HX.out.1] at hi'
  clear hw0 h2 H0 HB fi0 fi1 fi2 hi0 hi1 hi2
  go_still_tail 13, (by kernel_rfl)
  refine wpList_mapUpdate_in (H := Unit) _ rfl _ _ _ 49 rfl 3 3 keyed Try.underlying49 (plainElem Try.prog 3) m (Maps.size D) D rfl (show OM w0.drew m (Maps.size D) D from H0'.out.own) (by unfold maxLen; omega) _ _ (ky _) rfl rfl (Maps.keyOf_int_mk Try.underlying3 (wf_of RJ.out)) (vl i) [] (plainElem_int Try.underlying3 (wf_of (by unfold inR; omega))) ?_
  intro w1 hown1 ht1
  have H1 : Hid (Hm w1 p q m c n R T (swp f i i) _) := H0'.out.drew.turnedH ht1 hown1
  have HB1 : Hid (But (Own p q m) w w1) := HB'.out.drew.turnedH ht1 (.inr (.inr rfl))
  have HO1 := Lib.hid hown1
  clear h2' h3' hi' hown1 ht1 H0' HB'
  have h2' := H1.out.hp.cell (o := 2) rfl
  have h3' := H1.out.hp.cell (o := 3) rfl
  have hj' := (H1.out.hq.cells (i := i) (by omega)).1
  rw [HX.out.2] at hj'
  go_wp2_with fail
  go_still_tail 13, (by kernel_rfl)
  refine wpList_mapUpdate_in (H := Unit) _ rfl _ _ _ 49 rfl 3 3 keyed Try.underlying49 (plainElem Try.prog 3) m (Maps.size D + 1) _ rfl (show OM w1.drew m (Maps.size D + 1) _ from HO1.out) (by unfold maxLen; omega) _ _ (ky _) rfl rfl (Maps.keyOf_int_mk Try.underlying3 (wf_of RI.out)) (vl i) [] (plainElem_int Try.underlying3 (wf_of (by unfold inR; omega))) ?_
  intro w2 hown2 ht2
  have H2 : Hid (Hm w2 p q m c n R T (swp f i i) _) := H1.out.drew.turnedH ht2 hown2
  have HB2 : Hid (But (Own p q m) w w2) := HB1.out.drew.turnedH ht2 (.inr (.inr rfl))
  clear h2' h3' hj' hown2 ht2 H1 HB1 HO1
  go_wp2
  go_end0
  refine ⟨rfl, ?_⟩
  unfold SwapEnd
  rw [HE.out.1]
  exact ⟨H2.out, HB2.out⟩
theorem swap_any (p q m c n : Nat) (R T : Int) (f : Nat → It) (D : DataW Unit) (i j : Nat) (w : World) (hm : Hm w p q m c n R T f D) (mi : MapIs n f D) (hi : i < n) (hj : j < n) (hn : n ≤ 256) :
    Calls Try.prog 47 #[.pointer (some ⟨p, 0, none⟩), .int .i64 i, .int .i64 j] w fun r w' => r = .returned (.tuple #[]) ∧ ∃ D', Hm w' p q m c n R T (swp f i j) D' ∧ MapIs n (swp f i j) D' ∧ But (Own p q m) w w' := by
  have hD : Maps.size D ≤ 256 := by rw [mi.sz]; exact hn
  by_cases e : i = j
  · subst e
    exact (swap_eq p q m c n R T f D i w hm (by omega) hn hD mi.rng).mono fun _ _ ⟨a, b⟩ => ⟨a, _, b.1, mi.swp hi hj, b.2⟩
  · exact (swap_ne p q m c n R T f D i j w hm (by omega) (by omega) e hn hD mi.rng).mono fun _ _ ⟨a, b⟩ => ⟨a, _, b.1, mi.swp hi hj, b.2⟩
end Go.Proofs.Ytbfmoaojimimjaa.hea
