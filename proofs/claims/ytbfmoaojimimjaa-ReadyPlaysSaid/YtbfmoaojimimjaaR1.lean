/- The document's own queue: its blocks, New, may, at, counts, ahead. -/
import Derived.Test.YtbfmoaojimimjaaO
namespace Go.Proofs.Ytbfmoaojimimjaa
open Go.ChangeShapes Go.WideShapes Go.ChangeAt Go.RowKit Go.Deep
/-- A task as the document's queue has it. -/
structure One where
  t : Int
  own : Int
  up : Int
  r : Bool
def o0 : One := ⟨0, 0, 0, false⟩
def toE (o : One) : E := ⟨o.t, o.own, if o.r = true then some o.up else none⟩
def agg (o : One) : Value := .agg #[.int .i64 o.t, .int .i64 o.own, .int .i64 o.up, .bool o.r]
def cnt (o : One) : Int := if o.r = true then o.up else o.own
theorem cnt_lv (o : One) : cnt o = lv (toE o) := by unfold cnt lv toE; cases o.r <;> rfl
def ahB (x y : One) : Bool := if cnt x ≠ cnt y then decide (cnt x < cnt y) else if x.r ≠ y.r then x.r else decide (x.t < y.t)
theorem up_r (o : One) : (toE o).up.isSome = o.r := by unfold toE; cases o.r <;> rfl
theorem ahB_ke {x y : One} (hx : EOK (toE x)) (hy : EOK (toE y)) : ahB x y = decide (ke (toE x) < ke (toE y)) := by
  have h := ke_lt hx hy
  rw [up_r, up_r, ← cnt_lv, ← cnt_lv] at h
  have e1 : (toE x).t = x.t := rfl
  have e2 : (toE y).t = y.t := rfl
  rw [e1, e2] at h
  rw [Bool.eq_iff_iff, decide_eq_true_iff, h]
  unfold ahB
  by_cases hc : cnt x = cnt y
  · rw [if_neg (by simpa using hc)]
    cases hr : x.r <;> cases hs : y.r <;> simp [hc]
  · rw [if_pos hc]
    simp [hc]
def flat : List One → List Value
  | [] => []
  | y :: L => .int .i64 y.t :: .int .i64 y.own :: .int .i64 y.up :: .bool y.r :: flat L
theorem flat_len : ∀ L : List One, (flat L).length = L.length * 4
  | [] => rfl
  | y :: L => by simp only [flat, List.length_cons, flat_len L]; omega
theorem flat_app : ∀ A B : List One, flat (A ++ B) = flat A ++ flat B
  | [], B => rfl
  | y :: A, B => by simp only [List.cons_append, flat, flat_app A B]
theorem flat_take (L : List One) (k : Nat) (h : k ≤ L.length) : flat (L.take k) = (flat L).take (k * 4) := by
  have e : flat L = flat (L.take k) ++ flat (L.drop k) := by rw [← flat_app, List.take_append_drop]
  rw [e, List.take_left' (by rw [flat_len, List.length_take]; congr 1; omega)]
theorem flat_drop (L : List One) (k : Nat) (h : k ≤ L.length) : flat (L.drop k) = (flat L).drop (k * 4) := by
  have e : flat L = flat (L.take k) ++ flat (L.drop k) := by rw [← flat_app, List.take_append_drop]
  rw [e, List.drop_left' (by rw [flat_len, List.length_take]; congr 1; omega)]
theorem flat_one : ∀ L : List One, ∀ u ∈ flat L, u.oneCell' = true
  | [], u, h => by cases h
  | y :: L, u, h => by
    simp only [flat, List.mem_cons] at h
    rcases h with rfl | rfl | rfl | rfl | h
    · rfl
    · rfl
    · rfl
    · rfl
    · exact flat_one L u h
theorem flat_at : ∀ (L : List One) (k : Nat), k < L.length → (flat L)[k * 4]? = some (.int .i64 (L.getD k o0).t) ∧ (flat L)[k * 4 + 1]? = some (.int .i64 (L.getD k o0).own) ∧ (flat L)[k * 4 + 2]? = some (.int .i64 (L.getD k o0).up) ∧ (flat L)[k * 4 + 3]? = some (.bool (L.getD k o0).r)
  | y :: L, 0, _ => ⟨rfl, rfl, rfl, rfl⟩
  | y :: L, k + 1, h => by
    have := flat_at L k (by simpa using h)
    rw [show (k + 1) * 4 = k * 4 + 1 + 1 + 1 + 1 by omega]
    simp only [flat, List.getElem?_cons_succ, List.getD_cons_succ]
    exact this
theorem flat_set2 {K : List One} {k : Nat} (v : Int) (hk : k < K.length) : (flat K).set (k * 4 + 2) (.int .i64 v) = flat (K.set k { K.getD k o0 with up := v }) := by
  induction K generalizing k with
  | nil => simp at hk
  | cons t r ih =>
    cases k with
    | zero => simp [flat]
    | succ k =>
      have := ih (k := k) (by simpa using hk)
      rw [show (k + 1) * 4 + 2 = k * 4 + 2 + 1 + 1 + 1 + 1 by omega]
      simp only [flat, List.set_cons_succ, this]
      simp
theorem flat_set3 {K : List One} {k : Nat} (v : Bool) (hk : k < K.length) : (flat K).set (k * 4 + 3) (.bool v) = flat (K.set k { K.getD k o0 with r := v }) := by
  induction K generalizing k with
  | nil => simp at hk
  | cons t r ih =>
    cases k with
    | zero => simp [flat]
    | succ k =>
      have := ih (k := k) (by simpa using hk)
      rw [show (k + 1) * 4 + 3 = k * 4 + 3 + 1 + 1 + 1 + 1 by omega]
      simp only [flat, List.set_cons_succ, this]
      simp
/-- A slice of the document's tasks. -/
def Oi (w : World) (v : Value) (L : List One) : Prop := w.ownsRow 0 59 4 v L.length (flat L)
theorem Oi.but {w w' : World} {v : Value} {L : List One} {S : Nat → Prop} (h : Oi w v L) (hb : But S w w') (hs : ∀ k, v.ownBlock = some k → ¬ S k) : Oi w' v L := owns_but h hb hs
theorem Oi.slice {w : World} {v : Value} {L : List One} (h : Oi w v L) : ∃ A c, v = .slice A L.length c ∧ L.length ≤ c := by
  obtain ⟨h1, h2⟩ := h
  rcases h2 with ⟨h2, e⟩ | ⟨g, cap, cur, hv, _, _, hc, _⟩
  · exact ⟨none, 0, by rw [e]; exact h2, by omega⟩
  · exact ⟨_, _, hv, hc⟩
theorem Oi.cells {w : World} {A : Option Addr} {n c : Nat} {L : List One} (h : Oi w (.slice A n c) L) {k : Nat} (hk : k < L.length) :
    ∃ q, A = some ⟨q, 0, none⟩ ∧ q < w.heap.size ∧ w.cell? ⟨q, k * 4, none⟩ = some (.int .i64 (L.getD k o0).t) ∧ w.cell? ⟨q, k * 4 + 1, none⟩ = some (.int .i64 (L.getD k o0).own) ∧ w.cell? ⟨q, k * 4 + 2, none⟩ = some (.int .i64 (L.getD k o0).up) ∧ w.cell? ⟨q, k * 4 + 3, none⟩ = some (.bool (L.getD k o0).r) ∧ (∀ o, w.frozen? ⟨q, o, none⟩ = false) := by
  have h' := h
  obtain ⟨h1, h2⟩ := h
  rcases h2 with ⟨h2, e⟩ | ⟨g, cap, cur, hv, _, hh, hc, _⟩
  · omega
  · cases hv
    obtain ⟨a, b, d, e⟩ := flat_at L k hk
    have key : ∀ j u, (flat L)[j]? = some u → w.cell? ⟨g, j, none⟩ = some u := fun j u hu => by
      have := World.ownsRow.cells h' (g := g) rfl _ _ hu
      rw [add_plain, Nat.zero_add] at this; exact this
    exact ⟨g, rfl, Blk.lt hh, key _ _ a, key _ _ b, key _ _ d, key _ _ e, fun o => Blk.frozen hh o⟩
theorem Oi.setc {w : World} {g n c j k : Nat} {K : List One} {x : One} {u : Value} (h : Oi w (.slice (some ⟨g, 0, none⟩) n c) K) (he : (flat K).set j u = flat (K.set k x)) :
    Oi (w.setCell ⟨g, j, none⟩ u) (.slice (some ⟨g, 0, none⟩) n c) (K.set k x) := by
  obtain ⟨h1, h2⟩ := h
  rcases h2 with ⟨e, _⟩ | ⟨g', cap, cur, hv, h0, hh, hc, hm, hs, ht⟩
  · cases e
  · cases hv
    refine ⟨by rw [flat_len], .inr ⟨g, c, cur.setIfInBounds j u, ?_, h0, Blk.set hh _ _, ?_, hm, by simpa using hs, ?_⟩⟩
    · rw [List.length_set]
    · rw [List.length_set]; exact hc
    · rw [← he, ← ht, List.length_set]
      rw [Array.toList_setIfInBounds, List.take_set]
/-- At x lies the document's queue that holds L; its blocks are S. -/
structure RF (w : World) (S : Nat → Prop) (x : Nat) (pol : Int) (L : List One) : Prop where
  ex : ∃ v, Blk w x #[.int .i64 pol, v] 54 ∧ Oi w v L ∧ v.ownBlock ≠ some x ∧ ∀ k, S k ↔ k = x ∨ v.ownBlock = some k
  len : L.length ≤ 24
theorem RF.but {w w' : World} {S S' : Nat → Prop} {x : Nat} {R : Int} {L : List One} (h : RF w S x R L) (hb : But S' w w') (hs : ∀ k, S k → ¬ S' k) : RF w' S x R L := by
  obtain ⟨v, h1, h2, h3, h4⟩ := h.ex
  exact ⟨⟨v, h1.but hb (hs x ((h4 x).2 (.inl rfl))), h2.but hb (fun k e => hs k ((h4 k).2 (.inr e))), h3, h4⟩, h.len⟩
theorem RF.lt {w : World} {S : Nat → Prop} {x : Nat} {R : Int} {L : List One} (h : RF w S x R L) : ∀ k, S k → k < w.heap.size := by
  obtain ⟨v, h1, h2, h3, h4⟩ := h.ex
  intro k hk
  rcases (h4 k).1 hk with rfl | e
  · exact h1.lt
  · exact (World.ownsRow.lt h2 k e).2
def Rm (w : World) (S : Nat → Prop) (x : Nat) (R : Int) (L : List One) (w' : World) : Prop :=
  ∃ S', RF w' S' x R L ∧ But S w w' ∧ ∀ k, S' k → S k ∨ w.heap.size ≤ k
theorem RF.stay {w w' : World} {S : Nat → Prop} {x : Nat} {R : Int} {L : List One} (h : RF w S x R L) (hb : But No w w') : Rm w S x R L w' := ⟨S, h.but hb (fun _ _ f => f), hb.no, fun _ h => .inl h⟩
theorem rf_fin {w w0 w3 : World} {S : Nat → Prop} {x : Nat} {R : Int} {L L' : List One} {v' : Value} (h : RF w S x R L) (hb : But S w w0) (hxx : ∃ v, Blk w0 x #[.int .i64 R, v] 54) (ho : Oi w0 v' L') (hn : ∀ k, v'.ownBlock = some k → (S k ∨ w.heap.size ≤ k) ∧ k ≠ x) (hl : L'.length ≤ 24) (e : w0.setCell ⟨x, 1, none⟩ v' = w3) : Rm w S x R L' w3 := by
  obtain ⟨v, h1, h2, h3, h4⟩ := h.ex
  have hx := h1.lt
  have hv : v'.ownBlock ≠ some x := fun e => (hn x e).2 rfl
  have hB : But (Just x) w0 w3 := by rw [← e]; exact (But.refl _ _).setCell (p := ⟨x, 1, none⟩) (just x) _
  refine ⟨fun k => k = x ∨ v'.ownBlock = some k, ⟨⟨v', ?_, ho.but hB (fun k ek e2 => hv (by rw [ek, e2])), hv, fun _ => Iff.rfl⟩, hl⟩, hb.trans (hB.mono (fun k _ e2 => (h4 k).2 (.inl e2))), ?_⟩
  · rw [← e]; obtain ⟨u, hu⟩ := hxx; exact hu.set 1 v'
  · rintro k (rfl | e2)
    · exact .inl ((h4 k).2 (.inl rfl))
    · exact (hn k e2).1
/-- What New leaves. -/
def RNew (w : World) (pol : Int) (e : Ending) (w' : World) : Prop :=
  ∃ x S, e = .returned (.pointer (some ⟨x, 0, none⟩)) ∧ RF w' S x pol [] ∧ But No w w' ∧ ∀ k, S k → w.heap.size ≤ k
theorem rnew_made (w : World) (pol : Int) : RNew w pol (.returned (.pointer (some ⟨w.heap.size, 0, none⟩))) (w.alloc (.cells #[.int .i64 pol, .slice none 0 0] 54)) :=
  ⟨w.heap.size, fun k => k = w.heap.size, rfl, ⟨⟨.slice none 0 0, Blk.new w _ _, World.ownsRow_nil _ _ _ _, by simp [Value.ownBlock], fun k => by simp [Value.ownBlock]⟩, by simp⟩, (But.refl No w).alloc _, fun k e => by omega⟩
theorem rnew_any (pol : Int) (w : World) (h : pol = 1 ∨ pol = 2) :
    Calls Try.prog 9 #[.int .i64 pol] w (RNew w pol) := by
  have HN := Lib.hid (rnew_made w pol)
  by_cases e1 : pol = 1
  · subst e1
    clear h
    go_enter Try.func9, Try.ntmps9
    go_wp2
    go_ret
    exact HN.out
  · have e2 : pol = 2 := by omega
    subst e2
    clear h e1
    go_enter Try.func9, Try.ntmps9
    go_wp2
    go_ret
    exact HN.out
theorem rnew_bad (pol : Int) (w : World) (h1 : pol ≠ 1) (h2 : pol ≠ 2) :
    Calls Try.prog 9 #[.int .i64 pol] w fun r w' => r = .returned (.pointer none) ∧ w = w' := by
  have b1 : (pol != 1) = true := by simp [h1]
  have b2 : (pol != 2) = true := by simp [h2]
  clear h1 h2
  go_enter Try.func9, Try.ntmps9
  go_wp2
  go_ret
  exact ⟨rfl, rfl⟩
theorem may_any (t l : Int) (w : World) :
    Calls Try.prog 31 #[.int .i64 t, .int .i64 l] w fun r w' => r = .returned (.bool (taskB t && levB l)) ∧ w = w' := by
  cases h1 : decide (0 ≤ t) with
  | false =>
    have H : Hid ((taskB t && levB l) = false) := by show _ = _; unfold taskB; rw [h1]; rfl
    go_enter Try.func31, Try.ntmps31
    go_wp2
    go_ret
    exact ⟨retb H.out.symm, rfl⟩
  | true =>
    cases h2 : decide (t < 24) with
    | false =>
      have H : Hid ((taskB t && levB l) = false) := by show _ = _; unfold taskB; rw [h1, h2]; rfl
      go_enter Try.func31, Try.ntmps31
      go_wp2
      go_ret
      exact ⟨retb H.out.symm, rfl⟩
    | true =>
      cases h3 : decide (0 ≤ l) with
      | false =>
        have H : Hid ((taskB t && levB l) = false) := by show _ = _; unfold levB; rw [h3]; simp
        go_enter Try.func31, Try.ntmps31
        go_wp2
        go_ret
        exact ⟨retb H.out.symm, rfl⟩
      | true =>
        have H : Hid ((taskB t && levB l) = decide (l ≤ 9007199254740991)) := by show _ = _; unfold taskB levB; rw [h1, h2, h3]; rfl
        go_enter Try.func31, Try.ntmps31
        go_wp2
        go_ret
        exact ⟨retb H.out.symm, rfl⟩
theorem counts_any (o : One) (w : World) :
    Calls Try.prog 37 #[agg o] w fun r w' => r = .returned (.int .i64 (cnt o)) ∧ But No w w' := by
  have HB : Hid (But No w (w.alloc (.cells #[.int .i64 o.t, .int .i64 o.own, .int .i64 o.up, .bool o.r] 59))) := (But.refl No w).alloc _
  have HC : Hid (cnt o = if o.r = true then o.up else o.own) := rfl
  obtain ⟨a, b, c, d⟩ := o
  unfold agg
  dsimp only at *
  cases d
  · go_enter Try.func37, Try.ntmps37
    go_wp2
    go_ret
    exact ⟨ret1 (by rw [HC.out]; rfl), HB.out⟩
  · go_enter Try.func37, Try.ntmps37
    go_wp2
    go_ret
    exact ⟨ret1 (by rw [HC.out]; rfl), HB.out⟩
end Go.Proofs.Ytbfmoaojimimjaa
