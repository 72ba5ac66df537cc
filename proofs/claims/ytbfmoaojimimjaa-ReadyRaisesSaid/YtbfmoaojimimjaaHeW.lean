/- Worlds that differ in some blocks alone; blocks known whole; a heap's blocks. -/
import Derived.Test.YtbfmoaojimimjaaRows
import Derived.Test.YtbfmoaojimimjaaHeM
import Derived.WalkKit
import Derived.ProofKit
import Derived.OpenShut
import Derived.Lib.Hide
import Derived.Below
import Derived.LoopN
import Derived.BigRegion
import Derived.BigQuiet
import Derived.Deep.QuietTactic
import Derived.Deep.RegionHeld3
import Derived.StillTailTactics
import Derived.Maps.OwnSet
import Derived.Maps.AppendAt
namespace Go.Proofs.Ytbfmoaojimimjaa.hea
open Go.ChangeShapes Go.WideShapes Go.ChangeAt Go.RowKit
theorem _root_.Go.Proofs.Ytbfmoaojimimjaa.But.turnedH {S : Nat → Prop} {a b c : World} {m : Nat} (h : But S a b) (ht : b.mapTurned c m) (hm : S m) : But S a c :=
  h.grown ht.grown (fun k e => .inl (by cases e; exact hm))
theorem _root_.Go.Proofs.Ytbfmoaojimimjaa.Blk.ne_mapH {w : World} {b m : Nat} {cur : Array Value} {e : TypeId} {P : Program} {k : TypeId} {R : Value → Option (DataW Unit × List MemPlace)} {n : Nat} {D : DataW Unit} (h : Blk w b cur e) (hm : w.ownsMap P k R m n D) : b ≠ m := by
  rintro rfl
  obtain ⟨es, clock, h1, _⟩ := hm
  unfold Blk at h
  rw [h] at h1; cases h1
/-- Block q holds n items, and has room for c. -/
def Rw (w : World) (q c n : Nat) (f : Nat → It) : Prop :=
  ∃ cur, Blk w q cur 67 ∧ cur.size = c * 3 ∧ n ≤ c ∧ c ≤ maxLen ∧ ∀ i, i < n → cur[i * 3]? = some (.int .i64 (f i).id) ∧ cur[i * 3 + 1]? = some (.int .i64 (f i).key) ∧ cur[i * 3 + 2]? = some (.int .i64 (f i).turn)
theorem Rw.lt {w : World} {q c n : Nat} {f : Nat → It} (h : Rw w q c n f) : q < w.heap.size := by obtain ⟨cur, hb, _⟩ := h; exact hb.lt
theorem Rw.cells {w : World} {q c n : Nat} {f : Nat → It} (h : Rw w q c n f) {i : Nat} (hi : i < n) :
    w.cell? ⟨q, i * 3, none⟩ = some (.int .i64 (f i).id) ∧ w.cell? ⟨q, i * 3 + 1, none⟩ = some (.int .i64 (f i).key) ∧ w.cell? ⟨q, i * 3 + 2, none⟩ = some (.int .i64 (f i).turn) := by
  obtain ⟨cur, hb, _, _, _, hc⟩ := h
  obtain ⟨h0, h1, h2⟩ := hc i hi
  exact ⟨hb.cell h0, hb.cell h1, hb.cell h2⟩
theorem Rw.frozen {w : World} {q c n : Nat} {f : Nat → It} (h : Rw w q c n f) (o : Nat) : w.frozen? ⟨q, o, none⟩ = false := by
  obtain ⟨cur, hb, _⟩ := h; exact hb.frozen o
theorem Rw.but {w w' : World} {q c n : Nat} {f : Nat → It} {S : Nat → Prop} (h : Rw w q c n f) (hb : But S w w') (hs : ¬ S q) : Rw w' q c n f := by
  obtain ⟨cur, h1, h2⟩ := h; exact ⟨cur, h1.but hb hs, h2⟩
theorem Rw.other {w : World} {q c n : Nat} {f : Nat → It} (h : Rw w q c n f) {a : Addr} (ha : q ≠ a.block) (v : Value) : Rw (w.setCell a v) q c n f := by
  obtain ⟨cur, h1, h2⟩ := h; exact ⟨cur, h1.other ha v, h2⟩
theorem Rw.cap {w : World} {q c n : Nat} {f : Nat → It} (h : Rw w q c n f) : n ≤ c := by obtain ⟨cur, _, _, h3, _⟩ := h; exact h3
theorem Rw.congr {w : World} {q c n : Nat} {f g : Nat → It} (h : Rw w q c n f) (e : ∀ i, i < n → g i = f i) : Rw w q c n g := by
  obtain ⟨cur, h1, h2, h3, h4, h5⟩ := h
  exact ⟨cur, h1, h2, h3, h4, fun i hi => by rw [e i hi]; exact h5 i hi⟩
theorem Rw.less {w : World} {q c n k : Nat} {f : Nat → It} (h : Rw w q c n f) (hk : k ≤ n) : Rw w q c k f := by
  obtain ⟨cur, h1, h2, h3, h4, h5⟩ := h
  exact ⟨cur, h1, h2, by omega, h4, fun i hi => h5 i (by omega)⟩
/-- The three stores of an item. -/
def put3 (w : World) (q i : Nat) (x : It) : World := ((w.setCell ⟨q, i * 3, none⟩ (.int .i64 x.id)).setCell ⟨q, i * 3 + 1, none⟩ (.int .i64 x.key)).setCell ⟨q, i * 3 + 2, none⟩ (.int .i64 x.turn)
theorem Rw.put {w : World} {q c n : Nat} {f : Nat → It} (h : Rw w q c n f) {i : Nat} (hi : i < n) (x : It) : Rw (put3 w q i x) q c n (upd f i x) := by
  obtain ⟨cur, h1, h2, h3, h4, h5⟩ := h
  refine ⟨_, ((h1.set _ _).set _ _).set _ _, by simpa using h2, h3, h4, fun k hk => ?_⟩
  have hs : k * 3 + 2 < cur.size := by rw [h2]; omega
  have hs' : i * 3 + 2 < cur.size := by rw [h2]; omega
  simp only [Array.getElem?_setIfInBounds]
  by_cases e : k = i
  · subst e
    rw [upd_same]
    refine ⟨?_, ?_, ?_⟩
    · rw [if_neg (by omega), if_neg (by omega), if_pos rfl, if_pos (by omega)]
    · rw [if_neg (by omega), if_pos rfl, if_pos (by simp; omega)]
    · rw [if_pos rfl, if_pos (by simp; omega)]
  · rw [upd_other _ _ e]
    obtain ⟨a, b, d⟩ := h5 k hk
    refine ⟨?_, ?_, ?_⟩
    · rw [if_neg (by omega), if_neg (by omega), if_neg (by omega)]; exact a
    · rw [if_neg (by omega), if_neg (by omega), if_neg (by omega)]; exact b
    · rw [if_neg (by omega), if_neg (by omega), if_neg (by omega)]; exact d
theorem _root_.Go.Proofs.Ytbfmoaojimimjaa.But.put3H {S : Nat → Prop} {a b : World} (h : But S a b) {q : Nat} (hq : S q) (i : Nat) (x : It) : But S a (put3 b q i x) := ((h.setCell (p := ⟨q, _, none⟩) hq _).setCell (p := ⟨q, _, none⟩) hq _).setCell (p := ⟨q, _, none⟩) hq _
/-- The map of the places. -/
abbrev OM (w : World) (m N : Nat) (D : DataW Unit) : Prop := w.ownsMap Try.prog 3 (plainElem Try.prog 3) m N D
theorem OM.norm {w : World} {m N : Nat} {D : DataW Unit} (h : OM w m N D) : OM w m (Maps.size D) D := by
  obtain ⟨es, clock, h1, h2, h3, h4⟩ := h
  refine ⟨es, clock, h1, h2, ?_, h4⟩
  rw [h4]
  show es.size ≤ _
  rw [Maps.size_eq, length_read]; exact Nat.le_refl _
theorem OM.but {w w' : World} {m N : Nat} {D : DataW Unit} {S : Nat → Prop} (h : OM w m N D) (hb : But S w w') (hs : ¬ S m) : OM w' m N D := by
  have hl := World.ownsMap.lt h
  obtain ⟨es, clock, h1, h2⟩ := h
  exact ⟨es, clock, by rw [hb.block m hl hs]; exact h1, h2⟩
theorem keyed : Maps.Keyed Try.prog 3 := Maps.int_keyed Try.underlying3
theorem zero3 (w : World) : (zeroValue 3).run Try.prog w = .ok (.int .i64 0) w := by kernel_rfl
/-- The blocks of a heap with an array. -/
structure Hm (w : World) (p q m c n : Nat) (R T : Int) (f : Nat → It) (D : DataW Unit) : Prop where
  pq : p ≠ q
  pm : p ≠ m
  qm : q ≠ m
  hp : Blk w p #[.int .i64 R, .int .i64 T, .slice (some ⟨q, 0, none⟩) n c, .map (some m)] 65
  hq : Rw w q c n f
  own : OM w m (Maps.size D) D
def Own (p q m : Nat) : Nat → Prop := fun k => k = p ∨ k = q ∨ k = m
theorem Hm.but {w w' : World} {p q m c n : Nat} {R T : Int} {f : Nat → It} {D : DataW Unit} {S : Nat → Prop} (h : Hm w p q m c n R T f D) (hb : But S w w') (hs : ∀ k, Own p q m k → ¬ S k) : Hm w' p q m c n R T f D :=
  ⟨h.pq, h.pm, h.qm, h.hp.but hb (hs p (.inl rfl)), h.hq.but hb (hs q (.inr (.inl rfl))), h.own.but hb (hs m (.inr (.inr rfl)))⟩
theorem Hm.put {w : World} {p q m c n : Nat} {R T : Int} {f : Nat → It} {D : DataW Unit} (h : Hm w p q m c n R T f D) {i : Nat} (hi : i < n) (x : It) : Hm (put3 w q i x) p q m c n R T (upd f i x) D :=
  have hb : But (Just q) w (put3 w q i x) := (But.refl _ w).put3H (just q) i x
  ⟨h.pq, h.pm, h.qm, h.hp.but hb h.pq, h.hq.put hi x, h.own.but hb (fun e => h.qm e.symm)⟩
theorem Hm.drew {w : World} {p q m c n : Nat} {R T : Int} {f : Nat → It} {D : DataW Unit} (h : Hm w p q m c n R T f D) : Hm w.drew p q m c n R T f D :=
  h.but (S := No) (But.refl _ _).drew (fun _ _ f => f)
theorem Hm.turnedH {w w' : World} {p q m c n N : Nat} {R T : Int} {f : Nat → It} {D D' : DataW Unit} (h : Hm w p q m c n R T f D) (ht : w.mapTurned w' m) (ho : OM w' m N D') : Hm w' p q m c n R T f D' :=
  have hb : But (Just m) w w' := (But.refl _ w).turnedH ht (just m)
  ⟨h.pq, h.pm, h.qm, h.hp.but hb h.pm, h.hq.but hb h.qm, ho.norm⟩
def ky (a : Int) : Lit := .int .i64 a
def vl (a : Int) : DataW Unit := .lit (.int .i64 a)
/-- The map tells the place of each id. -/
structure MapIs (n : Nat) (f : Nat → It) (D : DataW Unit) : Prop where
  tidy : Maps.Tidy D
  sz : Maps.size D = n
  at_ : ∀ i, i < n → Maps.has D (ky (f i).id) = true ∧ ∀ z, D.atKey (ky (f i).id) z = vl i
  no : ∀ a, (∀ i, i < n → (f i).id ≠ a) → Maps.has D (ky a) = false
  inj : ∀ i j, i < n → j < n → (f i).id = (f j).id → i = j
  rng : ∀ i, i < n → inR (f i).id
theorem ky_ne {a b : Int} (h : a ≠ b) : ky a ≠ ky b := by unfold ky; intro e; cases e; exact h rfl
theorem isKey (a : Int) : WideAt.IsKeyLit (ky a) := trivial
theorem MapIs.swp {n : Nat} {f : Nat → It} {D : DataW Unit} (h : MapIs n f D) {i j : Nat} (hi : i < n) (hj : j < n) : MapIs n (swp f i j) ((D.put (ky (f j).id) (vl i)).put (ky (f i).id) (vl j)) := by
  have T1 := h.tidy.put (isKey (f j).id) (vl i)
  refine ⟨T1.put (isKey _) _, ?_, fun k hk => ?_, fun a ha => ?_, fun k l hk hl e => ?_, fun k hk => ?_⟩
  · rw [Maps.size_put T1, Maps.size_put h.tidy, if_pos (h.at_ j hj).1]
    by_cases e : (f i).id = (f j).id
    · rw [e, Maps.has_put_same h.tidy.isMap (isKey _), if_pos rfl]; exact h.sz
    · rw [Maps.has_put_other (ky_ne e), if_pos (h.at_ i hi).1]; exact h.sz
  · by_cases e : k = j
    · subst e
      rw [swp_right]
      exact ⟨Maps.has_put_same T1.isMap (isKey _) _, fun z => Maps.atKey_put_same T1.isMap (isKey _) _ _⟩
    · by_cases e1 : k = i
      · subst e1
        rw [swp_left]
        have hne : ky (f j).id ≠ ky (f k).id := ky_ne (fun e' => e (h.inj j k hj hk e').symm)
        rw [Maps.has_put_other hne, Maps.has_put_same h.tidy.isMap (isKey _)]
        exact ⟨rfl, fun z => by rw [Maps.atKey_put_other hne, Maps.atKey_put_same h.tidy.isMap (isKey _)]⟩
      · rw [swp_other f e1 e]
        have n1 : ky (f k).id ≠ ky (f i).id := ky_ne (fun e' => e1 (h.inj k i hk hi e'))
        have n2 : ky (f k).id ≠ ky (f j).id := ky_ne (fun e' => e (h.inj k j hk hj e'))
        rw [Maps.has_put_other n1, Maps.has_put_other n2]
        exact ⟨(h.at_ k hk).1, fun z => by rw [Maps.atKey_put_other n1, Maps.atKey_put_other n2]; exact (h.at_ k hk).2 z⟩
  · have n1 : ky a ≠ ky (f i).id := ky_ne (fun e => by have := ha j hj; rw [swp_right] at this; exact this e.symm)
    have n2 : ky a ≠ ky (f j).id := ky_ne (fun e => by have := ha i hi; rw [swp_left] at this; exact this e.symm)
    rw [Maps.has_put_other n1, Maps.has_put_other n2]
    refine h.no a fun k hk => ?_
    by_cases e : k = j
    · subst e; have := ha i hi; rwa [swp_left] at this
    · by_cases e1 : k = i
      · subst e1; have := ha j hj; rwa [swp_right] at this
      · have := ha k hk; rwa [swp_other f e1 e] at this
  · have key : ∀ k, k < n → ∃ k', k' < n ∧ hea.swp f i j k = f k' ∧ (k = j → k' = i) ∧ (k = i → k' = j) ∧ (k ≠ i → k ≠ j → k' = k) := by
      intro k hk
      by_cases e5 : k = j
      · subst e5; exact ⟨i, hi, swp_right f i k, fun _ => rfl, fun e => e.symm, fun _ h => absurd rfl h⟩
      · by_cases e6 : k = i
        · subst e6; exact ⟨j, hj, swp_left f k j, fun h => absurd h e5, fun _ => rfl, fun h => absurd rfl h⟩
        · exact ⟨k, hk, swp_other f e6 e5, fun h => absurd h e5, fun h => absurd h e6, fun _ _ => rfl⟩
    obtain ⟨k', k1, k2, k3, k4, k5⟩ := key k hk
    obtain ⟨l', l1, l2, l3, l4, l5⟩ := key l hl
    rw [k2, l2] at e
    have := h.inj k' l' k1 l1 e
    by_cases a1 : k = j <;> by_cases a2 : k = i <;> by_cases a3 : l = j <;> by_cases a4 : l = i <;> simp_all
  · by_cases e : k = j
    · subst e; rw [swp_right]; exact h.rng i hi
    · by_cases e1 : k = i
      · subst e1; rw [swp_left]; exact h.rng j hj
      · rw [swp_other f e1 e]; exact h.rng k hk
end Go.Proofs.Ytbfmoaojimimjaa.hea
