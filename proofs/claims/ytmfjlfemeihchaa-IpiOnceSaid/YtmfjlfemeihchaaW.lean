/- The mailboxes in memory: the map by core and task; slices of notes. -/
import Derived.Test.YtmfjlfemeihchaaV0
import Derived.Test.YtmfjlfemeihchaaM
import Derived.Maps.OwnSet
import Derived.DeepKeys4
import Derived.WideKeyArgs
namespace Go.Proofs.Ytmfjlfemeihchaa
open Go.ChangeShapes Go.WideShapes Go.ChangeAt Go.RowKit Go.Deep
theorem But.turned {S : Nat → Prop} {a b c : World} {m : Nat} (h : But S a b) (ht : b.mapTurned c m) (hm : S m) : But S a c :=
  h.grown ht.grown (fun k e => .inl (by cases e; exact hm))
abbrev noteV (a b c : Int) : Value := .agg #[.int .i64 a, .int .i64 b, .int .i64 c]
def nd (a b c : Int) : DataW Unit := .agg [.lit (.int .i64 a), .lit (.int .i64 b), .lit (.int .i64 c)]
/-- How a note reads. -/
def noteR : Value → Option (DataW Unit × List MemPlace)
  | .agg cs => match cs.toList with
    | [.int .i64 a, .int .i64 b, .int .i64 c] => some (nd a b c, [])
    | _ => none
  | _ => none
theorem noteR_mk (a b c : Int) : noteR (noteV a b c) = some (nd a b c, []) := rfl
theorem noteR_inv {v : Value} {a b c : Int} {ps : List MemPlace} (h : noteR v = some (nd a b c, ps)) : v = noteV a b c := by
  unfold noteR at h
  split at h
  · rename_i cs
    split at h
    · rename_i a' b' c' e
      simp only [Option.some.injEq, Prod.mk.injEq, nd, DataW.agg.injEq, List.cons.injEq, DataW.lit.injEq, Lit.int.injEq, true_and, and_true] at h
      obtain ⟨⟨rfl, rfl, rfl⟩, _⟩ := h
      have : cs = #[.int .i64 a', .int .i64 b', .int .i64 c'] := by
        apply Array.ext'
        exact e
      rw [this]
    · cases h
  · cases h
abbrev keyV (c t : Int) : Value := .agg #[.int .i64 c, .int .i64 t]
theorem row48 : (48 : TypeId) < Try.prog.types.size := of_decide_eq_true (by kernel_rfl)
theorem wide48 : (match Try.prog.underlying 48 with | some (.array _ _) | some (.struct _) => true | _ => false) = true := by kernel_rfl
theorem keyed48 : Maps.Keyed Try.prog 48 := Maps.Keyed.of_law (deep_law_laid laidOut (m := 2) (by omega) row48 (by kernel_rfl) wide48)
noncomputable def kl (c t : Int) : Lit := (keyOf Try.prog 48 (keyV c t)).getD (.bool false)
theorem lits48 (d : Nat) {c t : Int} (hc : inR c) (ht : inR t) : Try.prog.keyLits (d + 2) 48 [.int .i64 c, .int .i64 t] = some [.int .i64 c, .int .i64 t] := by
  have w1 := wf_of hc
  have w2 := wf_of ht
  have u3 : Try.prog.underlying 3 = some (.int .i64) := Try.underlying3
  have h2 : Try.prog.cellsOf 48 = 2 := by kernel_rfl
  have h3 : Try.prog.cellsOf 3 = 1 := by kernel_rfl
  unfold Program.keyLits
  rw [Try.underlying48]
  simp [h2, Program.keyLits, h3, u3, w1, w2]
theorem kl_is {c t : Int} (hc : inR c) (ht : inR t) : keyOf Try.prog 48 (keyV c t) = some (kl c t) := by
  have h : ∃ l, keyOf Try.prog 48 (keyV c t) = some l := by
    have hk : Try.prog.keyType 48 = true := by kernel_rfl
    have hs : Try.prog.types.size = 73 + 2 := by kernel_rfl
    have h2 : Try.prog.cellsOf 48 = 2 := by kernel_rfl
    have hf : (keyV c t).formed Try.prog 48 = true := by simp [Value.formed, Try.underlying48, h2]
    unfold keyOf
    rw [Try.underlying48, hs]
    simp only [hk, hf, Value.cells]
    rw [show 73 + 2 + 1 = 74 + 2 from rfl, lits48 74 hc ht]
    exact ⟨_, rfl⟩
  obtain ⟨l, h⟩ := h
  unfold kl; rw [h]; rfl
theorem kl_inj {a b c d : Int} (ha : inR a) (hb : inR b) (hc : inR c) (hd : inR d) (h : kl a b = kl c d) : a = c ∧ b = d := by
  have := keyed48.inj (kl_is ha hb) (by rw [h]; exact kl_is hc hd)
  simpa using this
theorem kl_key {c t : Int} (hc : inR c) (ht : inR t) : WideAt.IsKeyLit (kl c t) := keyed48.key (kl_is hc ht)
theorem zero50 (w : World) : (zeroValue 50).run Try.prog w = .ok (noteV 0 0 0) w := by kernel_rfl
/-- The map of the notes. -/
abbrev OM (w : World) (m N : Nat) (D : DataW Unit) : Prop := w.ownsMap Try.prog 48 noteR m N D
theorem OM.but {w w' : World} {m N : Nat} {D : DataW Unit} {S : Nat → Prop} (h : OM w m N D) (hb : But S w w') (hs : ¬ S m) : OM w' m N D := by
  have hl := World.ownsMap.lt h
  obtain ⟨es, clock, h1, h2⟩ := h
  exact ⟨es, clock, by rw [hb.block m hl hs]; exact h1, h2⟩
/-- What the map tells of a core and a task. -/
def MapIs (F : Int → Int → Option Nt) (D : DataW Unit) : Prop :=
  ∀ a b, inR a → inR b → Maps.has D (kl a b) = (F a b).isSome ∧ ∀ z, D.atKey (kl a b) z = match F a b with | some n => nd n.task n.due n.turn | none => z
theorem MapIs.put {F G : Int → Int → Option Nt} {D : DataW Unit} (h : MapIs F D) (hD : Maps.IsMap D) {c t : Int} (hc : inR c) (ht : inR t) (n : Nt) (hG : G c t = some n) (hG' : ∀ a b, ¬ (a = c ∧ b = t) → G a b = F a b) : MapIs G (D.put (kl c t) (nd n.task n.due n.turn)) := by
  intro a b ha hb
  by_cases e : a = c ∧ b = t
  · obtain ⟨rfl, rfl⟩ := e
    rw [hG]
    exact ⟨Maps.has_put_same hD (kl_key ha hb) _, fun z => Maps.atKey_put_same hD (kl_key ha hb) _ _⟩
  · have ne : kl a b ≠ kl c t := fun e' => e (kl_inj ha hb hc ht e')
    rw [hG' a b e]
    exact ⟨(Maps.has_put_other ne _).trans (h a b ha hb).1, fun z => (Maps.atKey_put_other ne _ z).trans ((h a b ha hb).2 z)⟩
theorem MapIs.del {F G : Int → Int → Option Nt} {D : DataW Unit} (h : MapIs F D) {c t : Int} (hc : inR c) (ht : inR t) (hG : G c t = none) (hG' : ∀ a b, ¬ (a = c ∧ b = t) → G a b = F a b) : MapIs G (D.del (kl c t)) := by
  intro a b ha hb
  by_cases e : a = c ∧ b = t
  · obtain ⟨rfl, rfl⟩ := e
    rw [hG]
    exact ⟨Maps.has_del_same, fun z => Maps.atKey_del_same z⟩
  · have ne : kl a b ≠ kl c t := fun e' => e (kl_inj ha hb hc ht e')
    rw [hG' a b e]
    exact ⟨(Maps.has_del_other ne).trans (h a b ha hb).1, fun z => (Maps.atKey_del_other ne z).trans ((h a b ha hb).2 z)⟩
theorem MapIs.congr {F G : Int → Int → Option Nt} {D : DataW Unit} (h : MapIs F D) (e : ∀ a b, G a b = F a b) : MapIs G D := fun a b ha hb => by rw [e]; exact h a b ha hb
/-- The note that a look-up hands over. -/
def ov : Option Nt → Value | some n => noteV n.task n.due n.turn | none => noteV 0 0 0
theorem look_run {w : World} {m N : Nat} {F : Int → Int → Option Nt} {D : DataW Unit} (ho : OM w m N D) (hm : MapIs F D) {c t : Int} (hc : inR c) (ht : inR t) :
    (Instr.lookup 40 (.map (some m)) (keyV c t) true).run Try.prog w = .ok (.tuple #[ov (F c t), .bool (F c t).isSome]) w := by
  obtain ⟨v, ps, hr, hv⟩ := ho.look_ok keyed48 Try.underlying40 (zero50 w) (zd := nd 0 0 0) (zp := []) rfl (kl_is hc ht)
  obtain ⟨h1, h2⟩ := hm c t hc ht
  rw [hr, h1]
  rw [h2] at hv
  cases e : F c t with
  | none =>
    rw [e] at hv
    rw [noteR_inv hv]; rfl
  | some n =>
    rw [e] at hv
    rw [noteR_inv hv]; rfl
def Own (p m : Nat) : Nat → Prop := fun k => k = p ∨ k = m
theorem Blk.ne_map {w : World} {b m N : Nat} {cur : Array Value} {e : TypeId} {D : DataW Unit} (h : Blk w b cur e) (hm : OM w m N D) : b ≠ m := by
  rintro rfl
  obtain ⟨es, clock, h1, _⟩ := hm
  unfold Blk at h
  rw [h] at h1; cases h1
/-- At p lie mailboxes of C cores that hold L, in the order of sending; T turns have been given; the map is in block m. -/
structure BP (w : World) (p m : Nat) (C : Int) (T : Nat) (L : List Nt) : Prop where
  hp : Blk w p #[.int .i64 C, .int .i64 T, .map (some m)] 42
  map : ∃ D, OM w m T D ∧ MapIs (fnd L) D
  gd : Gd C T L
theorem BP.but {w w' : World} {p m : Nat} {C : Int} {T : Nat} {L : List Nt} {S : Nat → Prop} (h : BP w p m C T L) (hb : But S w w') (hp : ¬ S p) (hm : ¬ S m) : BP w' p m C T L := by
  obtain ⟨D, h1, h2⟩ := h.map
  exact ⟨h.hp.but hb hp, ⟨D, h1.but hb hm, h2⟩, h.gd⟩
theorem BP.no {w w' : World} {p m : Nat} {C : Int} {T : Nat} {L : List Nt} (h : BP w p m C T L) (hb : But No w w') : BP w' p m C T L := h.but hb (fun f => f) (fun f => f)
theorem BP.lt {w : World} {p m : Nat} {C : Int} {T : Nat} {L : List Nt} (h : BP w p m C T L) : ∀ k, Own p m k → k < w.heap.size := by
  obtain ⟨D, h1, h2⟩ := h.map
  rintro k (rfl | rfl)
  · exact h.hp.lt
  · exact World.ownsMap.lt h1
theorem BP.look {w : World} {p m : Nat} {C : Int} {T : Nat} {L : List Nt} (h : BP w p m C T L) {c t : Int} (hc : inR c) (ht : inR t) :
    (Instr.lookup 40 (.map (some m)) (keyV c t) true).run Try.prog w = .ok (.tuple #[ov (fnd L c t), .bool (fnd L c t).isSome]) w := by
  obtain ⟨D, h1, h2⟩ := h.map
  exact look_run h1 h2 hc ht
/-- Notes as cells, three each. -/
def flat (a b c : Nt → Int) : List Nt → List Value
  | [] => []
  | t :: r => .int .i64 (a t) :: .int .i64 (b t) :: .int .i64 (c t) :: flat a b c r
section
variable {a b c : Nt → Int}
theorem flat_length (K : List Nt) : (flat a b c K).length = K.length * 3 := by
  induction K with
  | nil => rfl
  | cons t r ih => simp only [flat, List.length_cons, ih]; omega
theorem flat_append (K M : List Nt) : flat a b c (K ++ M) = flat a b c K ++ flat a b c M := by
  induction K with
  | nil => rfl
  | cons t r ih => simp only [List.cons_append, flat, ih]
theorem flat_get {K : List Nt} {k : Nat} (hk : k < K.length) : (flat a b c K)[k * 3]? = some (.int .i64 (a (K.getD k nt0))) ∧ (flat a b c K)[k * 3 + 1]? = some (.int .i64 (b (K.getD k nt0))) ∧ (flat a b c K)[k * 3 + 2]? = some (.int .i64 (c (K.getD k nt0))) := by
  induction K generalizing k with
  | nil => simp at hk
  | cons t r ih =>
    cases k with
    | zero => simp [flat]
    | succ k =>
      have := ih (k := k) (by simpa using hk)
      rw [show (k + 1) * 3 = k * 3 + 1 + 1 + 1 by omega]
      simpa [flat] using this
theorem flat_set {K : List Nt} {k : Nat} (x : Nt) (hk : k < K.length) : (((flat a b c K).set (k * 3) (.int .i64 (a x))).set (k * 3 + 1) (.int .i64 (b x))).set (k * 3 + 2) (.int .i64 (c x)) = flat a b c (K.set k x) := by
  induction K generalizing k with
  | nil => simp at hk
  | cons t r ih =>
    cases k with
    | zero => simp [flat]
    | succ k =>
      have := ih (k := k) (by simpa using hk)
      rw [show (k + 1) * 3 = k * 3 + 1 + 1 + 1 by omega]
      simp only [flat, List.set_cons_succ, this]
theorem flat_cell (K : List Nt) : ∀ u ∈ flat a b c K, u.oneCell' = true := by
  induction K with
  | nil => simp [flat]
  | cons t r ih =>
    intro u hu
    simp only [flat, List.mem_cons] at hu
    rcases hu with rfl | rfl | rfl | hu
    · rfl
    · rfl
    · rfl
    · exact ih u hu
theorem flat_take (K : List Nt) (k : Nat) : (flat a b c K).take (k * 3) = flat a b c (K.take k) := by
  induction K generalizing k with
  | nil => simp [flat]
  | cons t r ih =>
    cases k with
    | zero => simp [flat]
    | succ k =>
      rw [show (k + 1) * 3 = k * 3 + 1 + 1 + 1 by omega]
      simp only [flat, List.take_succ_cons, ih]
theorem flat_drop (K : List Nt) (k : Nat) : (flat a b c K).drop (k * 3) = flat a b c (K.drop k) := by
  induction K generalizing k with
  | nil => simp [flat]
  | cons t r ih =>
    cases k with
    | zero => simp [flat]
    | succ k =>
      rw [show (k + 1) * 3 = k * 3 + 1 + 1 + 1 by omega]
      simp only [flat, List.drop_succ_cons, ih]
end
/-- v is a slice of the call's own that reads as these notes. -/
def Ov3 (e : TypeId) (a b c : Nt → Int) (w : World) (v : Value) (K : List Nt) : Prop := w.ownsRow 0 e 3 v K.length (flat a b c K)
section
variable {e : TypeId} {a b c : Nt → Int}
theorem Ov3.nil (w : World) : Ov3 e a b c w (.slice none 0 0) [] := World.ownsRow_nil _ _ _ _
theorem Ov3.but {w w' : World} {v : Value} {K : List Nt} {S : Nat → Prop} (h : Ov3 e a b c w v K) (hb : But S w w') (hs : ∀ k, v.ownBlock = some k → ¬ S k) : Ov3 e a b c w' v K := owns_but h hb hs
theorem Ov3.no {w w' : World} {v : Value} {K : List Nt} (h : Ov3 e a b c w v K) (hb : But No w w') : Ov3 e a b c w' v K := h.but hb (fun _ _ f => f)
theorem Ov3.lt {w : World} {v : Value} {K : List Nt} (h : Ov3 e a b c w v K) : ∀ k, v.ownBlock = some k → k < w.heap.size := fun k e => (World.ownsRow.lt h k e).2
theorem Ov3.slice {w : World} {v : Value} {K : List Nt} (h : Ov3 e a b c w v K) : ∃ A c, v = .slice A K.length c ∧ K.length ≤ c := by
  obtain ⟨h1, h2⟩ := h
  rcases h2 with ⟨h2, e⟩ | ⟨g, cap, cur, hv, _, _, hc, _⟩
  · exact ⟨none, 0, by rw [e]; exact h2, by omega⟩
  · exact ⟨_, _, hv, hc⟩
theorem Ov3.cell {w : World} {A : Option Addr} {n d k : Nat} {K : List Nt} (h : Ov3 e a b c w (.slice A n d) K) (hk : k < K.length) :
    ∃ g, A = some ⟨g, 0, none⟩ ∧ g < w.heap.size ∧ w.cell? ⟨g, k * 3, none⟩ = some (.int .i64 (a (K.getD k nt0))) ∧ w.cell? ⟨g, k * 3 + 1, none⟩ = some (.int .i64 (b (K.getD k nt0))) ∧ w.cell? ⟨g, k * 3 + 2, none⟩ = some (.int .i64 (c (K.getD k nt0))) ∧ ∀ o, w.frozen? ⟨g, o, none⟩ = false := by
  obtain ⟨h1, h2⟩ := h
  rcases h2 with ⟨_, e⟩ | ⟨g, cap, cur, hv, _, hh, hc, _, hs, ht⟩
  · omega
  · cases hv
    have hg := flat_get (a := a) (b := b) (c := c) hk
    rw [← ht, List.getElem?_take, List.getElem?_take, List.getElem?_take, if_pos (by omega), if_pos (by omega), if_pos (by omega)] at hg
    exact ⟨g, rfl, Blk.lt hh, Blk.cell hh (by simpa using hg.1), Blk.cell hh (by simpa using hg.2.1), Blk.cell hh (by simpa using hg.2.2), fun o => Blk.frozen hh o⟩
/-- The three stores of a note. -/
def put3 (w : World) (g k : Nat) (x y z : Int) : World := ((w.setCell ⟨g, k * 3, none⟩ (.int .i64 x)).setCell ⟨g, k * 3 + 1, none⟩ (.int .i64 y)).setCell ⟨g, k * 3 + 2, none⟩ (.int .i64 z)
theorem But.put3 {S : Nat → Prop} {u v : World} (h : But S u v) {g : Nat} (hq : S g) (k : Nat) (x y z : Int) : But S u (put3 v g k x y z) := ((h.setCell (p := ⟨g, _, none⟩) hq _).setCell (p := ⟨g, _, none⟩) hq _).setCell (p := ⟨g, _, none⟩) hq _
theorem Ov3.set {w : World} {g n d k : Nat} {K : List Nt} (h : Ov3 e a b c w (.slice (some ⟨g, 0, none⟩) n d) K) (hk : k < K.length) (x : Nt) :
    Ov3 e a b c (put3 w g k (a x) (b x) (c x)) (.slice (some ⟨g, 0, none⟩) n d) (K.set k x) := by
  obtain ⟨h1, h2⟩ := h
  rcases h2 with ⟨e, _⟩ | ⟨g', cap, cur, hv, h0, hh, hc, hm, hs, ht⟩
  · cases e
  · cases hv
    refine ⟨by rw [flat_length], .inr ⟨g, d, _, ?_, h0, Blk.set (Blk.set (Blk.set hh _ _) _ _) _ _, ?_, hm, by simpa using hs, ?_⟩⟩
    · rw [List.length_set]
    · rw [List.length_set]; exact hc
    · rw [← flat_set x hk, ← ht, List.length_set]
      rw [Array.toList_setIfInBounds, Array.toList_setIfInBounds, Array.toList_setIfInBounds, List.take_set, List.take_set, List.take_set]
/-- What an append to it leaves. -/
theorem Ov3.app {w2 : World} {v' : Value} {K : List Nt} {x : Nt} {n : Nat} (hn : K.length = n) (ho : w2.ownsRow 0 e 3 v' (n + 1) (flat a b c K ++ [.int .i64 (a x), .int .i64 (b x), .int .i64 (c x)])) : Ov3 e a b c w2 v' (K ++ [x]) := by
  unfold Ov3; rw [List.length_append, flat_append, hn]; exact ho
end
abbrev OvP := Ov3 50 Nt.task Nt.due Nt.turn
abbrev OvR := Ov3 53 Nt.core Nt.task Nt.due
theorem info50 : (Try.prog.info? 50).map (fun i => (i.zero, i.size, i.bytes)) = some (some (noteV 0 0 0), 3, 24) := by kernel_rfl
theorem info53 : (Try.prog.info? 53).map (fun i => (i.zero, i.size, i.bytes)) = some (some (noteV 0 0 0), 3, 24) := by kernel_rfl
theorem three_reads (w : World) (e : TypeId) (x y z : Int) : Reads (w.alloc (.cells #[.int .i64 x, .int .i64 y, .int .i64 z] e)) (w.heap.size + 1) 3 (some ⟨w.heap.size, 0, none⟩) 1 [.int .i64 x, .int .i64 y, .int .i64 z] :=
  ⟨rfl, fun _ => ⟨_, rfl, Nat.lt_succ_self _, World.news_of_block (cs := #[.int .i64 x, .int .i64 y, .int .i64 z]) (t := e) (fr := (0, 0)) (Blk.new w _ _)⟩⟩
theorem three_cell (x y z : Int) : ∀ u ∈ [Value.int .i64 x, .int .i64 y, .int .i64 z], u.oneCell' = true := by simp [Value.oneCell']
end Go.Proofs.Ytmfjlfemeihchaa
