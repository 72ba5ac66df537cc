/- Arguments: lists of deeds of five numbers as they lie in memory. -/
import Derived.Test.YtmfjlfemeihchaaE
import Derived.Deep.Slices
import Derived.Deep.Fields
import Derived.ChangeSame
namespace Go.Proofs.Ytmfjlfemeihchaa
open Go.ChangeShapes Go.WideShapes Go.ChangeAt Go.RowKit Go.Deep
section
variable {H : Type} {enc : TypeId × Value → H} {P : Program} {w : World} {base : Nat} {spare : Nat → Bool} {held : Bool}
theorem open_slice_fields {t e : TypeId} {fs : Array Field} {fuel : Nat} {cs : List Value} {x : DataW H × List MemPlace} (ht : P.underlying t = some (.slice e)) (he : P.underlying e = some (.struct fs))
    (hone : oneCellFields P fs = true) (hC : P.cellsOf e = fs.size) (h : DataW.trod enc P w base spare held fuel t cs = some x) :
    (cs = [.slice none 0 0] ∧ x = (.nil, [])) ∨
    ∃ (a : Addr) (len cap m : Nat) (D : Nat → DataW H) (Pl : Nat → List MemPlace), cs = [.slice (some a) len cap] ∧ base ≤ a.block ∧ len ≤ cap ∧ cap ≤ maxLen ∧ m = (if spare a.block then cap else len) ∧
      x = (.slice ((List.range len).map D) ((List.range (m - len)).map fun j => D (len + j)), MemPlace.row a (m * fs.size) ++ (List.range m).flatMap Pl) ∧
      ∀ i, i < m → ∃ (ys : List (DataW H × List MemPlace)) (n : Nat), D i = .agg (ys.map (·.1)) ∧ Pl i = ys.flatMap (·.2) ∧ ys.length = fs.size ∧
        ∀ (j : Nat) (f : Field), fs[j]? = some f → ∃ (v : Value) (y : DataW H × List MemPlace), w.cell? (a.add (i * fs.size + j)) = some v ∧ ys[j]? = some y ∧ DataW.trod enc P w base spare held n f.type [v] = some y := by
  rcases open_slice ht h with h0 | ⟨a, len, cap, m, n, D, Pl, hcs, hb, hl, hm, hmm, hx, hi⟩
  · exact .inl h0
  · refine .inr ⟨a, len, cap, m, D, Pl, hcs, hb, hl, hm, hmm, by rw [hC] at hx; exact hx, fun i him => ?_⟩
    obtain ⟨cs', hc, ht'⟩ := hi i him
    rw [hC] at hc
    obtain ⟨ys, n', hn', hy, hlen, hyl, hf⟩ := DataW.trod_struct he ht'
    obtain ⟨_, hcl, hat⟩ := World.cells?_some hc
    simp only [Prod.mk.injEq] at hy
    refine ⟨ys, n', hy.1, hy.2, hyl, fun j f hj => ?_⟩
    obtain ⟨ho, hk⟩ := hone_of hone j f hj
    have hjl : j < fs.size := (Array.getElem?_eq_some_iff.1 hj).1
    have hcell := hat j hjl
    have hv : cs'[j]? = some (cs'[j]'(by omega)) := List.getElem?_eq_getElem (by omega)
    have h1 := hf j f hj
    rw [ho, hk] at h1
    have hone' : (cs'.drop j).take 1 = [cs'[j]'(by omega)] := by
      rw [List.drop_eq_getElem_cons (by omega)]
      rfl
    rw [hone'] at h1
    have hys : ys[j]? = some (ys[j]'(by omega)) := List.getElem?_eq_getElem (by omega)
    refine ⟨_, _, ?_, hys, h1.trans hys⟩
    rw [← Go.Deep.add_add, hcell, hv]
end
structure Dd where
  kd : Int
  co : Int
  tk : Int
  nw : Int
  lt : Int
/-- A slice of n deeds at A. -/
structure RdD (w : World) (A : Option Addr) (n : Nat) (f : Nat → Dd) : Prop where
  max : n ≤ 9223372036854775807
  at_ : 0 < n → ∃ b off, A = some ⟨b, off, none⟩ ∧ b < w.heap.size ∧ ∀ k, k < n → w.cell? ⟨b, off + k * 5, none⟩ = some (.int .i64 (f k).kd) ∧ w.cell? ⟨b, off + k * 5 + 1, none⟩ = some (.int .i64 (f k).co) ∧ w.cell? ⟨b, off + k * 5 + 2, none⟩ = some (.int .i64 (f k).tk) ∧ w.cell? ⟨b, off + k * 5 + 3, none⟩ = some (.int .i64 (f k).nw) ∧ w.cell? ⟨b, off + k * 5 + 4, none⟩ = some (.int .i64 (f k).lt)
  fit : ∀ k, k < n → inR (f k).kd ∧ inR (f k).co ∧ inR (f k).tk ∧ inR (f k).nw ∧ inR (f k).lt
theorem RdD.no {w w' : World} {A : Option Addr} {n : Nat} {f : Nat → Dd} (h : RdD w A n f) (hb : But No w w') : RdD w' A n f :=
  ⟨h.max, fun hn => by
    obtain ⟨b, off, e, hl, hc⟩ := h.at_ hn
    exact ⟨b, off, e, Nat.lt_of_lt_of_le hl hb.size, fun k hk => by rw [hb.cell hl (fun f => f), hb.cell hl (fun f => f), hb.cell hl (fun f => f), hb.cell hl (fun f => f), hb.cell hl (fun f => f)]; exact hc k hk⟩, h.fit⟩
theorem int_of {H : Type} {enc : TypeId × Value → H} {W : World} {base n : Nat} {sp : Nat → Bool} {held : Bool} {v : Value} {y : DataW H × List MemPlace} (h : DataW.trod enc Try.prog W base sp held n 3 [v] = some y) : ∃ z, v = .int .i64 z ∧ inR z := by
  obtain ⟨z, hz⟩ := DataW.trod_int Try.underlying3 h
  simp only [List.cons.injEq, and_true] at hz
  exact ⟨z, hz.1, inR_of hz.2.2⟩
theorem rdD_of {H : Type} {enc : TypeId × Value → H} {W : World} {base : Nat} {v : Value} {d : DataW H} {p : List MemPlace} (hv : Value.okWide Try.prog W .any base 22 v) (h : DataW.Trod enc Try.prog W 0 (fun _ => true) true 22 v d p) :
    ∃ (A : Option Addr) (n c : Nat) (f : Nat → Dd), v = .slice A n c ∧ RdD W A n f ∧ n ≤ c := by
  obtain ⟨a0, len, cap, rfl⟩ := okWide_slice Try.underlying22 hv
  obtain ⟨fuel, hf⟩ := h
  refine ⟨a0, len, cap, ?_⟩
  rcases open_slice_fields Try.underlying22 Try.underlying31 (by kernel_rfl) (by kernel_rfl) hf with ⟨hcs, hx⟩ | ⟨a, len', cap', m, DD, Pl, hcs, _, hl, hm, hmm, hx, hi⟩
  · simp [Value.cells] at hcs
    obtain ⟨rfl, rfl, rfl⟩ := hcs
    exact ⟨fun _ => ⟨0, 0, 0, 0, 0⟩, rfl, ⟨by omega, fun h => absurd h (by omega), fun k hk => absurd hk (by omega)⟩, Nat.le_refl _⟩
  · simp [Value.cells] at hcs
    obtain ⟨rfl, rfl, rfl⟩ := hcs
    simp only [if_true] at hmm
    unfold maxLen at hm
    have key : ∀ k, ∃ z : Dd, k < len → (W.cell? (a.add (k * 5)) = some (.int .i64 z.kd) ∧ W.cell? (a.add (k * 5 + 1)) = some (.int .i64 z.co) ∧ W.cell? (a.add (k * 5 + 2)) = some (.int .i64 z.tk) ∧ W.cell? (a.add (k * 5 + 3)) = some (.int .i64 z.nw) ∧ W.cell? (a.add (k * 5 + 4)) = some (.int .i64 z.lt)) ∧ inR z.kd ∧ inR z.co ∧ inR z.tk ∧ inR z.nw ∧ inR z.lt := by
      intro k
      by_cases hk : k < len
      · obtain ⟨ys, nn, _, _, _, hff⟩ := hi k (by omega)
        obtain ⟨v0, y0, c0, _, t0⟩ := hff 0 _ rfl
        obtain ⟨v1, y1, c1, _, t1⟩ := hff 1 _ rfl
        obtain ⟨v2, y2, c2, _, t2⟩ := hff 2 _ rfl
        obtain ⟨v3, y3, c3, _, t3⟩ := hff 3 _ rfl
        obtain ⟨v4, y4, c4, _, t4⟩ := hff 4 _ rfl
        obtain ⟨z0, rfl, r0⟩ := int_of t0
        obtain ⟨z1, rfl, r1⟩ := int_of t1
        obtain ⟨z2, rfl, r2⟩ := int_of t2
        obtain ⟨z3, rfl, r3⟩ := int_of t3
        obtain ⟨z4, rfl, r4⟩ := int_of t4
        exact ⟨⟨z0, z1, z2, z3, z4⟩, fun _ => ⟨⟨c0, c1, c2, c3, c4⟩, r0, r1, r2, r3, r4⟩⟩
      · exact ⟨⟨0, 0, 0, 0, 0⟩, fun h => absurd h hk⟩
    obtain ⟨zf, hz⟩ := Classical.axiomOfChoice key
    refine ⟨zf, rfl, ⟨by omega, fun hn => ?_, fun k hk => (hz k hk).2⟩, hl⟩
    obtain ⟨b, off, spot⟩ := a
    have hspot : spot = none := by simpa [Addr.add] using World.cell?_spot (hz 0 hn).1.1
    subst hspot
    refine ⟨b, off, rfl, World.block_lt_of_cell? W _ (hz 0 hn).1.1, fun k hk => ?_⟩
    have := (hz k hk).1
    simp only [add_plain] at this
    simpa only [Nat.add_assoc] using this
end Go.Proofs.Ytmfjlfemeihchaa
