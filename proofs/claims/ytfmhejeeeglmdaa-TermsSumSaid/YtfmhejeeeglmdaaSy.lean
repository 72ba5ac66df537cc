/- A System that came in: its numbers, its tasks, their sections, as they lie in memory. -/
import Derived.Test.YtfmhejeeeglmdaaBase
import Derived.Test.YtfmhejeeeglmdaaTkM
namespace Go.Proofs.Ytfmhejeeeglmdaa
open Go.ChangeShapes Go.WideShapes Go.ChangeAt Go.RowKit Go.Deep
section
variable {H : Type} {enc : TypeId × Value → H} {P : Program} {w : World} {base : Nat} {spare : Nat → Bool} {held : Bool}
theorem open_slice_fields {t e : TypeId} {fs : Array Field} {fuel : Nat} {cs : List Value} {x : DataW H × List MemPlace} (ht : P.underlying t = some (.slice e)) (he : P.underlying e = some (.struct fs))
    (hone : oneCellFields P fs = true) (hC : P.cellsOf e = fs.size) (h : DataW.trod enc P w base spare held fuel t cs = some x) :
    (cs = [.slice none 0 0] ∧ x = (.nil, [])) ∨
    ∃ (a : Addr) (len cap m : Nat) (D : Nat → DataW H) (Pl : Nat → List MemPlace), cs = [.slice (some a) len cap] ∧ base ≤ a.block ∧ len ≤ cap ∧ cap ≤ maxLen ∧ m = (if spare a.block then cap else len) ∧
      x = (.slice ((List.range len).map D) ((List.range (m - len)).map fun j => D (len + j)), MemPlace.row a (m * fs.size) ++ (List.range m).flatMap Pl) ∧
      ∀ i, i < m → ∃ (ys : List (DataW H × List MemPlace)) (n : Nat), D i = .agg (ys.map (·.1)) ∧ Pl i = ys.flatMap (·.2) ∧ ys.length = fs.size ∧
        ∀ (j : Nat) (f : Field), fs[j]? = some f → ∃ (v : Value) (y : DataW H × List MemPlace), w.cell? (a.add (i * fs.size + j)) = some v ∧ ys[j]? = some y ∧ DataW.trod enc P w base spare held n f.type [v] = some y := by
  rcases open_slice ht h with h0 | ⟨a, len, cap, m, n, D, Pl, hcs, hb, hl, hm, hmm, hx, hi⟩
  · exact .inl h0
  · refine .inr ⟨a, len, cap, m, D, Pl, hcs, hb, hl, hm, hmm, by rw [hC] at hx; exact hx, fun i him => ?_⟩
    obtain ⟨cs', hc, ht'⟩ := hi i him
    rw [hC] at hc
    obtain ⟨ys, n', hn', hy, hlen, hyl, hf⟩ := DataW.trod_struct he ht'
    obtain ⟨_, hcl, hat⟩ := World.cells?_some hc
    simp only [Prod.mk.injEq] at hy
    refine ⟨ys, n', hy.1, hy.2, hyl, fun j f hj => ?_⟩
    obtain ⟨ho, hk⟩ := hone_of hone j f hj
    have hjl : j < fs.size := (Array.getElem?_eq_some_iff.1 hj).1
    have hcell := hat j hjl
    have hv : cs'[j]? = some (cs'[j]'(by omega)) := List.getElem?_eq_getElem (by omega)
    have h1 := hf j f hj
    rw [ho, hk] at h1
    have hone' : (cs'.drop j).take 1 = [cs'[j]'(by omega)] := by
      rw [List.drop_eq_getElem_cons (by omega)]
      rfl
    rw [hone'] at h1
    have hys : ys[j]? = some (ys[j]'(by omega)) := List.getElem?_eq_getElem (by omega)
    refine ⟨_, _, ?_, hys, h1.trans hys⟩
    rw [← Go.Deep.add_add, hcell, hv]
/-- A struct by value, of any number of one-cell fields. -/
theorem open_agg_fields {r : Reach} {b0 : Nat} {t : TypeId} {fs : Array Field} {v : Value} {d : DataW H} {p : List MemPlace} (hs : P.underlying t = some (.struct fs)) (hone : oneCellFields P fs = true) (hC : P.cellsOf t = fs.size)
    (hv : Value.okWide P w r b0 t v) (h : DataW.Trod enc P w base spare held t v d p) :
    ∃ (l : List Value) (n : Nat), v = .agg l.toArray ∧ l.length = fs.size ∧ ∀ (j : Nat) (f : Field), fs[j]? = some f → ∃ (u : Value) (y : DataW H × List MemPlace), l[j]? = some u ∧ DataW.trod enc P w base spare held n f.type [u] = some y := by
  obtain ⟨cs, rfl, hsz⟩ := okWide_struct hs hv
  obtain ⟨l⟩ := cs
  obtain ⟨fuel, hf⟩ := h
  obtain ⟨xs, n, _, hx, _, hlen, hg⟩ := DataW.trod_struct hs hf
  have hll : l.length = fs.size := by rw [← hC, ← hsz]; rfl
  refine ⟨l, n, rfl, hll, fun j f hj => ?_⟩
  obtain ⟨ho, hk⟩ := hone_of hone j f hj
  have hjl : j < fs.size := (Array.getElem?_eq_some_iff.1 hj).1
  have h1 := hg j f hj
  rw [ho, hk] at h1
  have hone' : (l.drop j).take 1 = [l[j]'(by omega)] := by
    rw [List.drop_eq_getElem_cons (by omega)]
    rfl
  have h2 : DataW.trod enc P w base spare held n f.type [l[j]'(by omega)] = xs[j]? := by rw [← hone']; simpa [Value.cells] using h1
  have hys : xs[j]? = some (xs[j]'(by omega)) := List.getElem?_eq_getElem (by omega)
  exact ⟨_, _, List.getElem?_eq_getElem (by omega), h2.trans hys⟩
theorem type_at {fs : Array Field} {ts : Array TypeId} (h : fs.map (·.type) = ts) {j : Nat} {t : TypeId} (hj : ts[j]? = some t) : ∃ f, fs[j]? = some f ∧ f.type = t := by
  rw [← h, Array.getElem?_map] at hj
  cases hf : fs[j]? with
  | none => rw [hf] at hj; cases hj
  | some f => rw [hf] at hj; exact ⟨f, rfl, by simpa using hj⟩
theorem int_in {n : Nat} {v : Value} {y : DataW H × List MemPlace} (hi : P.underlying 3 = some (.int .i64)) (h : DataW.trod enc P w base spare held n 3 [v] = some y) : ∃ z, v = .int .i64 z ∧ inR z := by
  obtain ⟨z, hz⟩ := DataW.trod_int hi h
  simp only [List.cons.injEq, and_true] at hz
  exact ⟨z, hz.1, inR_of hz.2.2⟩
end
/-- The types of a System in a program. -/
structure SysT (P : Program) (tS tT tt tC tc : TypeId) (fS ft fc : Array Field) : Prop where
  uS : P.underlying tS = some (.struct fS)
  uT : P.underlying tT = some (.slice tt)
  ut : P.underlying tt = some (.struct ft)
  uC : P.underlying tC = some (.slice tc)
  uc : P.underlying tc = some (.struct fc)
  ui : P.underlying 3 = some (.int .i64)
  oS : oneCellFields P fS = true
  ot : oneCellFields P ft = true
  oc : oneCellFields P fc = true
  cS : P.cellsOf tS = 9
  ct : P.cellsOf tt = 4
  cc : P.cellsOf tc = 3
  yS : fS.map (·.type) = #[3, 3, 3, 3, 3, 3, 3, 3, tT]
  yt : ft.map (·.type) = #[3, 3, 3, tC]
  yc : fc.map (·.type) = #[3, 3, 3]
/-- A slice of n sections at A. -/
structure RSec (w : World) (A : Option Addr) (n : Nat) (l : List (Int × Int × Int)) : Prop where
  len : l.length = n
  max : n ≤ 9223372036854775807
  at_ : 0 < n → ∃ b off, A = some ⟨b, off, none⟩ ∧ b < w.heap.size ∧ ∀ k x, l[k]? = some x → w.cell? ⟨b, off + k * 3, none⟩ = some (.int .i64 x.1) ∧ w.cell? ⟨b, off + k * 3 + 1, none⟩ = some (.int .i64 x.2.1) ∧ w.cell? ⟨b, off + k * 3 + 2, none⟩ = some (.int .i64 x.2.2)
  fit : ∀ x ∈ l, inR x.1 ∧ inR x.2.1 ∧ inR x.2.2
theorem RSec.no {w w' : World} {A : Option Addr} {n : Nat} {l : List (Int × Int × Int)} (h : RSec w A n l) (hb : But No w w') : RSec w' A n l :=
  ⟨h.len, h.max, fun hn => by
    obtain ⟨b, off, e, hl, hc⟩ := h.at_ hn
    exact ⟨b, off, e, Nat.lt_of_lt_of_le hl hb.size, fun k x hx => by rw [hb.cell hl (fun f => f), hb.cell hl (fun f => f), hb.cell hl (fun f => f)]; exact hc k x hx⟩, h.fit⟩
/-- A slice of n tasks at A. -/
structure RTsk (w : World) (A : Option Addr) (n : Nat) (ts : List Tsk) : Prop where
  len : ts.length = n
  max : n ≤ 9223372036854775807
  at_ : 0 < n → ∃ b off, A = some ⟨b, off, none⟩ ∧ b < w.heap.size ∧ ∀ k t, ts[k]? = some t → w.cell? ⟨b, off + k * 4, none⟩ = some (.int .i64 t.p) ∧ w.cell? ⟨b, off + k * 4 + 1, none⟩ = some (.int .i64 t.d) ∧ w.cell? ⟨b, off + k * 4 + 2, none⟩ = some (.int .i64 t.w) ∧
    ∃ A' c', w.cell? ⟨b, off + k * 4 + 3, none⟩ = some (.slice A' t.secs.length c') ∧ t.secs.length ≤ c' ∧ RSec w A' t.secs.length t.secs
  fit : ∀ t ∈ ts, inR t.p ∧ inR t.d ∧ inR t.w
theorem RTsk.no {w w' : World} {A : Option Addr} {n : Nat} {ts : List Tsk} (h : RTsk w A n ts) (hb : But No w w') : RTsk w' A n ts :=
  ⟨h.len, h.max, fun hn => by
    obtain ⟨b, off, e, hl, hc⟩ := h.at_ hn
    refine ⟨b, off, e, Nat.lt_of_lt_of_le hl hb.size, fun k x hx => ?_⟩
    obtain ⟨h1, h2, h3, A', c', h4, h5, h6⟩ := hc k x hx
    rw [hb.cell hl (fun f => f), hb.cell hl (fun f => f), hb.cell hl (fun f => f), hb.cell hl (fun f => f)]
    exact ⟨h1, h2, h3, A', c', h4, h5, h6.no hb⟩, h.fit⟩
/-- A System by value: its numbers, and its tasks in memory. -/
def sysV (s : Sys) (A : Option Addr) (n c : Nat) : Value := .agg #[.int .i64 s.co, .int .i64 s.po, .int .i64 s.pr, .int .i64 s.re, .int .i64 s.sw, .int .i64 s.fi, .int .i64 s.la, .int .i64 s.rs, .slice A n c]
structure RSys (w : World) (A : Option Addr) (n c : Nat) (s : Sys) : Prop where
  cap : n ≤ c
  ts : RTsk w A n s.ts
  fit : inR s.co ∧ inR s.po ∧ inR s.pr ∧ inR s.re ∧ inR s.sw ∧ inR s.fi ∧ inR s.la ∧ inR s.rs
theorem RSys.no {w w' : World} {A : Option Addr} {n c : Nat} {s : Sys} (h : RSys w A n c s) (hb : But No w w') : RSys w' A n c s := ⟨h.cap, h.ts.no hb, h.fit⟩
section
variable {H : Type} {enc : TypeId × Value → H} {P : Program} {w : World} {base : Nat} {spare : Nat → Bool} {held : Bool} {tS tT tt tC tc : TypeId} {fS ft fc : Array Field}
theorem sec_of (T : SysT P tS tT tt tC tc fS ft fc) {n : Nat} {v : Value} {y : DataW H × List MemPlace} (h : DataW.trod enc P w base spare held n tC [v] = some y) : ∃ A l c, v = .slice A l.length c ∧ l.length ≤ c ∧ RSec w A l.length l := by
  have hsz : fc.size = 3 := by have := congrArg Array.size T.yc; simpa using this
  rcases open_slice_fields T.uC T.uc T.oc (by rw [T.cc, hsz]) h with ⟨hcs, _⟩ | ⟨a, len, cap, m, DD, Pl, hcs, _, hl, hm, hmm, _, hi⟩
  · simp only [List.cons.injEq, and_true] at hcs
    exact ⟨none, [], 0, hcs, Nat.le_refl _, rfl, by simp, fun h => absurd h (by simp), by simp⟩
  · simp only [List.cons.injEq, and_true] at hcs
    unfold maxLen at hm
    have hlm : len ≤ m := by rw [hmm]; split <;> omega
    obtain ⟨f0, g0, e0⟩ := type_at T.yc (j := 0) rfl
    obtain ⟨f1, g1, e1⟩ := type_at T.yc (j := 1) rfl
    obtain ⟨f2, g2, e2⟩ := type_at T.yc (j := 2) rfl
    obtain ⟨F, hF⟩ := choose_lt (α := Int × Int × Int) (n := len) (p := fun k z => (w.cell? (a.add (k * 3)) = some (.int .i64 z.1) ∧ w.cell? (a.add (k * 3 + 1)) = some (.int .i64 z.2.1) ∧ w.cell? (a.add (k * 3 + 2)) = some (.int .i64 z.2.2)) ∧ inR z.1 ∧ inR z.2.1 ∧ inR z.2.2) (fun k hk => by
      obtain ⟨ys, nn, _, _, _, hff⟩ := hi k (by omega)
      rw [hsz] at hff
      obtain ⟨v0, y0, c0, _, t0⟩ := hff 0 f0 g0
      obtain ⟨v1, y1, c1, _, t1⟩ := hff 1 f1 g1
      obtain ⟨v2, y2, c2, _, t2⟩ := hff 2 f2 g2
      rw [e0] at t0
      rw [e1] at t1
      rw [e2] at t2
      obtain ⟨z0, rfl, r0⟩ := int_in T.ui t0
      obtain ⟨z1, rfl, r1⟩ := int_in T.ui t1
      obtain ⟨z2, rfl, r2⟩ := int_in T.ui t2
      exact ⟨(z0, z1, z2), ⟨c0, c1, c2⟩, r0, r1, r2⟩)
    have hlen : ((List.range len).map F).length = len := by simp
    refine ⟨some a, (List.range len).map F, cap, by rw [hlen]; exact hcs, by rw [hlen]; exact hl, rfl, by rw [hlen]; omega, fun hn => ?_, fun x hx => ?_⟩
    · rw [hlen] at hn
      obtain ⟨b, off, spot⟩ := a
      have hspot : spot = none := by simpa [Addr.add] using World.cell?_spot (hF 0 hn).1.1
      subst hspot
      refine ⟨b, off, rfl, World.block_lt_of_cell? w _ (hF 0 hn).1.1, fun k x hx => ?_⟩
      have hk : k < len := by have := (List.getElem?_eq_some_iff.1 hx).1; rw [hlen] at this; exact this
      have hxe : F k = x := by simpa [hk] using hx
      have := (hF k hk).1
      rw [hxe] at this
      simp only [add_plain] at this
      simpa only [Nat.add_assoc] using this
    · obtain ⟨k, hk, rfl⟩ := List.mem_map.1 hx
      exact (hF k (List.mem_range.1 hk)).2
instance : Inhabited Tsk := ⟨⟨0, 0, 0, []⟩⟩
theorem tsk_of (T : SysT P tS tT tt tC tc fS ft fc) {n : Nat} {v : Value} {y : DataW H × List MemPlace} (h : DataW.trod enc P w base spare held n tT [v] = some y) : ∃ A l c, v = .slice A l.length c ∧ l.length ≤ c ∧ RTsk w A l.length l := by
  have hsz : ft.size = 4 := by have := congrArg Array.size T.yt; simpa using this
  rcases open_slice_fields T.uT T.ut T.ot (by rw [T.ct, hsz]) h with ⟨hcs, _⟩ | ⟨a, len, cap, m, DD, Pl, hcs, _, hl, hm, hmm, _, hi⟩
  · simp only [List.cons.injEq, and_true] at hcs
    exact ⟨none, [], 0, hcs, Nat.le_refl _, rfl, by simp, fun h => absurd h (by simp), by simp⟩
  · simp only [List.cons.injEq, and_true] at hcs
    unfold maxLen at hm
    have hlm : len ≤ m := by rw [hmm]; split <;> omega
    obtain ⟨f0, g0, e0⟩ := type_at T.yt (j := 0) rfl
    obtain ⟨f1, g1, e1⟩ := type_at T.yt (j := 1) rfl
    obtain ⟨f2, g2, e2⟩ := type_at T.yt (j := 2) rfl
    obtain ⟨f3, g3, e3⟩ := type_at T.yt (j := 3) rfl
    obtain ⟨F, hF⟩ := choose_lt (α := Tsk) (n := len) (p := fun k z => (w.cell? (a.add (k * 4)) = some (.int .i64 z.p) ∧ w.cell? (a.add (k * 4 + 1)) = some (.int .i64 z.d) ∧ w.cell? (a.add (k * 4 + 2)) = some (.int .i64 z.w) ∧ ∃ A' c', w.cell? (a.add (k * 4 + 3)) = some (.slice A' z.secs.length c') ∧ z.secs.length ≤ c' ∧ RSec w A' z.secs.length z.secs) ∧ inR z.p ∧ inR z.d ∧ inR z.w) (fun k hk => by
      obtain ⟨ys, nn, _, _, _, hff⟩ := hi k (by omega)
      rw [hsz] at hff
      obtain ⟨v0, y0, c0, _, t0⟩ := hff 0 f0 g0
      obtain ⟨v1, y1, c1, _, t1⟩ := hff 1 f1 g1
      obtain ⟨v2, y2, c2, _, t2⟩ := hff 2 f2 g2
      obtain ⟨v3, y3, c3, _, t3⟩ := hff 3 f3 g3
      rw [e0] at t0
      rw [e1] at t1
      rw [e2] at t2
      rw [e3] at t3
      obtain ⟨z0, rfl, r0⟩ := int_in T.ui t0
      obtain ⟨z1, rfl, r1⟩ := int_in T.ui t1
      obtain ⟨z2, rfl, r2⟩ := int_in T.ui t2
      obtain ⟨A', l, c', rfl, q1, q2⟩ := sec_of T t3
      exact ⟨⟨z0, z1, z2, l⟩, ⟨c0, c1, c2, A', c', c3, q1, q2⟩, r0, r1, r2⟩)
    have hlen : ((List.range len).map F).length = len := by simp
    refine ⟨some a, (List.range len).map F, cap, by rw [hlen]; exact hcs, by rw [hlen]; exact hl, rfl, by rw [hlen]; omega, fun hn => ?_, fun x hx => ?_⟩
    · rw [hlen] at hn
      obtain ⟨b, off, spot⟩ := a
      have hspot : spot = none := by simpa [Addr.add] using World.cell?_spot (hF 0 hn).1.1
      subst hspot
      refine ⟨b, off, rfl, World.block_lt_of_cell? w _ (hF 0 hn).1.1, fun k x hx => ?_⟩
      have hk : k < len := by have := (List.getElem?_eq_some_iff.1 hx).1; rw [hlen] at this; exact this
      have hxe : F k = x := by simpa [hk] using hx
      obtain ⟨h1, h2, h3, A', c', h4, h5, h6⟩ := (hF k hk).1
      rw [hxe] at h1 h2 h3 h4 h5 h6
      simp only [add_plain] at h1 h2 h3 h4
      exact ⟨h1, by rw [Nat.add_assoc]; exact h2, by rw [Nat.add_assoc]; exact h3, A', c', by rw [Nat.add_assoc]; exact h4, h5, h6⟩
    · obtain ⟨k, hk, rfl⟩ := List.mem_map.1 hx
      exact (hF k (List.mem_range.1 hk)).2
/-- A System that came in. -/
theorem sys_of (T : SysT P tS tT tt tC tc fS ft fc) {r : Reach} {b0 : Nat} {v : Value} {d : DataW H} {p : List MemPlace} (hv : Value.okWide P w r b0 tS v) (h : DataW.Trod enc P w base spare held tS v d p) : ∃ s A c, v = sysV s A s.ts.length c ∧ RSys w A s.ts.length c s := by
  have hsz : fS.size = 9 := by have := congrArg Array.size T.yS; simpa using this
  obtain ⟨l, n, rfl, hll, hg⟩ := open_agg_fields T.uS T.oS (by rw [T.cS, hsz]) hv h
  rw [hsz] at hll
  have num : ∀ j, j < 8 → ∃ z, l[j]? = some (.int .i64 z) ∧ inR z := fun j hj => by
    have hj' : (#[3, 3, 3, 3, 3, 3, 3, 3, tT] : Array TypeId)[j]? = some 3 := by
      have : j = 0 ∨ j = 1 ∨ j = 2 ∨ j = 3 ∨ j = 4 ∨ j = 5 ∨ j = 6 ∨ j = 7 := by omega
      rcases this with rfl | rfl | rfl | rfl | rfl | rfl | rfl | rfl <;> rfl
    obtain ⟨f, g, e⟩ := type_at T.yS hj'
    obtain ⟨u, y, hu, ht⟩ := hg j f g
    rw [e] at ht
    obtain ⟨z, rfl, hz⟩ := int_in T.ui ht
    exact ⟨z, hu, hz⟩
  obtain ⟨z0, a0, r0⟩ := num 0 (by omega)
  obtain ⟨z1, a1, r1⟩ := num 1 (by omega)
  obtain ⟨z2, a2, r2⟩ := num 2 (by omega)
  obtain ⟨z3, a3, r3⟩ := num 3 (by omega)
  obtain ⟨z4, a4, r4⟩ := num 4 (by omega)
  obtain ⟨z5, a5, r5⟩ := num 5 (by omega)
  obtain ⟨z6, a6, r6⟩ := num 6 (by omega)
  obtain ⟨z7, a7, r7⟩ := num 7 (by omega)
  obtain ⟨f8, g8, e8⟩ := type_at T.yS (j := 8) rfl
  obtain ⟨u8, y8, a8, t8⟩ := hg 8 f8 g8
  rw [e8] at t8
  obtain ⟨A, ts, c, rfl, q1, q2⟩ := tsk_of T t8
  have hl : l = [.int .i64 z0, .int .i64 z1, .int .i64 z2, .int .i64 z3, .int .i64 z4, .int .i64 z5, .int .i64 z6, .int .i64 z7, .slice A ts.length c] := by
    apply List.ext_getElem?
    intro j
    by_cases hj : j < 9
    · have : j = 0 ∨ j = 1 ∨ j = 2 ∨ j = 3 ∨ j = 4 ∨ j = 5 ∨ j = 6 ∨ j = 7 ∨ j = 8 := by omega
      rcases this with rfl | rfl | rfl | rfl | rfl | rfl | rfl | rfl | rfl
      · exact a0
      · exact a1
      · exact a2
      · exact a3
      · exact a4
      · exact a5
      · exact a6
      · exact a7
      · exact a8
    · rw [List.getElem?_eq_none (by omega), List.getElem?_eq_none (by simp; omega)]
  subst hl
  exact ⟨⟨z0, z1, z2, z3, z4, z5, z6, z7, ts⟩, A, c, rfl, q1, q2, r0, r1, r2, r3, r4, r5, r6, r7⟩
end
end Go.Proofs.Ytfmhejeeeglmdaa
