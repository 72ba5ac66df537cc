/- How great a System that came in is, by a reckoning of what it holds. -/
import Derived.Test.YtdhaijmdnknekaaSy
namespace Go.Proofs.Ytdhaijmdnknekaa
open Go.ChangeShapes Go.WideShapes Go.ChangeAt Go.RowKit Go.Deep
/-- A reckoning of what data hold. -/
structure Bulk {H : Type} (B : DataW H → Nat) (BA : List (DataW H) → Nat) : Prop where
  nil : BA [] = 0
  cons : ∀ d r, BA (d :: r) = B d + BA r
  slice : ∀ e s, B (.slice e s) = BA e + BA s + 1
  agg : ∀ l, B (.agg l) = BA l + 1
  pos : ∀ d, 1 ≤ B d
section
variable {H : Type} {B : DataW H → Nat} {BA : List (DataW H) → Nat}
theorem Bulk.len (h : Bulk B BA) : ∀ l, l.length ≤ BA l
  | [] => by rw [h.nil]; exact Nat.le_refl _
  | d :: r => by
    have h1 := h.pos d
    have h2 := Bulk.len h r
    rw [h.cons, List.length_cons]; omega
theorem Bulk.mem (h : Bulk B BA) : ∀ {l : List (DataW H)} {j : Nat} {d : DataW H}, l[j]? = some d → B d ≤ BA l
  | [], j, d, e => by simp at e
  | x :: r, 0, d, e => by
    have : x = d := by simpa using e
    subst this
    rw [h.cons]; omega
  | x :: r, j + 1, d, e => by
    have := Bulk.mem h (l := r) (j := j) (d := d) (by simpa using e)
    rw [h.cons]; omega
theorem Bulk.flat (h : Bulk B BA) {F : Nat → Tsk} {D : Nat → DataW H} : ∀ {l : List Nat}, (∀ k ∈ l, (tskN (F k)).length ≤ 4 * B (D k)) → ((l.map F).flatMap tskN).length ≤ 4 * BA (l.map D)
  | [], _ => by simp
  | k :: r, hk => by
    have h1 := hk k (by simp)
    have h2 := Bulk.flat h (l := r) (fun j hj => hk j (by simp [hj]))
    rw [List.map_cons, List.map_cons, List.flatMap_cons, List.length_append, h.cons]; omega
end
section
variable {H : Type} {enc : TypeId × Value → H} {P : Program} {w : World} {base : Nat} {spare : Nat → Bool} {held : Bool}
/-- A struct by value, of any number of one-cell fields. -/
theorem open_agg_bulk {r : Reach} {b0 : Nat} {t : TypeId} {fs : Array Field} {v : Value} {d : DataW H} {p : List MemPlace} (hs : P.underlying t = some (.struct fs)) (hone : oneCellFields P fs = true) (hC : P.cellsOf t = fs.size)
    (hv : Value.okWide P w r b0 t v) (h : DataW.Trod enc P w base spare held t v d p) :
    ∃ (l : List Value) (n : Nat) (xs : List (DataW H × List MemPlace)), d = .agg (xs.map (·.1)) ∧ v = .agg l.toArray ∧ l.length = fs.size ∧ ∀ (j : Nat) (f : Field), fs[j]? = some f → ∃ (u : Value) (y : DataW H × List MemPlace), l[j]? = some u ∧ xs[j]? = some y ∧ DataW.trod enc P w base spare held n f.type [u] = some y := by
  obtain ⟨cs, rfl, hsz⟩ := okWide_struct hs hv
  obtain ⟨l⟩ := cs
  obtain ⟨fuel, hf⟩ := h
  obtain ⟨xs, n, _, hx, _, hlen, hg⟩ := DataW.trod_struct hs hf
  have hll : l.length = fs.size := by rw [← hC, ← hsz]; rfl
  simp only [Prod.mk.injEq] at hx
  refine ⟨l, n, xs, hx.1, rfl, hll, fun j f hj => ?_⟩
  obtain ⟨ho, hk⟩ := hone_of hone j f hj
  have hjl : j < fs.size := (Array.getElem?_eq_some_iff.1 hj).1
  have h1 := hg j f hj
  rw [ho, hk] at h1
  have hone' : (l.drop j).take 1 = [l[j]'(by omega)] := by
    rw [List.drop_eq_getElem_cons (by omega)]
    rfl
  have h2 : DataW.trod enc P w base spare held n f.type [l[j]'(by omega)] = xs[j]? := by rw [← hone']; simpa [Value.cells] using h1
  have hys : xs[j]? = some (xs[j]'(by omega)) := List.getElem?_eq_getElem (by omega)
  exact ⟨_, _, List.getElem?_eq_getElem (by omega), hys, h2.trans hys⟩
end
section
variable {H : Type} {enc : TypeId × Value → H} {P : Program} {w : World} {base : Nat} {spare : Nat → Bool} {held : Bool} {tS tT tt tC tc : TypeId} {fS ft fc : Array Field} {B : DataW H → Nat} {BA : List (DataW H) → Nat}
theorem sec_bulk (hB : Bulk B BA) (T : SysT P tS tT tt tC tc fS ft fc) {n : Nat} {v : Value} {y : DataW H × List MemPlace} (h : DataW.trod enc P w base spare held n tC [v] = some y) : ∃ A l c, v = .slice A l.length c ∧ l.length ≤ c ∧ RSec w A l.length l ∧ l.length ≤ B y.1 := by
  have hsz : fc.size = 3 := by have := congrArg Array.size T.yc; simpa using this
  rcases open_slice_fields T.uC T.uc T.oc (by rw [T.cc, hsz]) h with ⟨hcs, _⟩ | ⟨a, len, cap, m, DD, Pl, hcs, _, hl, hm, hmm, hy, hi⟩
  · simp only [List.cons.injEq, and_true] at hcs
    exact ⟨none, [], 0, hcs, Nat.le_refl _, ⟨rfl, by simp, fun h => absurd h (by simp), by simp⟩, by simp⟩
  · simp only [List.cons.injEq, and_true] at hcs
    unfold maxLen at hm
    have hlm : len ≤ m := by rw [hmm]; split <;> omega
    obtain ⟨f0, g0, e0⟩ := type_at T.yc (j := 0) rfl
    obtain ⟨f1, g1, e1⟩ := type_at T.yc (j := 1) rfl
    obtain ⟨f2, g2, e2⟩ := type_at T.yc (j := 2) rfl
    obtain ⟨F, hF⟩ := choose_lt (α := Int × Int × Int) (n := len) (p := fun k z => (w.cell? (a.add (k * 3)) = some (.int .i64 z.1) ∧ w.cell? (a.add (k * 3 + 1)) = some (.int .i64 z.2.1) ∧ w.cell? (a.add (k * 3 + 2)) = some (.int .i64 z.2.2)) ∧ inR z.1 ∧ inR z.2.1 ∧ inR z.2.2) (fun k hk => by
      obtain ⟨ys, nn, _, _, _, hff⟩ := hi k (by omega)
      rw [hsz] at hff
      obtain ⟨v0, y0, c0, _, t0⟩ := hff 0 f0 g0
      obtain ⟨v1, y1, c1, _, t1⟩ := hff 1 f1 g1
      obtain ⟨v2, y2, c2, _, t2⟩ := hff 2 f2 g2
      rw [e0] at t0
      rw [e1] at t1
      rw [e2] at t2
      obtain ⟨z0, rfl, r0⟩ := int_in T.ui t0
      obtain ⟨z1, rfl, r1⟩ := int_in T.ui t1
      obtain ⟨z2, rfl, r2⟩ := int_in T.ui t2
      exact ⟨(z0, z1, z2), ⟨c0, c1, c2⟩, r0, r1, r2⟩)
    have hlen : ((List.range len).map F).length = len := by simp
    refine ⟨some a, (List.range len).map F, cap, by rw [hlen]; exact hcs, by rw [hlen]; exact hl, ⟨rfl, by rw [hlen]; omega, fun hn => ?_, fun x hx => ?_⟩, ?_⟩
    · rw [hlen] at hn
      obtain ⟨b, off, spot⟩ := a
      have hspot : spot = none := by simpa [Addr.add] using World.cell?_spot (hF 0 hn).1.1
      subst hspot
      refine ⟨b, off, rfl, World.block_lt_of_cell? w _ (hF 0 hn).1.1, fun k x hx => ?_⟩
      have hk : k < len := by have := (List.getElem?_eq_some_iff.1 hx).1; rw [hlen] at this; exact this
      have hxe : F k = x := by simpa [hk] using hx
      have := (hF k hk).1
      rw [hxe] at this
      simp only [add_plain] at this
      simpa only [Nat.add_assoc] using this
    · obtain ⟨k, hk, rfl⟩ := List.mem_map.1 hx
      exact (hF k (List.mem_range.1 hk)).2
    · rw [hy, hlen]
      show len ≤ B (.slice _ _)
      rw [hB.slice]
      have := hB.len ((List.range len).map DD)
      rw [List.length_map, List.length_range] at this
      omega
theorem tsk_bulk (hB : Bulk B BA) (T : SysT P tS tT tt tC tc fS ft fc) {n : Nat} {v : Value} {y : DataW H × List MemPlace} (h : DataW.trod enc P w base spare held n tT [v] = some y) : ∃ A l c, v = .slice A l.length c ∧ l.length ≤ c ∧ RTsk w A l.length l ∧ (l.flatMap tskN).length ≤ 4 * B y.1 := by
  have hsz : ft.size = 4 := by have := congrArg Array.size T.yt; simpa using this
  rcases open_slice_fields T.uT T.ut T.ot (by rw [T.ct, hsz]) h with ⟨hcs, _⟩ | ⟨a, len, cap, m, DD, Pl, hcs, _, hl, hm, hmm, hy, hi⟩
  · simp only [List.cons.injEq, and_true] at hcs
    exact ⟨none, [], 0, hcs, Nat.le_refl _, ⟨rfl, by simp, fun h => absurd h (by simp), by simp⟩, by simp⟩
  · simp only [List.cons.injEq, and_true] at hcs
    unfold maxLen at hm
    have hlm : len ≤ m := by rw [hmm]; split <;> omega
    obtain ⟨f0, g0, e0⟩ := type_at T.yt (j := 0) rfl
    obtain ⟨f1, g1, e1⟩ := type_at T.yt (j := 1) rfl
    obtain ⟨f2, g2, e2⟩ := type_at T.yt (j := 2) rfl
    obtain ⟨f3, g3, e3⟩ := type_at T.yt (j := 3) rfl
    obtain ⟨F, hF⟩ := choose_lt (α := Tsk) (n := len) (p := fun k z => (w.cell? (a.add (k * 4)) = some (.int .i64 z.p) ∧ w.cell? (a.add (k * 4 + 1)) = some (.int .i64 z.d) ∧ w.cell? (a.add (k * 4 + 2)) = some (.int .i64 z.w) ∧ ∃ A' c', w.cell? (a.add (k * 4 + 3)) = some (.slice A' z.secs.length c') ∧ z.secs.length ≤ c' ∧ RSec w A' z.secs.length z.secs) ∧ (inR z.p ∧ inR z.d ∧ inR z.w) ∧ (tskN z).length ≤ 4 * B (DD k)) (fun k hk => by
      obtain ⟨ys, nn, hD, _, _, hff⟩ := hi k (by omega)
      rw [hsz] at hff
      obtain ⟨v0, y0, c0, _, t0⟩ := hff 0 f0 g0
      obtain ⟨v1, y1, c1, _, t1⟩ := hff 1 f1 g1
      obtain ⟨v2, y2, c2, _, t2⟩ := hff 2 f2 g2
      obtain ⟨v3, y3, c3, hy3, t3⟩ := hff 3 f3 g3
      rw [e0] at t0
      rw [e1] at t1
      rw [e2] at t2
      rw [e3] at t3
      obtain ⟨z0, rfl, r0⟩ := int_in T.ui t0
      obtain ⟨z1, rfl, r1⟩ := int_in T.ui t1
      obtain ⟨z2, rfl, r2⟩ := int_in T.ui t2
      obtain ⟨A', l, c', rfl, q1, q2, q3⟩ := sec_bulk hB T t3
      refine ⟨⟨z0, z1, z2, l⟩, ⟨c0, c1, c2, A', c', c3, q1, q2⟩, ⟨r0, r1, r2⟩, ?_⟩
      rw [hD, hB.agg, tskN_len]
      have := hB.mem (l := ys.map (·.1)) (j := 3) (d := y3.1) (by rw [List.getElem?_map, hy3]; rfl)
      show 4 + 3 * l.length ≤ _
      omega)
    have hlen : ((List.range len).map F).length = len := by simp
    refine ⟨some a, (List.range len).map F, cap, by rw [hlen]; exact hcs, by rw [hlen]; exact hl, ⟨rfl, by rw [hlen]; omega, fun hn => ?_, fun x hx => ?_⟩, ?_⟩
    · rw [hlen] at hn
      obtain ⟨b, off, spot⟩ := a
      have hspot : spot = none := by simpa [Addr.add] using World.cell?_spot (hF 0 hn).1.1
      subst hspot
      refine ⟨b, off, rfl, World.block_lt_of_cell? w _ (hF 0 hn).1.1, fun k x hx => ?_⟩
      have hk : k < len := by have := (List.getElem?_eq_some_iff.1 hx).1; rw [hlen] at this; exact this
      have hxe : F k = x := by simpa [hk] using hx
      obtain ⟨h1, h2, h3, A', c', h4, h5, h6⟩ := (hF k hk).1
      rw [hxe] at h1 h2 h3 h4 h5 h6
      simp only [add_plain] at h1 h2 h3 h4
      exact ⟨h1, by rw [Nat.add_assoc]; exact h2, by rw [Nat.add_assoc]; exact h3, A', c', by rw [Nat.add_assoc]; exact h4, h5, h6⟩
    · obtain ⟨k, hk, rfl⟩ := List.mem_map.1 hx
      exact (hF k (List.mem_range.1 hk)).2.1
    · rw [hy]
      show _ ≤ 4 * B (.slice _ _)
      rw [hB.slice]
      have := hB.flat (F := F) (D := DD) (l := List.range len) (fun k hk => (hF k (List.mem_range.1 hk)).2.2)
      omega
theorem sys_bulk (hB : Bulk B BA) (T : SysT P tS tT tt tC tc fS ft fc) {r : Reach} {b0 : Nat} {v : Value} {d : DataW H} {p : List MemPlace} (hv : Value.okWide P w r b0 tS v) (h : DataW.Trod enc P w base spare held tS v d p) : ∃ s A c, v = sysV s A s.ts.length c ∧ RSys w A s.ts.length c s ∧ (nums s).length ≤ 10 + 4 * B d := by
  have hsz : fS.size = 9 := by have := congrArg Array.size T.yS; simpa using this
  obtain ⟨l, n, xs, hd, rfl, hll, hg⟩ := open_agg_bulk T.uS T.oS (by rw [T.cS, hsz]) hv h
  rw [hsz] at hll
  have num : ∀ j, j < 8 → ∃ z, l[j]? = some (.int .i64 z) ∧ inR z := fun j hj => by
    have hj' : (#[3, 3, 3, 3, 3, 3, 3, 3, tT] : Array TypeId)[j]? = some 3 := by
      have : j = 0 ∨ j = 1 ∨ j = 2 ∨ j = 3 ∨ j = 4 ∨ j = 5 ∨ j = 6 ∨ j = 7 := by omega
      rcases this with rfl | rfl | rfl | rfl | rfl | rfl | rfl | rfl <;> rfl
    obtain ⟨f, g, e⟩ := type_at T.yS hj'
    obtain ⟨u, y, hu, _, ht⟩ := hg j f g
    rw [e] at ht
    obtain ⟨z, rfl, hz⟩ := int_in T.ui ht
    exact ⟨z, hu, hz⟩
  obtain ⟨z0, a0, r0⟩ := num 0 (by omega)
  obtain ⟨z1, a1, r1⟩ := num 1 (by omega)
  obtain ⟨z2, a2, r2⟩ := num 2 (by omega)
  obtain ⟨z3, a3, r3⟩ := num 3 (by omega)
  obtain ⟨z4, a4, r4⟩ := num 4 (by omega)
  obtain ⟨z5, a5, r5⟩ := num 5 (by omega)
  obtain ⟨z6, a6, r6⟩ := num 6 (by omega)
  obtain ⟨z7, a7, r7⟩ := num 7 (by omega)
  obtain ⟨f8, g8, e8⟩ := type_at T.yS (j := 8) rfl
  obtain ⟨u8, y8, a8, hy8, t8⟩ := hg 8 f8 g8
  rw [e8] at t8
  obtain ⟨A, ts, c, rfl, q1, q2, q3⟩ := tsk_bulk hB T t8
  have hl : l = [.int .i64 z0, .int .i64 z1, .int .i64 z2, .int .i64 z3, .int .i64 z4, .int .i64 z5, .int .i64 z6, .int .i64 z7, .slice A ts.length c] := by
    apply List.ext_getElem?
    intro j
    by_cases hj : j < 9
    · have : j = 0 ∨ j = 1 ∨ j = 2 ∨ j = 3 ∨ j = 4 ∨ j = 5 ∨ j = 6 ∨ j = 7 ∨ j = 8 := by omega
      rcases this with rfl | rfl | rfl | rfl | rfl | rfl | rfl | rfl | rfl
      · exact a0
      · exact a1
      · exact a2
      · exact a3
      · exact a4
      · exact a5
      · exact a6
      · exact a7
      · exact a8
    · rw [List.getElem?_eq_none (by omega), List.getElem?_eq_none (by simp; omega)]
  subst hl
  refine ⟨⟨z0, z1, z2, z3, z4, z5, z6, z7, ts⟩, A, c, rfl, ⟨q1, q2, r0, r1, r2, r3, r4, r5, r6, r7⟩, ?_⟩
  have := hB.mem (l := xs.map (·.1)) (j := 8) (d := y8.1) (by rw [List.getElem?_map, hy8]; rfl)
  rw [hd, hB.agg]
  unfold nums
  simp only [List.length_cons]
  omega
end
end Go.Proofs.Ytdhaijmdnknekaa
