/- Lists of numbers that the law makes: slices that own their rows; the contract of numbers; deeds as they lie in memory. -/
import Derived.Test.YthakginneapdeaaE
namespace Go.Proofs.Ythakginneapdeaa
open Go.ChangeShapes Go.WideShapes Go.ChangeAt Go.RowKit Go.Deep
theorem owns_but {w w' : World} {e : TypeId} {sz n : Nat} {v : Value} {xs : List Value} {S : Nat → Prop} (h : w.ownsRow 0 e sz v n xs) (hb : But S w w') (hs : ∀ k, v.ownBlock = some k → ¬ S k) : w'.ownsRow 0 e sz v n xs := by
  have hl := h.lt
  obtain ⟨h1, h2⟩ := h
  refine ⟨h1, ?_⟩
  rcases h2 with h2 | ⟨g, cap, cur, hv, hg, hh, r⟩
  · exact .inl h2
  · refine .inr ⟨g, cap, cur, hv, hg, ?_, r⟩
    have hk : v.ownBlock = some g := by rw [hv]; rfl
    rw [hb.block g (hl g hk).2 (hs g hk)]; exact hh
/-- A slice of n numbers at A reads as zs. -/
structure Rl (w : World) (A : Option Addr) (n : Nat) (zs : List Int) : Prop where
  len : zs.length = n
  max : n ≤ 9223372036854775807
  at_ : 0 < n → ∃ b off, A = some ⟨b, off, none⟩ ∧ b < w.heap.size ∧ ∀ k, k < n → w.cell? ⟨b, off + k, none⟩ = some (.int .i64 (zs.getD k 0))
theorem Rl.no {w w' : World} {A : Option Addr} {n : Nat} {zs : List Int} (h : Rl w A n zs) (hb : But No w w') : Rl w' A n zs :=
  ⟨h.len, h.max, fun hn => by
    obtain ⟨b, off, e, hl, hc⟩ := h.at_ hn
    exact ⟨b, off, e, Nat.lt_of_lt_of_le hl hb.size, fun k hk => by rw [hb.cell hl (fun f => f)]; exact hc k hk⟩⟩
theorem Ints.rl {w : World} {b : Nat} {zs : List Int} (h : Ints w b zs) (hm : zs.length ≤ 1000) : Rl w (some ⟨b, 0, none⟩) zs.length zs :=
  ⟨rfl, by omega, fun _ => ⟨b, 0, rfl, h.lt, fun k hk => by rw [Nat.zero_add]; exact h.cell hk⟩⟩
/-- v is a slice of the law's own that reads as zs. -/
def Ov (w : World) (v : Value) (zs : List Int) : Prop := w.ownsRow 0 3 1 v zs.length (zs.map (Value.int .i64))
theorem Ov.nil (w : World) : Ov w (.slice none 0 0) [] := World.ownsRow_nil _ _ _ _
theorem Ov.but {w w' : World} {v : Value} {zs : List Int} {S : Nat → Prop} (h : Ov w v zs) (hb : But S w w') (hs : ∀ k, v.ownBlock = some k → ¬ S k) : Ov w' v zs := owns_but h hb hs
theorem Ov.slice {w : World} {v : Value} {zs : List Int} (h : Ov w v zs) : ∃ A c, v = .slice A zs.length c ∧ zs.length ≤ c := by
  obtain ⟨h1, h2⟩ := h
  rcases h2 with ⟨h2, e⟩ | ⟨g, cap, cur, hv, _, _, hc, _⟩
  · exact ⟨none, 0, by rw [e]; exact h2, by omega⟩
  · exact ⟨_, _, hv, hc⟩
theorem Ov.rl {w : World} {A : Option Addr} {n c : Nat} {zs : List Int} (h : Ov w (.slice A n c) zs) (hm : zs.length ≤ 1000) : Rl w A n zs ∧ n = zs.length := by
  obtain ⟨h1, h2⟩ := h
  rcases h2 with ⟨h2, e⟩ | ⟨g, cap, cur, hv, _, hh, hc, _, hs, ht⟩
  · cases h2
    exact ⟨⟨e, by omega, fun h => absurd h (by omega)⟩, e.symm⟩
  · cases hv
    refine ⟨⟨rfl, by omega, fun hn => ⟨g, 0, rfl, Blk.lt hh, fun k hk => ?_⟩⟩, rfl⟩
    rw [Nat.zero_add]
    refine Blk.cell hh ?_
    have e : (cur.toList.take (zs.length * 1))[k]? = some (.int .i64 (zs.getD k 0)) := by
      rw [ht]; simp [hk]
    rw [List.getElem?_take, if_pos (by omega)] at e
    simpa using e
/-- What an append to a slice of the law's own leaves. -/
theorem Ov.app {w0 w w2 : World} {v : Value} {zs : List Int} {x : Int} {g cap : Nat} (hb : But No w0 w) (hn : ∀ k, v.ownBlock = some k → w0.heap.size ≤ k)
    (ho : w2.ownsRow 0 3 1 (.slice (some ⟨g, 0, none⟩) (zs.length + 1) cap) (zs.length + 1) (zs.map (Value.int .i64) ++ [.int .i64 x])) (hg : (w.alloc (.cells #[.int .i64 x] 3)).grownBy w2 v.ownBlock) (hat : v.ownBlock = some g ∨ g = w.heap.size + 1) :
    Ov w2 (.slice (some ⟨g, 0, none⟩) (zs.length + 1) cap) (zs ++ [x]) ∧ But No w0 w2 ∧ ∀ k, (Value.slice (some ⟨g, 0, none⟩) (zs.length + 1) cap).ownBlock = some k → w0.heap.size ≤ k := by
  refine ⟨?_, (hb.alloc _).grown hg (fun k e => .inr (hn k e)), fun k e => ?_⟩
  · unfold Ov; rw [List.length_append, List.map_append]; exact ho
  · have e' : k = g := by simpa [Value.ownBlock] using e.symm
    have := hb.size
    rcases hat with h | h
    · rw [e']; exact hn g h
    · omega
theorem retb {a b : Bool} (h : a = b) : Ending.returned (.bool a) = .returned (.bool b) := by rw [h]
theorem list_ne {zs ts : List Int} {k : Nat} (_ : k < zs.length) (hne : zs.getD k 0 ≠ ts.getD k 0) : decide (zs = ts) = false := by
  rw [decide_eq_false_iff_not]; rintro rfl; exact hne rfl
theorem list_eq {zs ts : List Int} (hl : zs.length = ts.length) (h : ∀ j, j < zs.length → zs.getD j 0 = ts.getD j 0) : decide (zs = ts) = true := by
  rw [decide_eq_true_iff]
  apply List.ext_getElem hl
  intro j h1 h2
  have := h j h1
  simpa [List.getD, List.getElem?_eq_getElem h1, List.getElem?_eq_getElem h2] using this
set_option maxHeartbeats 1000000 in
theorem numbers_any (A B : Option Addr) (n m c d : Nat) (zs ts : List Int) (w : World) (hz : Rl w A n zs) (ht : Rl w B m ts) :
    Calls Try.prog 18 #[.slice A n c, .slice B m d] w fun e w' => e = .returned (.bool (decide (zs = ts))) ∧ But No w w' := by
  have hlz := hz.len
  have hlt := ht.len
  have hmx := hz.max
  have hmy := ht.max
  by_cases hnm : n = m
  · subst hnm
    have HL : Hid (zs.length = n ∧ ts.length = n) := ⟨hlz, hlt⟩
    have HZ := Lib.hid hz
    have HT := Lib.hid ht
    clear hz ht hlz hlt
    go_enter Try.func18, Try.ntmps18
    go_wp2
    go_loopw [5] (fun i wr => ∃ k : Nat, k ≤ n ∧ i = .int .i64 k ∧ Hid (∀ j, j < k → zs.getD j 0 = ts.getD j 0) ∧ Hid (But No w wr)) (fun i _ => n - (intOf i).toNat)
    case atStart => exact ⟨0, by omega, rfl, fun j hj => absurd hj (by omega), But.refl _ _⟩
    case round =>
      obtain ⟨k, hk, rfl, hall, hbw⟩ := hrel
      by_cases hlt : k < n
      · obtain ⟨b, off, rfl, hb, hc⟩ := (HZ.out.no hbw.out).at_ (by omega)
        obtain ⟨b', off', rfl, hb', hc'⟩ := (HT.out.no hbw.out).at_ (by omega)
        have hck := hc k hlt
        have hck' := hc' k hlt
        clear hc hc'
        have kn' : (k : Int) < (n : Int) := by omega
        obtain ⟨z, hze⟩ : ∃ z, z = zs.getD k 0 := ⟨_, rfl⟩
        obtain ⟨t, hte⟩ : ∃ t, t = ts.getD k 0 := ⟨_, rfl⟩
        rw [← hze] at hck
        rw [← hte] at hck'
        by_cases h1 : z = t
        · have hall' : Hid (∀ j, j < k + 1 → zs.getD j 0 = ts.getD j 0) := by
            intro j hj
            by_cases e : j = k
            · subst e; rw [← hze, ← hte]; exact h1
            · exact hall.out j (by omega)
          have h1' : (z != t) = false := by simpa using h1
          clear hze hte h1
          go_wp2_with fail
          go_quiet (fail)
          go_wp2
          go_roundw
          case rel => exact ⟨k + 1, by omega, by go_num, hall', hbw.out.drewN _⟩
          case measure => simp [intOf]; omega
        · have hE : Hid (decide (zs = ts) = false) := list_ne (k := k) (by rw [HL.out.1]; exact hlt) (by rw [← hze, ← hte]; exact h1)
          have h1' : (z != t) = true := by simpa using h1
          clear hze hte h1
          go_wp2_with fail
          go_quiet (fail)
          go_wp2
          go_ret
          exact ⟨retb hE.out.symm, hbw.out.drewN _⟩
      · have hE : Hid (decide (zs = ts) = true) := list_eq (by rw [HL.out.1, HL.out.2]) (fun j hj => hall.out j (by have := HL.out.1; omega))
        go_wp2
        go_ret
        exact ⟨retb hE.out.symm, hbw.out⟩
  · have hE : Hid (decide (zs = ts) = false) := by show _ = _; rw [decide_eq_false_iff_not]; rintro rfl; omega
    have hne : ((n : Int) != (m : Int)) = true := by simp; omega
    clear hz ht hlz hlt
    go_enter Try.func18, Try.ntmps18
    go_wp2
    all_goals go_ret
    all_goals exact ⟨retb hE.out.symm, But.refl _ _⟩
section
variable {H : Type} {enc : TypeId × Value → H} {P : Program} {w : World} {base : Nat} {spare : Nat → Bool} {held : Bool}
theorem open_slice_fields {t e : TypeId} {fs : Array Field} {fuel : Nat} {cs : List Value} {x : DataW H × List MemPlace} (ht : P.underlying t = some (.slice e)) (he : P.underlying e = some (.struct fs))
    (hone : oneCellFields P fs = true) (hC : P.cellsOf e = fs.size) (h : DataW.trod enc P w base spare held fuel t cs = some x) :
    (cs = [.slice none 0 0] ∧ x = (.nil, [])) ∨
    ∃ (a : Addr) (len cap m : Nat) (D : Nat → DataW H) (Pl : Nat → List MemPlace), cs = [.slice (some a) len cap] ∧ base ≤ a.block ∧ len ≤ cap ∧ cap ≤ maxLen ∧ m = (if spare a.block then cap else len) ∧
      x = (.slice ((List.range len).map D) ((List.range (m - len)).map fun j => D (len + j)), MemPlace.row a (m * fs.size) ++ (List.range m).flatMap Pl) ∧
      ∀ i, i < m → ∃ (ys : List (DataW H × List MemPlace)) (n : Nat), D i = .agg (ys.map (·.1)) ∧ Pl i = ys.flatMap (·.2) ∧ ys.length = fs.size ∧
        ∀ (j : Nat) (f : Field), fs[j]? = some f → ∃ (v : Value) (y : DataW H × List MemPlace), w.cell? (a.add (i * fs.size + j)) = some v ∧ ys[j]? = some y ∧ DataW.trod enc P w base spare held n f.type [v] = some y := by
  rcases open_slice ht h with h0 | ⟨a, len, cap, m, n, D, Pl, hcs, hb, hl, hm, hmm, hx, hi⟩
  · exact .inl h0
  · refine .inr ⟨a, len, cap, m, D, Pl, hcs, hb, hl, hm, hmm, by rw [hC] at hx; exact hx, fun i him => ?_⟩
    obtain ⟨cs', hc, ht'⟩ := hi i him
    rw [hC] at hc
    obtain ⟨ys, n', hn', hy, hlen, hyl, hf⟩ := DataW.trod_struct he ht'
    obtain ⟨_, hcl, hat⟩ := World.cells?_some hc
    simp only [Prod.mk.injEq] at hy
    refine ⟨ys, n', hy.1, hy.2, hyl, fun j f hj => ?_⟩
    obtain ⟨ho, hk⟩ := hone_of hone j f hj
    have hjl : j < fs.size := (Array.getElem?_eq_some_iff.1 hj).1
    have hcell := hat j hjl
    have hv : cs'[j]? = some (cs'[j]'(by omega)) := List.getElem?_eq_getElem (by omega)
    have h1 := hf j f hj
    rw [ho, hk] at h1
    have hone' : (cs'.drop j).take 1 = [cs'[j]'(by omega)] := by
      rw [List.drop_eq_getElem_cons (by omega)]
      rfl
    rw [hone'] at h1
    have hys : ys[j]? = some (ys[j]'(by omega)) := List.getElem?_eq_getElem (by omega)
    refine ⟨_, _, ?_, hys, h1.trans hys⟩
    rw [← Go.Deep.add_add, hcell, hv]
end
/-- A slice of n deeds at A. -/
structure RdD (w : World) (A : Option Addr) (n : Nat) (kd di : Nat → Int) : Prop where
  max : n ≤ 9223372036854775807
  at_ : 0 < n → ∃ b off, A = some ⟨b, off, none⟩ ∧ b < w.heap.size ∧ ∀ k, k < n → w.cell? ⟨b, off + k * 2, none⟩ = some (.int .i64 (kd k)) ∧ w.cell? ⟨b, off + k * 2 + 1, none⟩ = some (.int .i64 (di k))
  fit : ∀ k, k < n → inR (kd k) ∧ inR (di k)
theorem RdD.no {w w' : World} {A : Option Addr} {n : Nat} {kd di : Nat → Int} (h : RdD w A n kd di) (hb : But No w w') : RdD w' A n kd di :=
  ⟨h.max, fun hn => by
    obtain ⟨b, off, e, hl, hc⟩ := h.at_ hn
    exact ⟨b, off, e, Nat.lt_of_lt_of_le hl hb.size, fun k hk => by rw [hb.cell hl (fun f => f), hb.cell hl (fun f => f)]; exact hc k hk⟩, h.fit⟩
theorem int_of {H : Type} {enc : TypeId × Value → H} {W : World} {base n : Nat} {sp : Nat → Bool} {held : Bool} {v : Value} {y : DataW H × List MemPlace} (h : DataW.trod enc Try.prog W base sp held n 3 [v] = some y) : ∃ z, v = .int .i64 z ∧ inR z := by
  obtain ⟨z, hz⟩ := DataW.trod_int Try.underlying3 h
  simp only [List.cons.injEq, and_true] at hz
  exact ⟨z, hz.1, inR_of hz.2.2⟩
theorem rdD_of {H : Type} {enc : TypeId × Value → H} {W : World} {base : Nat} {v : Value} {d : DataW H} {p : List MemPlace} (hv : Value.okWide Try.prog W .any base 22 v) (h : DataW.Trod enc Try.prog W 0 (fun _ => true) true 22 v d p) :
    ∃ (A : Option Addr) (n c : Nat) (kd di : Nat → Int), v = .slice A n c ∧ RdD W A n kd di ∧ n ≤ c := by
  obtain ⟨a0, len, cap, rfl⟩ := okWide_slice Try.underlying22 hv
  obtain ⟨fuel, hf⟩ := h
  refine ⟨a0, len, cap, ?_⟩
  rcases open_slice_fields Try.underlying22 Try.underlying31 (by kernel_rfl) (by kernel_rfl) hf with ⟨hcs, hx⟩ | ⟨a, len', cap', m, DD, Pl, hcs, _, hl, hm, hmm, hx, hi⟩
  · simp [Value.cells] at hcs
    obtain ⟨rfl, rfl, rfl⟩ := hcs
    exact ⟨fun _ => 0, fun _ => 0, rfl, ⟨by omega, fun h => absurd h (by omega), fun k hk => absurd hk (by omega)⟩, Nat.le_refl _⟩
  · simp [Value.cells] at hcs
    obtain ⟨rfl, rfl, rfl⟩ := hcs
    simp only [if_true] at hmm
    unfold maxLen at hm
    have key : ∀ k, ∃ z : Int × Int, k < len → (W.cell? (a.add (k * 2)) = some (.int .i64 z.1) ∧ W.cell? (a.add (k * 2 + 1)) = some (.int .i64 z.2)) ∧ inR z.1 ∧ inR z.2 := by
      intro k
      by_cases hk : k < len
      · obtain ⟨ys, nn, _, _, _, hff⟩ := hi k (by omega)
        obtain ⟨v0, y0, c0, _, t0⟩ := hff 0 _ rfl
        obtain ⟨v1, y1, c1, _, t1⟩ := hff 1 _ rfl
        obtain ⟨z0, rfl, r0⟩ := int_of t0
        obtain ⟨z1, rfl, r1⟩ := int_of t1
        exact ⟨(z0, z1), fun _ => ⟨⟨c0, c1⟩, r0, r1⟩⟩
      · exact ⟨(0, 0), fun h => absurd h hk⟩
    obtain ⟨zf, hz⟩ := Classical.axiomOfChoice key
    refine ⟨fun k => (zf k).1, fun k => (zf k).2, rfl, ⟨by omega, fun hn => ?_, fun k hk => (hz k hk).2⟩, hl⟩
    obtain ⟨b, off, spot⟩ := a
    have hspot : spot = none := by simpa [Addr.add] using World.cell?_spot (hz 0 hn).1.1
    subst hspot
    refine ⟨b, off, rfl, World.block_lt_of_cell? W _ (hz 0 hn).1.1, fun k hk => ?_⟩
    have := (hz k hk).1
    simp only [add_plain] at this
    simpa only [Nat.add_assoc] using this
end Go.Proofs.Ythakginneapdeaa
