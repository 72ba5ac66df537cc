/- What every layer needs: worlds that differ in some blocks alone, blocks known whole, lists of numbers in memory, rows that a call owns, a law's last step. -/
import Derived.Test.YtnjkgalbbhmgjaaRows
import Derived.WalkKit
import Derived.ProofKit
import Derived.OpenShut
import Derived.Lib.Hide
import Derived.Below
import Derived.LoopN
import Derived.BigRegion
import Derived.BigQuiet
import Derived.Deep.QuietTactic
import Derived.Deep.RegionHeld3
import Derived.StillTailTactics
import Derived.Laws.StructEq
import Derived.ChangeKeysEq
import Derived.Laws.BitsAllLaws
import Derived.IntWalk
import Derived.Maps.AppendAt
import Derived.OwnWalk
import Derived.Deep.Slices
import Derived.Deep.Fields
import Derived.ChangeSame
import Derived.Deep.AppendLies
import Derived.SizedLaws
namespace Go.Proofs.Ytnjkgalbbhmgjaa
open Go.ChangeShapes Go.WideShapes Go.ChangeAt Go.RowKit Go.Deep
/-- But for the blocks of S (and new ones) w' is as w was. -/
structure But (S : Nat → Prop) (w w' : World) : Prop where
  os : w'.os = w.os
  tape : w'.tape = w.tape
  output : w'.output = w.output
  size : w.heap.size ≤ w'.heap.size
  block : ∀ k, k < w.heap.size → ¬ S k → w'.heap[k]? = w.heap[k]?
theorem But.refl (S : Nat → Prop) (w : World) : But S w w := ⟨rfl, rfl, rfl, Nat.le_refl _, fun _ _ _ => rfl⟩
theorem But.trans {S : Nat → Prop} {a b c : World} (h : But S a b) (k : But S b c) : But S a c :=
  ⟨k.os.trans h.os, k.tape.trans h.tape, k.output.trans h.output, Nat.le_trans h.size k.size, fun i hi hs => (k.block i (Nat.lt_of_lt_of_le hi h.size) hs).trans (h.block i hi hs)⟩
theorem But.mono {S S' : Nat → Prop} {a b : World} (h : But S a b) (hS : ∀ k, k < a.heap.size → S k → S' k) : But S' a b :=
  ⟨h.os, h.tape, h.output, h.size, fun k hk hn => h.block k hk (fun s => hn (hS k hk s))⟩
/-- Two steps, the second one over blocks of the first one's and new ones. -/
theorem But.andThen {S S' : Nat → Prop} {a b c : World} (h : But S a b) (k : But S' b c) (hS : ∀ k, S' k → S k ∨ a.heap.size ≤ k) : But S a c :=
  ⟨k.os.trans h.os, k.tape.trans h.tape, k.output.trans h.output, Nat.le_trans h.size k.size, fun i hi hs => (k.block i (Nat.lt_of_lt_of_le hi h.size) (fun s => (hS i s).elim hs (fun g => by omega))).trans (h.block i hi hs)⟩
theorem But.drew {S : Nat → Prop} {a b : World} (h : But S a b) : But S a b.drew := ⟨h.os, h.tape, h.output, h.size, h.block⟩
theorem But.alloc {S : Nat → Prop} {a b : World} (h : But S a b) (o : Obj) : But S a (b.alloc o) :=
  h.trans ⟨rfl, rfl, rfl, by simp, fun k hk _ => Below.heap_alloc _ _ _ hk⟩
theorem But.setCell {S : Nat → Prop} {a b : World} (h : But S a b) {p : Addr} (hp : S p.block) (u : Value) : But S a (b.setCell p u) :=
  h.trans ⟨rfl, rfl, rfl, by simp [World.setCell], fun k _ hs => Below.heap_setCell _ _ _ _ (fun e => hs (e ▸ hp))⟩
/-- A store into a new block. -/
theorem But.setNew {S : Nat → Prop} {a b : World} (h : But S a b) {p : Addr} (hp : a.heap.size ≤ p.block) (u : Value) : But S a (b.setCell p u) :=
  ⟨h.os, h.tape, h.output, Nat.le_trans h.size (by simp [World.setCell]), fun k hk hs => (Below.heap_setCell _ _ _ _ (by omega)).trans (h.block k hk hs)⟩
theorem But.grown {S : Nat → Prop} {a b c : World} {row : Option Nat} (h : But S a b) (hg : b.grownBy c row) (hr : ∀ k, row = some k → S k ∨ a.heap.size ≤ k) : But S a c :=
  ⟨hg.os.trans h.os, hg.tape.trans h.tape, hg.output.trans h.output, Nat.le_trans h.size hg.size, fun k hk hs => (hg.block k (Nat.lt_of_lt_of_le hk h.size) (fun e => (hr k e.symm).elim hs (fun g => by omega))).trans (h.block k hk hs)⟩
theorem But.below {S : Nat → Prop} {w w' : World} {B : Nat} (h : But S w w') (hS : ∀ k, S k → B ≤ k) (hB : B ≤ w.heap.size) : Below B w w' :=
  ⟨h.os, h.tape, h.output, h.size, fun k hk => h.block k (by omega) (fun s => by have := hS k s; omega)⟩
theorem But.cell {S : Nat → Prop} {w w' : World} (h : But S w w') {b o : Nat} (hb : b < w.heap.size) (hs : ¬ S b) : w'.cell? ⟨b, o, none⟩ = w.cell? ⟨b, o, none⟩ := World.cell?_of_block (w := w) (h.block b hb hs)
def No : Nat → Prop := fun _ => False
def Just (q : Nat) : Nat → Prop := fun k => k = q
theorem just (q : Nat) : Just q q := rfl
theorem But.no {S : Nat → Prop} {w w' : World} (h : But No w w') : But S w w' := h.mono (fun _ _ f => f.elim)
/-- Block b, whole. -/
def Blk (w : World) (b : Nat) (cur : Array Value) (e : TypeId) : Prop := w.heap[b]? = some (.cells cur e (0, 0))
theorem Blk.lt {w : World} {b : Nat} {cur : Array Value} {e : TypeId} (h : Blk w b cur e) : b < w.heap.size := by
  unfold Blk at h
  exact (Array.getElem?_eq_some_iff.1 h).1
theorem Blk.cell {w : World} {b : Nat} {cur : Array Value} {e : TypeId} (h : Blk w b cur e) {o : Nat} {v : Value} (hv : cur[o]? = some v) : w.cell? ⟨b, o, none⟩ = some v := by
  unfold Blk at h
  simp [World.cell?, h, hv]
theorem Blk.frozen {w : World} {b : Nat} {cur : Array Value} {e : TypeId} (h : Blk w b cur e) (o : Nat) : w.frozen? ⟨b, o, none⟩ = false := by
  unfold Blk at h
  simp [World.frozen?, h]
theorem Blk.set {w : World} {b : Nat} {cur : Array Value} {e : TypeId} (h : Blk w b cur e) (o : Nat) (v : Value) : Blk (w.setCell ⟨b, o, none⟩ v) b (cur.setIfInBounds o v) e := by
  unfold Blk at h ⊢
  simp [World.setCell, Array.getElem?_modify, h]
theorem Blk.other {w : World} {b : Nat} {cur : Array Value} {e : TypeId} (h : Blk w b cur e) {a : Addr} (ha : b ≠ a.block) (v : Value) : Blk (w.setCell a v) b cur e := by
  unfold Blk at h ⊢
  rw [Below.heap_setCell _ _ _ _ ha]; exact h
theorem Blk.but {w w' : World} {b : Nat} {cur : Array Value} {e : TypeId} {S : Nat → Prop} (h : Blk w b cur e) (hb : But S w w') (hs : ¬ S b) : Blk w' b cur e := by
  have hl := h.lt
  unfold Blk at h ⊢
  rw [hb.block b hl hs]; exact h
theorem Blk.new (w : World) (cur : Array Value) (e : TypeId) : Blk (w.alloc (.cells cur e)) w.heap.size cur e := by
  unfold Blk
  exact (MapKept.heap_alloc w _).1
theorem But.drewN {S : Nat → Prop} {a b : World} (h : But S a b) (n : Nat) : But S a (b.drewN n) := ⟨h.os, h.tape, h.output, h.size, h.block⟩
def inR (a : Int) : Prop := -9223372036854775808 ≤ a ∧ a ≤ 9223372036854775807
theorem inR_of {x : Int} (h : (Lit.int .i64 x).wf = true) : inR x := by
  simp [Lit.wf, IntKind.min, IntKind.max, IntKind.bits, IntKind.signed] at h; unfold inR; omega
theorem wf_of {x : Int} (h : inR x) : (Lit.int .i64 x).wf = true := by
  unfold inR at h; simp [Lit.wf, IntKind.min, IntKind.max, IntKind.bits, IntKind.signed]; omega
theorem blk2 (w : World) (o : Obj) (cur : Array Value) (e : TypeId) : Blk ((w.alloc o).alloc (.cells cur e)) (w.heap.size + 1) cur e := by
  have := Blk.new (w.alloc o) cur e
  simpa using this
theorem Blk.alloc {w : World} {b : Nat} {cur : Array Value} {e : TypeId} (h : Blk w b cur e) (o : Obj) : Blk (w.alloc o) b cur e := h.but (S := No) ((But.refl _ _).alloc _) (fun f => f)
theorem cell_keep {w1 w2 : World} {b o : Nat} {v : Value} (h : w1.cell? ⟨b, o, none⟩ = some v) (hb : But No w1 w2) : w2.cell? ⟨b, o, none⟩ = some v := by
  rw [hb.cell (World.block_lt_of_cell? w1 _ h) (fun f => f)]; exact h
/-- A slice of n numbers at A reads as zs. -/
structure Rd (w : World) (A : Option Addr) (n : Nat) (zs : List Int) : Prop where
  len : zs.length = n
  max : n ≤ 9223372036854775807
  at_ : 0 < n → ∃ b off, A = some ⟨b, off, none⟩ ∧ b < w.heap.size ∧ ∀ k, k < n → w.cell? ⟨b, off + k, none⟩ = some (.int .i64 (zs.getD k 0))
  fit : ∀ k, inR (zs.getD k 0)
theorem Rd.no {w w' : World} {A : Option Addr} {n : Nat} {zs : List Int} (h : Rd w A n zs) (hb : But No w w') : Rd w' A n zs :=
  ⟨h.len, h.max, fun hn => by
    obtain ⟨b, off, e, hl, hc⟩ := h.at_ hn
    exact ⟨b, off, e, Nat.lt_of_lt_of_le hl hb.size, fun k hk => by rw [hb.cell hl (fun f => f)]; exact hc k hk⟩, h.fit⟩
theorem take_snoc {zs : List Int} {k : Nat} (h : k < zs.length) : zs.take (k + 1) = zs.take k ++ [zs.getD k 0] := by
  rw [List.take_succ_eq_append_getElem h]
  simp [List.getD, List.getElem?_eq_getElem h]
theorem info_parts {e : TypeId} {z : Value} {n m : Nat} (h : (Try.prog.info? e).map (fun i => (i.zero, i.size, i.bytes)) = some (some z, n, m)) : ∃ i, Try.prog.info? e = some i ∧ i.zero = some z ∧ i.size = n ∧ i.bytes = m := by
  cases hi : Try.prog.info? e with
  | none => rw [hi] at h; cases h
  | some i =>
    rw [hi] at h
    simp at h
    exact ⟨i, rfl, h.1, h.2.1, h.2.2⟩
/-- Block b holds just these n values. -/
def Vals (w : World) (b : Nat) (e : TypeId) (n : Nat) (f : Nat → Value) : Prop := Blk w b ((List.range n).map f).toArray e
theorem Vals.set {w : World} {b n k : Nat} {e : TypeId} {f : Nat → Value} (h : Vals w b e n f) (v : Value) : Vals (w.setCell ⟨b, k, none⟩ v) b e n (fun j => if j = k then v else f j) := by
  have h1 := Blk.set h k v
  have e : ((((List.range n).map f)).toArray.setIfInBounds k v) = (((List.range n).map (fun j => if j = k then v else f j))).toArray := by
    apply Array.ext'
    apply List.ext_getElem?
    intro j
    simp only [List.setIfInBounds_toArray, List.getElem?_set, List.getElem?_map, List.length_map, List.length_range]
    by_cases hj : j < n
    · by_cases e : j = k
      · subst e; simp [hj]
      · simp [hj, e, Ne.symm e]
    · by_cases e : k = j
      · subst e; simp [hj]
      · simp [hj, e]
  show Blk _ _ _ _
  rw [← e]; exact h1
theorem Vals.congr {w : World} {b n : Nat} {e : TypeId} {f g : Nat → Value} (h : Vals w b e n f) (he : ∀ j, j < n → g j = f j) : Vals w b e n g := by
  have : (List.range n).map g = (List.range n).map f := List.map_congr_left (fun j hj => he j (List.mem_range.1 hj))
  unfold Vals; rw [this]; exact h
theorem Vals.but {w w' : World} {b n : Nat} {e : TypeId} {f : Nat → Value} {S : Nat → Prop} (h : Vals w b e n f) (hb : But S w w') (hs : ¬ S b) : Vals w' b e n f := Blk.but h hb hs
theorem Vals.cell {w : World} {b n : Nat} {e : TypeId} {f : Nat → Value} (h : Vals w b e n f) {k : Nat} (hk : k < n) : w.cell? ⟨b, k, none⟩ = some (f k) := by
  refine Blk.cell h ?_
  simp [hk]
theorem Vals.frozen {w : World} {b n : Nat} {e : TypeId} {f : Nat → Value} (h : Vals w b e n f) (k : Nat) : w.frozen? ⟨b, k, none⟩ = false := Blk.frozen h k
theorem Vals.lt {w : World} {b n : Nat} {e : TypeId} {f : Nat → Value} (h : Vals w b e n f) : b < w.heap.size := Blk.lt h
def Row (w : World) (g n c : Nat) (zs : List Int) : Prop := w.ownsRow 0 3 1 (.slice (some ⟨g, 0, none⟩) n c) n (zs.map (Value.int .i64))
theorem Row.but {w w' : World} {g n c : Nat} {zs : List Int} {S : Nat → Prop} (h : Row w g n c zs) (hb : But S w w') (hs : ¬ S g) : Row w' g n c zs := by
  obtain ⟨h1, h2⟩ := h
  refine ⟨h1, ?_⟩
  rcases h2 with h2 | ⟨g', cap, cur, hv, hg, hh, hr⟩
  · exact .inl h2
  · cases hv
    have hl : g < w.heap.size := Blk.lt hh
    exact .inr ⟨g, c, cur, rfl, hg, by rw [hb.block g hl hs]; exact hh, hr⟩
theorem Row.lt {w : World} {g n c : Nat} {zs : List Int} (h : Row w g n c zs) : g < w.heap.size := by
  obtain ⟨h1, h2⟩ := h
  rcases h2 with ⟨h2, _⟩ | ⟨g', cap, cur, hv, hg, hh, hr⟩
  · cases h2
  · cases hv; exact Blk.lt hh
theorem Row.rd {w : World} {g n c : Nat} {zs : List Int} (h : Row w g n c zs) (hm : n ≤ 9223372036854775807) (hf : ∀ k, inR (zs.getD k 0)) : Rd w (some ⟨g, 0, none⟩) n zs := by
  obtain ⟨h1, h2⟩ := h
  have hl : zs.length = n := by simpa using h1
  rcases h2 with ⟨h2, _⟩ | ⟨g', cap, cur, hv, _, hh, hc, _, hs, ht⟩
  · cases h2
  · cases hv
    refine ⟨hl, hm, fun hn => ⟨g, 0, rfl, Blk.lt hh, fun k hk => ?_⟩, hf⟩
    rw [Nat.zero_add]
    refine Blk.cell hh ?_
    have e : (cur.toList.take (n * 1))[k]? = some (.int .i64 (zs.getD k 0)) := by
      rw [ht]
      have hk' : k < zs.length := by omega
      simp [hk']
    rw [List.getElem?_take, if_pos (by omega)] at e
    simpa using e
theorem one_news (w : World) (x : Int) : ∀ j u, [Value.int .i64 x][j]? = some u → (w.alloc (.cells #[.int .i64 x] 3)).cell? ((⟨w.heap.size, 0, none⟩ : Addr).add j) = some u :=
  World.news_of_block (cs := #[.int .i64 x]) (t := 3) (fr := (0, 0)) (Blk.new w _ _)
def lenS : Value → Nat
  | .slice _ n _ => n
  | _ => 0
theorem ret_int {k : IntKind} {a b : Int} (h : a = b) : Ending.returned (.int k a) = .returned (.int k b) := by rw [h]
theorem ret_bool {a b : Bool} (h : a = b) : Ending.returned (.bool a) = .returned (.bool b) := by rw [h]
theorem rd_block {w : World} {b : Nat} {zs : List Int} (h : Blk w b (zs.map (Value.int .i64)).toArray 3) (hl : zs.length ≤ 1000) (hf : ∀ k, inR (zs.getD k 0)) : Rd w (some ⟨b, 0, none⟩) zs.length zs :=
  ⟨rfl, by omega, fun _ => ⟨b, 0, rfl, h.lt, fun k hk => by rw [Nat.zero_add]; exact h.cell (by simp [hk])⟩, hf⟩
theorem laidOut : laidOutB Try.prog = true := by kernel_rfl
theorem trodAll_stays {H : Type} {enc : TypeId × Value → H} {P : Program} (hl : laidOutB P = true) {W W' : World} (hb : Below W.heap.size W W') :
    ∀ {ts : List TypeId} {vs : List Value} {ds : List (DataW H)} {p : List MemPlace}, (ts.all fun t => P.readableRec t && decide (t < P.types.size)) = true →
      DataW.TrodAll enc P W 0 (fun _ => true) true ts vs ds p → (∀ x ∈ p, x.block < W.heap.size) → DataW.TrodAll enc P W' 0 (fun b => decide (b < W.heap.size)) true ts vs ds p
  | [], [], [], _, _, h, _ => h
  | t :: ts, v :: vs, d :: ds, p, hr, h, hlt => by
    obtain ⟨p1, p2, h1, h2, rfl⟩ := h
    simp only [List.all_cons, Bool.and_eq_true, decide_eq_true_eq] at hr
    exact ⟨p1, p2, Below.trod hl hr.1.1 hr.1.2 h1 hb (fun x hx => hlt x (List.mem_append_left _ hx)), trodAll_stays hl hb hr.2 h2 (fun x hx => hlt x (List.mem_append_right _ hx)), rfl⟩
  | [], [], _ :: _, _, _, h, _ => h.elim
  | [], _ :: _, _, _, _, h, _ => h.elim
  | _ :: _, [], _, _, _, h, _ => h.elim
  | _ :: _, _ :: _, [], _, _, h, _ => h.elim
theorem law_post {H : Type} {enc : TypeId × Value → H} {s : ChangeSpec} {f : Func} {W W' : World} {args : Array Value} {ds gs : List (DataW H)} {before : List MemPlace}
    (hr : (f.params.toList.all fun t => Try.prog.readableRec t && decide (t < Try.prog.types.size)) = true) (hv : s.vars = []) (hres : f.resultTypes = #[4])
    (hW : DataW.Whole enc Try.prog f.params.toList s.vars false W args.toList ds gs before) (hfn : s.fn H ds = { results := [.lit (.bool true)], args := ds }) (hb : Below W.heap.size W W') :
    s.post enc Try.prog f false true false false W args (.bool true) W' := by
  have hlt := hW.lt
  have hW' := hW
  obtain ⟨p, q, hA, hV, rfl, _, _⟩ := hW
  rw [hv] at hV
  obtain ⟨rfl, rfl⟩ := trodVars_none hV
  refine ⟨ds, [], _, [], p, [], hW', ?_, ?_, ?_, hb.frame _, fun h => by cases h⟩
  · rw [List.append_nil, hfn, hres]
    exact (trodAll_cons_mk (shut_bool Try.underlying4 _) trodAll_mk0)
  · rw [List.append_nil, hfn]
    exact trodAll_stays laidOut hb hr hA (fun x hx => hlt x (by simpa using hx))
  · rw [List.append_nil, hfn, hv]
    exact rfl
theorem But.all {w w' : World} (h : But No w w') : Below w.heap.size w w' := h.below (fun _ f => f.elim) (Nat.le_refl _)
end Go.Proofs.Ytnjkgalbbhmgjaa
