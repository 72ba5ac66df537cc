/- The document's own heap: its blocks, and the contracts of at, off and put. -/
import Derived.Test.YtlnoelahlbbgkaaN
import Derived.Deep.Draws
import Derived.RegionTactic
import Derived.OwnWalk
namespace Go.Proofs.Ytlnoelahlbbgkaa
open Go.ChangeShapes Go.WideShapes Go.ChangeAt Go.RowKit
theorem block_of_add (a : Addr) (n : Nat) : (a.add n).block = a.block := by unfold Addr.add; split <;> rfl
theorem add_of_add (a : Addr) (i j : Nat) : (a.add i).add j = a.add (i + j) := by
  unfold Addr.add
  by_cases hi : i = 0 <;> by_cases hj : j = 0 <;> simp [hi, hj, Nat.add_assoc]

def Reads (w : World) (B size : Nat) (A : Option Addr) (n : Nat) (xs : List Value) : Prop :=
  xs.length = n * size ∧ (0 < n → ∃ ad, A = some ad ∧ ad.block < B ∧ ∀ j u, xs[j]? = some u → w.cell? (ad.add j) = some u)

section
variable {w w' : World} {B B' size n : Nat} {A : Option Addr} {xs : List Value}
theorem Reads.none_ : Reads w B size A 0 [] := ⟨by simp, fun h => absurd h (by omega)⟩
theorem Reads.at_ {k : Nat} (h : Reads w B 1 A n xs) (hk : k < n) : ∃ ad u, A = some ad ∧ ad.block < B ∧ xs[k]? = some u ∧ w.cell? (ad.add k) = some u := by
  obtain ⟨ad, e, hb, hc⟩ := h.2 (by omega)
  have hl : k < xs.length := by have := h.1; omega
  exact ⟨ad, xs[k], e, hb, List.getElem?_eq_getElem hl, hc k _ (List.getElem?_eq_getElem hl)⟩
theorem Reads.keep (h : Reads w B size A n xs) (hk : ∀ p : Addr, p.block < B → w'.cell? p = w.cell? p) : Reads w' B size A n xs :=
  ⟨h.1, fun hn => by
    obtain ⟨ad, e, hb, hc⟩ := h.2 hn
    exact ⟨ad, e, hb, fun j u hu => (hk _ (by rw [block_of_add]; exact hb)).trans (hc j u hu)⟩⟩
theorem Reads.more (h : Reads w B size A n xs) (hB : B ≤ B') : Reads w B' size A n xs :=
  ⟨h.1, fun hn => by
    obtain ⟨ad, e, hb, hc⟩ := h.2 hn
    exact ⟨ad, e, by omega, hc⟩⟩
theorem Reads.below (h : Reads w B size A n xs) (hb : Below B w w') : Reads w' B size A n xs := h.keep fun _ hp => hb.cell hp
theorem Reads.drew (h : Reads w B size A n xs) : Reads w.drew B size A n xs := h
theorem Reads.drewN (h : Reads w B size A n xs) (k : Nat) : Reads (w.drewN k) B size A n xs := h
theorem Reads.alloc (h : Reads w B size A n xs) (hB : B ≤ w.heap.size) (o : Obj) : Reads (w.alloc o) B size A n xs := h.keep fun p hp => World.cell?_alloc_lt w o p (by omega)
theorem Reads.setCell (h : Reads w B size A n xs) {p : Addr} (hB : B ≤ p.block) (u : Value) : Reads (w.setCell p u) B size A n xs :=
  h.keep fun q hq => World.cell?_setCell_other w p q u (fun e => by subst e; omega)
theorem Reads.grown (h : Reads w B size A n xs) {row : Option Nat} (hg : w.grownBy w' row) (hB : B ≤ w.heap.size) (hr : ∀ g, row = some g → B ≤ g) : Reads w' B size A n xs :=
  h.keep fun p hp => World.cell?_of_block (hg.block p.block (by omega) (fun e => by have := hr _ e.symm; omega))
theorem Reads.cut (h : Reads w B size A n xs) {k cap : Nat} (hk : k ≤ n) (hc : n ≤ cap) :
    Reads w B size (if cap = k then A else A.map (·.add (k * size))) (n - k) (xs.drop (k * size)) := by
  refine ⟨by rw [List.length_drop, h.1, Nat.sub_mul], fun hn => ?_⟩
  obtain ⟨ad, rfl, hb, hcell⟩ := h.2 (by omega)
  rw [if_neg (by omega)]
  refine ⟨ad.add (k * size), rfl, by rw [block_of_add]; exact hb, fun j u hu => ?_⟩
  rw [add_of_add]
  exact hcell _ u (by rw [← hu, List.getElem?_drop])
theorem Reads.of_own {base : Nat} {e : TypeId} {c : Nat} (h : w.ownsRow base e size (.slice A n c) n xs) : Reads w w.heap.size size A n xs := by
  refine ⟨h.1, fun hn => ?_⟩
  obtain ⟨g, cap, hv, _, hlt⟩ := h.form hn
  have hA : A = some ⟨g, 0, none⟩ := by injection hv
  subst hA
  exact ⟨_, rfl, hlt, h.cells (g := g) rfl⟩
end
section
variable {P : Program} (w : World)

theorem run_append_of_nil (base : Nat) (t ty e : TypeId) (i : TypeInfo) (size : Nat) (ht : P.underlying t = some (.slice e)) (hi : P.info? e = some i)
    (v : Value) (n : Nat) (xs : List Value) (hown : w.ownsRow base e size v n xs) (c : Nat) : (Builtin.append_ #[t, t] ty #[v, .slice none 0 c]).run P w = .ok v w := by
  rcases hown.2 with ⟨rfl, rfl⟩ | ⟨g, cap, cur, rfl, _, _, hnc, _⟩
  · simp [Builtin.append_, run_underlying ht, sizeOf, typeInfo, hi, Builtin.lenOf, Builtin.firstCells]
  · simp [Builtin.append_, run_underlying ht, sizeOf, typeInfo, hi, Builtin.lenOf, Builtin.firstCells, hnc, storeCells]

theorem run_append_any (base : Nat) (t ty e : TypeId) (i : TypeInfo) (z : Value) (size bytes : Nat) (ht : P.underlying t = some (.slice e)) (hi : P.info? e = some i) (hz : i.zero = some z)
    (hsize : i.size = size) (hby : i.bytes = bytes) (hzs : z.cells.size = size) (hsz : 0 < size)
    (v : Value) (n : Nat) (xs : List Value) (hown : w.ownsRow base e size v n xs)
    (B : Nat) (A : Option Addr) (m c : Nat) (news : List Value) (hr : Reads w B size A m news) (h1 : ∀ u ∈ news, u.oneCell' = true)
    (h63 : n + m ≤ maxLen) (hbytes : (n + m) * bytes ≤ 140737488355328) (hbase : base ≤ w.heap.size) :
    ∃ v' w', (Builtin.append_ #[t, t] ty #[v, .slice A m c]).run P w = .ok v' w' ∧ w'.ownsRow base e size v' (n + m) (xs ++ news) ∧ w.grownBy w' v.ownBlock ∧
      (v'.ownBlock = v.ownBlock ∨ v'.ownBlock = some w.heap.size) := by
  rcases A with _ | ad
  · have hm : m = 0 := by
      rcases Nat.eq_zero_or_pos m with h0 | h0
      · exact h0
      · obtain ⟨ad, h, _⟩ := hr.2 h0
        cases h
    subst hm
    have hn : news = [] := List.eq_nil_of_length_eq_zero (by simpa using hr.1)
    subst hn
    exact ⟨v, w, run_append_of_nil w base t ty e i size ht hi v n xs hown c, by simpa using hown, World.grownBy.refl w _, .inl rfl⟩
  · have hcells : ∀ j u, news[j]? = some u → w.cell? (ad.add j) = some u := by
      intro j u hu
      rcases Nat.eq_zero_or_pos m with h0 | h0
      · subst h0
        have hn : news = [] := List.eq_nil_of_length_eq_zero (by simpa using hr.1)
        subst hn
        simp at hu
      · obtain ⟨ad', h, _, hc⟩ := hr.2 h0
        injection h with h
        subst h
        exact hc j u hu
    obtain ⟨v', w', hrun, h2, h3, _, h5⟩ := run_append_own_at (P := P) w base t ty e i z size bytes ht hi hz hsize hby hzs hsz v n xs hown ad m c news hr.1 hcells h1 h63 hbytes hbase
    exact ⟨v', w', hrun, h2, h3, h5⟩

theorem wp_append_any {o : Oper} {a : Act} {K : Act → World → Prop} {Q : Exit → Act → World → Prop} (s x : Operand) (t : TypeId)
    (ho : o.op = .call { callee := .builtin .append, args := #[s, x], argTypes := #[t, t] })
    (base : Nat) (e : TypeId) (i : TypeInfo) (z : Value) (size bytes : Nat) (ht : P.underlying t = some (.slice e)) (hi : P.info? e = some i) (hz : i.zero = some z)
    (hsize : i.size = size) (hby : i.bytes = bytes) (hzs : z.cells.size = size) (hsz : 0 < size)
    (v : Value) (n : Nat) (xs : List Value) (hs : a.eval s = v) (hown : w.ownsRow base e size v n xs)
    (B : Nat) (A : Option Addr) (m c : Nat) (news : List Value) (hx : a.eval x = .slice A m c) (hr : Reads w B size A m news) (h1 : ∀ u ∈ news, u.oneCell' = true)
    (h63 : n + m ≤ maxLen) (hbytes : (n + m) * bytes ≤ 140737488355328) (hbase : base ≤ w.heap.size)
    (h : ∀ v' w', w'.ownsRow base e size v' (n + m) (xs ++ news) → w.grownBy w' v.ownBlock → (v'.ownBlock = v.ownBlock ∨ v'.ownBlock = some w.heap.size) → K (a.put o.dst v') w') : o.wp P a w K Q := by
  obtain ⟨v', w', hrun, h2, h3, h4⟩ := run_append_any (P := P) w base t o.type e i z size bytes ht hi hz hsize hby hzs hsz v n xs hown B A m c news hr h1 h63 hbytes hbase
  unfold Oper.wp execOp
  simp only [ho, resolve, invoke, builtin, Sem.run_bind, Sem.run_pure, Result.andThen_ok, List.map_toArray, List.map_cons, List.map_nil, hs, hx, hrun]
  exact h v' w' h2 h3 h4

theorem wpList_append_any {ops : Array Oper} {rest : List Oper} {o : Oper} {a : Act} {Q : Exit → Act → World → Prop} (hgd : o.guard = none) (s x : Operand) (t : TypeId)
    (ho : o.op = .call { callee := .builtin .append, args := #[s, x], argTypes := #[t, t] })
    (base : Nat) (e : TypeId) (i : TypeInfo) (z : Value) (size bytes : Nat) (ht : P.underlying t = some (.slice e)) (hi : P.info? e = some i) (hz : i.zero = some z)
    (hsize : i.size = size) (hby : i.bytes = bytes) (hzs : z.cells.size = size) (hsz : 0 < size)
    (v : Value) (n : Nat) (xs : List Value) (hs : a.eval s = v) (hown : w.ownsRow base e size v n xs)
    (B : Nat) (A : Option Addr) (m c : Nat) (news : List Value) (hx : a.eval x = .slice A m c) (hr : Reads w B size A m news) (h1 : ∀ u ∈ news, u.oneCell' = true)
    (h63 : n + m ≤ maxLen) (hbytes : (n + m) * bytes ≤ 140737488355328) (hbase : base ≤ w.heap.size)
    (h : ∀ v' w', w'.ownsRow base e size v' (n + m) (xs ++ news) → w.grownBy w' v.ownBlock → (v'.ownBlock = v.ownBlock ∨ v'.ownBlock = some w.heap.size) → wpList P ops Q rest (a.put o.dst v') w') : wpList P ops Q (o :: rest) a w :=
  wpList_plain hgd fun _ hK => wp_append_any w s x t ho base e i z size bytes ht hi hz hsize hby hzs hsz v n xs hs hown B A m c news hx hr h1 h63 hbytes hbase fun v' w' h2 h3 h4 => hK _ _ (h v' w' h2 h3 h4)

end

theorem owns_slice {w : World} {e : TypeId} {sz n : Nat} {v : Value} {xs : List Value} (h : w.ownsRow 0 e sz v n xs) : ∃ A c, v = .slice A n c := by
  obtain ⟨h1, h2⟩ := h
  rcases h2 with ⟨h2, e⟩ | ⟨g, cap, cur, hv, _⟩
  · exact ⟨none, 0, by rw [e]; exact h2⟩
  · exact ⟨_, _, hv⟩
theorem wpList_append_sh {P : Program} (w : World) {ops : Array Oper} {rest : List Oper} {o : Oper} {a : Act} {Q : Exit → Act → World → Prop} (hgd : o.guard = none) (s x : Operand) (t : TypeId)
    (ho : o.op = .call { callee := .builtin .append, args := #[s, x], argTypes := #[t, t] })
    (e : TypeId) (i : TypeInfo) (z : Value) (size bytes : Nat) (ht : P.underlying t = some (.slice e)) (hi : P.info? e = some i) (hz : i.zero = some z)
    (hsize : i.size = size) (hby : i.bytes = bytes) (hzs : z.cells.size = size) (hsz : 0 < size)
    (v : Value) (n : Nat) (xs : List Value) (hs : a.eval s = v) (hown : w.ownsRow 0 e size v n xs)
    (B : Nat) (A : Option Addr) (m c : Nat) (news : List Value) (hx : a.eval x = .slice A m c) (hr : Reads w B size A m news) (h1 : ∀ u ∈ news, u.oneCell' = true)
    (h63 : n + m ≤ maxLen) (hbytes : (n + m) * bytes ≤ 140737488355328)
    (h : ∀ A' c' w', w'.ownsRow 0 e size (.slice A' (n + m) c') (n + m) (xs ++ news) → w.grownBy w' v.ownBlock → ((Value.slice A' (n + m) c').ownBlock = v.ownBlock ∨ (Value.slice A' (n + m) c').ownBlock = some w.heap.size) → wpList P ops Q rest (a.put o.dst (.slice A' (n + m) c')) w') : wpList P ops Q (o :: rest) a w :=
  wpList_append_any w hgd s x t ho 0 e i z size bytes ht hi hz hsize hby hzs hsz v n xs hs hown B A m c news hx hr h1 h63 hbytes (Nat.zero_le _) (fun v' w' h2 h3 h4 => by
    obtain ⟨A', c', rfl⟩ := owns_slice h2
    exact h A' c' w' h2 h3 h4)
theorem info63 : (Try.prog.info? 63).map (fun i => (i.zero, i.size, i.bytes)) = some (some (.agg #[.int .i64 0, .int .i64 0]), 2, 16) := by kernel_rfl
/-- The cells of items as the document's heap has them. -/
def flat : List It → List Value
  | [] => []
  | y :: L => .int .i64 y.id :: .int .i64 y.key :: flat L
theorem flat_len : ∀ L : List It, (flat L).length = L.length * 2
  | [] => rfl
  | y :: L => by simp only [flat, List.length_cons, flat_len L]; omega
theorem flat_app : ∀ A B : List It, flat (A ++ B) = flat A ++ flat B
  | [], B => rfl
  | y :: A, B => by simp only [List.cons_append, flat, flat_app A B]
theorem flat_take (L : List It) (k : Nat) (h : k ≤ L.length) : flat (L.take k) = (flat L).take (k * 2) := by
  have e : flat L = flat (L.take k) ++ flat (L.drop k) := by rw [← flat_app, List.take_append_drop]
  rw [e, List.take_left' (by rw [flat_len, List.length_take]; congr 1; omega)]
theorem flat_drop (L : List It) (k : Nat) (h : k ≤ L.length) : flat (L.drop k) = (flat L).drop (k * 2) := by
  have e : flat L = flat (L.take k) ++ flat (L.drop k) := by rw [← flat_app, List.take_append_drop]
  rw [e, List.drop_left' (by rw [flat_len, List.length_take]; congr 1; omega)]
theorem flat_one : ∀ L : List It, ∀ u ∈ flat L, u.oneCell' = true
  | [], u, h => by cases h
  | y :: L, u, h => by
    simp only [flat, List.mem_cons] at h
    rcases h with rfl | rfl | h
    · rfl
    · rfl
    · exact flat_one L u h
def it0 : It := ⟨0, 0, 0⟩
theorem flat_at : ∀ (L : List It) (k : Nat), k < L.length → (flat L)[k * 2]? = some (.int .i64 (L.getD k it0).id) ∧ (flat L)[k * 2 + 1]? = some (.int .i64 (L.getD k it0).key)
  | y :: L, 0, _ => ⟨rfl, rfl⟩
  | y :: L, k + 1, h => by
    have := flat_at L k (by simpa using h)
    rw [show (k + 1) * 2 = k * 2 + 1 + 1 by omega]
    simp only [flat, List.getElem?_cons_succ, List.getD_cons_succ]
    exact this
/-- A slice of the document's items. -/
def Oi (w : World) (v : Value) (L : List It) : Prop := w.ownsRow 0 63 2 v L.length (flat L)
theorem Oi.but {w w' : World} {v : Value} {L : List It} {S : Nat → Prop} (h : Oi w v L) (hb : But S w w') (hs : ∀ k, v.ownBlock = some k → ¬ S k) : Oi w' v L := owns_but h hb hs
theorem Oi.slice {w : World} {v : Value} {L : List It} (h : Oi w v L) : ∃ A c, v = .slice A L.length c ∧ L.length ≤ c := by
  obtain ⟨h1, h2⟩ := h
  rcases h2 with ⟨h2, e⟩ | ⟨g, cap, cur, hv, _, _, hc, _⟩
  · exact ⟨none, 0, by rw [e]; exact h2, by omega⟩
  · exact ⟨_, _, hv, hc⟩
theorem Oi.cells {w : World} {A : Option Addr} {n c : Nat} {L : List It} (h : Oi w (.slice A n c) L) {k : Nat} (hk : k < L.length) :
    ∃ q, A = some ⟨q, 0, none⟩ ∧ q < w.heap.size ∧ w.cell? ⟨q, k * 2, none⟩ = some (.int .i64 (L.getD k it0).id) ∧ w.cell? ⟨q, k * 2 + 1, none⟩ = some (.int .i64 (L.getD k it0).key) := by
  have h' := h
  obtain ⟨h1, h2⟩ := h
  rcases h2 with ⟨h2, e⟩ | ⟨g, cap, cur, hv, _, hh, hc, _⟩
  · omega
  · cases hv
    obtain ⟨a, b⟩ := flat_at L k hk
    refine ⟨g, rfl, Blk.lt hh, ?_, ?_⟩
    · have := World.ownsRow.cells h' (g := g) rfl _ _ a
      rw [add_plain, Nat.zero_add] at this; exact this
    · have := World.ownsRow.cells h' (g := g) rfl _ _ b
      rw [add_plain, Nat.zero_add] at this; exact this
/-- At x lies the document's heap for R ids that holds L; its blocks are S. -/
structure RF (w : World) (S : Nat → Prop) (x : Nat) (R : Int) (L : List It) : Prop where
  ex : ∃ v, Blk w x #[.int .i64 R, v] 47 ∧ Oi w v L ∧ v.ownBlock ≠ some x ∧ ∀ k, S k ↔ k = x ∨ v.ownBlock = some k
  len : L.length ≤ 256
theorem RF.but {w w' : World} {S S' : Nat → Prop} {x : Nat} {R : Int} {L : List It} (h : RF w S x R L) (hb : But S' w w') (hs : ∀ k, S k → ¬ S' k) : RF w' S x R L := by
  obtain ⟨v, h1, h2, h3, h4⟩ := h.ex
  exact ⟨⟨v, h1.but hb (hs x ((h4 x).2 (.inl rfl))), h2.but hb (fun k e => hs k ((h4 k).2 (.inr e))), h3, h4⟩, h.len⟩
theorem RF.lt {w : World} {S : Nat → Prop} {x : Nat} {R : Int} {L : List It} (h : RF w S x R L) : ∀ k, S k → k < w.heap.size := by
  obtain ⟨v, h1, h2, h3, h4⟩ := h.ex
  intro k hk
  rcases (h4 k).1 hk with rfl | e
  · exact h1.lt
  · exact (World.ownsRow.lt h2 k e).2
def Rm (w : World) (S : Nat → Prop) (x : Nat) (R : Int) (L : List It) (w' : World) : Prop :=
  ∃ S', RF w' S' x R L ∧ But S w w' ∧ ∀ k, S' k → S k ∨ w.heap.size ≤ k
theorem RF.stay {w w' : World} {S : Nat → Prop} {x : Nat} {R : Int} {L : List It} (h : RF w S x R L) (hb : But No w w') : Rm w S x R L w' := ⟨S, h.but hb (fun _ _ f => f), hb.no, fun _ h => .inl h⟩
theorem Rm.trans {w w' w'' : World} {S : Nat → Prop} {x : Nat} {R : Int} {L L' : List It} (h : Rm w S x R L w') (k : ∀ S', RF w' S' x R L → Rm w' S' x R L' w'') : Rm w S x R L' w'' := by
  obtain ⟨S', h1, h2, h3⟩ := h
  obtain ⟨S'', k1, k2, k3⟩ := k S' h1
  refine ⟨S'', k1, h2.andThen k2 h3, fun j hj => ?_⟩
  rcases k3 j hj with h | h
  · exact h3 j h
  · have := h2.size; exact .inr (by omega)
theorem rf_fin {w w0 w3 : World} {S : Nat → Prop} {x : Nat} {R : Int} {L L' : List It} {v' : Value} (h : RF w S x R L) (hb : But No w w0) (ho : Oi w0 v' L') (hn : ∀ k, v'.ownBlock = some k → w.heap.size ≤ k) (hl : L'.length ≤ 256) (e : w0.setCell ⟨x, 1, none⟩ v' = w3) : Rm w S x R L' w3 := by
  obtain ⟨v, h1, h2, h3, h4⟩ := h.ex
  have hx := h1.lt
  have hv : v'.ownBlock ≠ some x := fun e => by have := hn x e; omega
  have hB : But (Just x) w0 w3 := by rw [← e]; exact (But.refl _ _).setCell (p := ⟨x, 1, none⟩) (just x) _
  refine ⟨fun k => k = x ∨ v'.ownBlock = some k, ⟨⟨v', ?_, ho.but hB (fun k ek e2 => hv (by rw [ek, e2])), hv, fun _ => Iff.rfl⟩, hl⟩, hb.no.trans (hB.mono (fun k _ e2 => (h4 k).2 (.inl e2))), ?_⟩
  · rw [← e]; exact (h1.but hb (fun f => f)).set 1 v'
  · rintro k (rfl | e2)
    · exact .inl ((h4 k).2 (.inl rfl))
    · exact .inr (hn k e2)
theorem first_idx {a : Int} : ∀ {L : List It}, hasI a L = true → ∃ k, k < L.length ∧ (L.getD k it0).id = a ∧ (∀ j, j < k → (L.getD j it0).id ≠ a) ∧ rmv a L = L.take k ++ L.drop (k + 1)
  | [], h => by cases h
  | y :: L, h => by
    by_cases e : y.id = a
    · refine ⟨0, by simp, by simpa using e, fun j hj => absurd hj (by omega), ?_⟩
      unfold rmv; simp [e]
    · have h' : hasI a L = true := by unfold hasI at h ⊢; simpa [e] using h
      obtain ⟨k, h1, h2, h3, h4⟩ := first_idx h'
      refine ⟨k + 1, by simpa using h1, by simpa using h2, fun j hj => ?_, ?_⟩
      · cases j with
        | zero => simpa using e
        | succ j => simpa using h3 j (by omega)
      · unfold rmv at h4 ⊢
        rw [List.eraseP_cons_of_neg (by simpa using e), h4]; rfl
theorem ins_at {x : It} : ∀ {L : List It} {k : Nat}, k ≤ L.length → (∀ j, j < k → (L.getD j it0).key ≤ x.key) → (k = L.length ∨ x.key < (L.getD k it0).key) → ins x L = L.take k ++ x :: L.drop k
  | [], k, h, _, _ => by simp at h; subst h; rfl
  | y :: L, 0, _, _, hd => by
    rcases hd with hd | hd
    · simp at hd
    · have : ¬ y.key ≤ x.key := by simp at hd; omega
      unfold ins; simp [this]
  | y :: L, k + 1, h, ha, hd => by
    have h0 : y.key ≤ x.key := by simpa using ha 0 (by omega)
    have ih := ins_at (x := x) (L := L) (k := k) (by simpa using h) (fun j hj => by simpa using ha (j + 1) (by omega)) (by simpa using hd)
    unfold ins at ih ⊢
    rw [List.takeWhile_cons, List.dropWhile_cons]
    simp only [h0, decide_true, if_true, List.cons_append, List.take_succ_cons, List.drop_succ_cons]
    rw [ih]
theorem own_new {u v : Value} {M N : Nat} (hu : ∀ j, u.ownBlock = some j → M ≤ j) (hat : v.ownBlock = u.ownBlock ∨ v.ownBlock = some N) (hN : M ≤ N) : ∀ j, v.ownBlock = some j → M ≤ j := by
  intro j e
  rcases hat with h | h
  · exact hu j (by rw [← h]; exact e)
  · rw [h] at e; cases e; exact hN
theorem own_none {M : Nat} : ∀ j, (Value.slice none 0 0).ownBlock = some j → M ≤ j := fun j e => by simp [Value.ownBlock] at e
set_option maxHeartbeats 1000000 in
theorem at_out (x : Nat) (R : Int) (L : List It) (S : Nat → Prop) (w : World) (a : Int) (h : RF w S x R L) (hno : ∀ y ∈ L, y.id ≠ a) :
    Calls Try.prog 31 #[.pointer (some ⟨x, 0, none⟩), .int .i64 a] w fun r w' => r = .returned (.int .i64 (-1)) ∧ w = w' := by
  have hl := h.len
  obtain ⟨v, h1, h2, h3, h4⟩ := h.ex
  obtain ⟨A, c, rfl, hc⟩ := h2.slice
  have hcell : w.cell? ⟨x, 1, none⟩ = some (.slice A L.length c) := h1.cell (o := 1) rfl
  have H2 := Lib.hid h2
  have HNO : Hid (∀ k, k < L.length → (L.getD k it0).id ≠ a) := fun k hk => by
    have : L.getD k it0 = L[k] := by simp [List.getD, List.getElem?_eq_getElem hk]
    rw [this]; exact hno _ (List.getElem_mem hk)
  clear h h1 h2 h3 h4 hno
  generalize hn : L.length = n at hcell hl H2 HNO hc
  have HN := Lib.hid hn
  clear hn
  go_enter Try.func31, Try.ntmps31
  go_wp2
  go_loop [5] (fun s => ∃ k : Nat, s = .int .i64 k ∧ k ≤ n) (fun s => n - (intOf s).toNat)
  case atStart => exact ⟨0, rfl, by omega⟩
  case round =>
    obtain ⟨k, rfl, hk⟩ := hrel
    by_cases hlt : k < n
    · obtain ⟨q, rfl, hq, c0, c1⟩ := H2.out.cells (k := k) (by rw [HN.out]; exact hlt)
      have kn : (k : Int) < (n : Int) := by omega
      have hne := HNO.out k hlt
      generalize (L.getD k it0).id = y at c0 hne
      have hne' : (y == a) = false := by simpa using hne
      go_wp2
      go_round
      case rel => exact ⟨k + 1, by go_num, by omega⟩
      case measure => simp [intOf]; omega
    · go_wp2
      go_ret
      exact ⟨rfl, rfl⟩
set_option maxHeartbeats 1000000 in
theorem at_in (x : Nat) (R : Int) (L : List It) (S : Nat → Prop) (w : World) (a : Int) (k0 : Nat) (h : RF w S x R L) (hk0 : k0 < L.length) (hat : (L.getD k0 it0).id = a) (hno : ∀ j, j < k0 → (L.getD j it0).id ≠ a) :
    Calls Try.prog 31 #[.pointer (some ⟨x, 0, none⟩), .int .i64 a] w fun r w' => r = .returned (.int .i64 k0) ∧ w = w' := by
  have hl := h.len
  obtain ⟨v, h1, h2, h3, h4⟩ := h.ex
  obtain ⟨A, c, rfl, hc⟩ := h2.slice
  have hcell : w.cell? ⟨x, 1, none⟩ = some (.slice A L.length c) := h1.cell (o := 1) rfl
  have H2 := Lib.hid h2
  have HNO := Lib.hid hno
  have HAT := Lib.hid hat
  clear h h1 h2 h3 h4 hno hat
  generalize hn : L.length = n at hcell hl H2 hk0 hc
  have HN := Lib.hid hn
  clear hn
  go_enter Try.func31, Try.ntmps31
  go_wp2
  go_loop [5] (fun s => ∃ k : Nat, s = .int .i64 k ∧ k ≤ k0) (fun s => n - (intOf s).toNat)
  case atStart => exact ⟨0, rfl, by omega⟩
  case round =>
    obtain ⟨k, rfl, hk⟩ := hrel
    obtain ⟨q, rfl, hq, c0, c1⟩ := H2.out.cells (k := k) (by rw [HN.out]; omega)
    have kn : (k : Int) < (n : Int) := by omega
    by_cases hlt : k < k0
    · have hne := HNO.out k hlt
      generalize (L.getD k it0).id = y at c0 hne
      have hne' : (y == a) = false := by simpa using hne
      go_wp2
      go_round
      case rel => exact ⟨k + 1, by go_num, by omega⟩
      case measure => simp [intOf]; omega
    · obtain rfl : k = k0 := by omega
      rw [HAT.out] at c0
      go_wp2
      go_ret
      exact ⟨rfl, rfl⟩
set_option maxHeartbeats 4000000 in
set_option maxRecDepth 100000 in
theorem off_any (x : Nat) (R : Int) (L : List It) (S : Nat → Prop) (w : World) (k : Nat) (h : RF w S x R L) (hk : k < L.length) :
    Calls Try.prog 34 #[.pointer (some ⟨x, 0, none⟩), .int .i64 k] w fun r w' => r = .returned (.tuple #[]) ∧ Rm w S x R (L.take k ++ L.drop (k + 1)) w' := by
  have hl := h.len
  have H := Lib.hid h
  obtain ⟨v, h1, h2, h3, h4⟩ := h.ex
  obtain ⟨A, c, rfl, hc⟩ := h2.slice
  have hcell : w.cell? ⟨x, 1, none⟩ = some (.slice A L.length c) := h1.cell (o := 1) rfl
  have HX := Lib.hid h1
  have HRD := Lib.hid (Reads.of_own h2)
  obtain ⟨i0, hi0, hz0, hz1, hz2⟩ := info_parts info63
  have I0 : Hid (Try.prog.info? 63 = some i0 ∧ i0.zero = some (.agg #[.int .i64 0, .int .i64 0]) ∧ i0.size = 2 ∧ i0.bytes = 16) := ⟨hi0, hz0, hz1, hz2⟩
  clear hi0 hz0 hz1 hz2 h h1 h2 h3 h4
  obtain ⟨n, hn⟩ : ∃ n, n = L.length := ⟨_, rfl⟩
  have HN := Lib.hid hn
  rw [← hn] at hcell hl hc hk HRD
  clear hn
  obtain ⟨k1, hk1⟩ : ∃ k1 : Nat, k1 = k + 1 := ⟨_, rfl⟩
  have hk1' : (k : Int) + 1 = (k1 : Int) := by omega
  have HK1 := Lib.hid hk1
  have kc : (k : Int) ≤ (c : Int) := by omega
  have k1n : (k1 : Int) ≤ (n : Int) := by omega
  have k1N : k1 ≤ n := by omega
  have k1c : (k1 : Int) ≤ (c : Int) := by omega
  have k10 : (0 : Int) ≤ (k1 : Int) := by omega
  clear hk1
  obtain ⟨A', hA'⟩ : ∃ A', (if c = k1 then A else A.map (·.add (k1 * 2))) = A' := ⟨_, rfl⟩
  have R1 : Hid (Reads w w.heap.size 2 A k (flat (L.take k))) := by
    have h := HRD.out
    refine ⟨by rw [flat_len, List.length_take]; have := HN.out; congr 1; omega, fun hp => ?_⟩
    obtain ⟨ad, e, hb, hcc⟩ := h.2 (by omega)
    refine ⟨ad, e, hb, fun j u hu => hcc j u ?_⟩
    rw [flat_take L k (by have := HN.out; omega), List.getElem?_take] at hu
    split at hu
    · exact hu
    · cases hu
  have R2 : Hid (Reads w w.heap.size 2 A' (n - k1) (flat (L.drop k1))) := by
    have := HRD.out.cut (k := k1) (cap := c) (by omega) hc
    rw [hA', ← flat_drop L k1 (by have := HN.out; omega)] at this
    exact this
  have CX : Hid (∀ w', But No w w' → w'.cell? ⟨x, 1, none⟩ = some (.slice A n c) ∧ w'.frozen? ⟨x, 1, none⟩ = false) := by
    intro w' hb
    have hb' := HX.out.but hb (fun f => f)
    exact ⟨by rw [HN.out]; exact hb'.cell (o := 1) rfl, hb'.frozen 1⟩
  have KEEP : Hid (∀ w' A m xs, But No w w' → Reads w w.heap.size 2 A m xs → Reads w' w.heap.size 2 A m xs) := fun w' A m xs hb hr => hr.keep fun p hp => World.cell?_of_block (hb.block p.block hp (fun f => f))
  clear HRD
  go_enter Try.func34, Try.ntmps34
  go_wp2_with (first
    | (at_builtin; refine wpList_append_sh _ rfl _ _ 45 rfl 63 i0 _ 2 16 Try.underlying45 I0.out.1 I0.out.2.1 I0.out.2.2.1 I0.out.2.2.2 rfl (by omega) (.slice none 0 0) 0 [] rfl (World.ownsRow_nil _ _ _ _) w.heap.size A k _ (flat (L.take k)) rfl R1.out (flat_one _) (by unfold maxLen; omega) (by omega) ?_; intro A1 cc1 w1 hown1 hgrow1 hat1; simp only [Nat.zero_add, List.nil_append] at hown1 hat1; have HB1 : Hid (But No w w1) := (But.refl No w).grown hgrow1 (fun k e => by simp [Value.ownBlock] at e); obtain ⟨hcx, hfx⟩ := CX.out w1 HB1.out; have O1 := Lib.hid hown1; have AT1 := Lib.hid hat1; clear hown1 hgrow1 hat1)
    | (at_builtin; refine wpList_append_sh _ rfl _ _ 45 rfl 63 i0 _ 2 16 Try.underlying45 I0.out.1 I0.out.2.1 I0.out.2.2.1 I0.out.2.2.2 rfl (by omega) (.slice A1 k cc1) k _ rfl O1.out w.heap.size A' (n - k1) _ (flat (L.drop k1)) rfl (KEEP.out _ _ _ _ HB1.out R2.out) (flat_one _) (by unfold maxLen; omega) (by omega) ?_; intro A2 cc2 w2 hown2 hgrow2 hat2; have HB2 : Hid (But No w w2) := HB1.out.grown hgrow2 (fun j e => .inr (own_new own_none AT1.out (Nat.le_refl _) j e)); obtain ⟨hcy, hfy⟩ := CX.out w2 HB2.out; have O2 := Lib.hid hown2; have AT2 := Lib.hid hat2; clear hown2 hgrow2 hat2))
  go_end0
  refine ⟨rfl, rf_fin H.out HB2.out (v' := .slice A2 (k + (n - k1)) cc2) ?_ (own_new (own_new own_none AT1.out (Nat.le_refl _)) AT2.out HB1.out.size) ?_ rfl⟩
  · have ho := O2.out
    rw [← flat_app, HK1.out] at ho
    have e : k + (n - (k + 1)) = (L.take k ++ L.drop (k + 1)).length := by rw [List.length_append, List.length_take, List.length_drop, ← HN.out]; omega
    rw [e] at ho
    rw [HK1.out, e]
    exact ho
  · rw [List.length_append, List.length_take, List.length_drop, ← HN.out]; omega
set_option maxHeartbeats 8000000 in
set_option maxRecDepth 100000 in
theorem put_any (x : Nat) (R : Int) (L : List It) (S : Nat → Prop) (w : World) (y : It) (h : RF w S x R L) (hlen : L.length < 256) :
    Calls Try.prog 32 #[.pointer (some ⟨x, 0, none⟩), .agg #[.int .i64 y.id, .int .i64 y.key]] w fun r w' => r = .returned (.tuple #[]) ∧ Rm w S x R (ins y L) w' := by
  have H := Lib.hid h
  obtain ⟨v, h1, h2, h3, h4⟩ := h.ex
  obtain ⟨A, c, rfl, hc⟩ := h2.slice
  have HX := Lib.hid h1
  have HO := Lib.hid h2
  have HRD := Lib.hid (Reads.of_own h2)
  obtain ⟨i0, hi0, hz0, hz1, hz2⟩ := info_parts info63
  have I0 : Hid (Try.prog.info? 63 = some i0 ∧ i0.zero = some (.agg #[.int .i64 0, .int .i64 0]) ∧ i0.size = 2 ∧ i0.bytes = 16) := ⟨hi0, hz0, hz1, hz2⟩
  have hxl := h1.lt
  obtain ⟨n, hn⟩ : ∃ n, n = L.length := ⟨_, rfl⟩
  have HN := Lib.hid hn
  have CX : Hid (∀ w', But No w w' → w'.cell? ⟨x, 1, none⟩ = some (.slice A n c) ∧ w'.frozen? ⟨x, 1, none⟩ = false) := by
    intro w' hb
    have hb' := HX.out.but hb (fun f => f)
    exact ⟨by rw [HN.out]; exact hb'.cell (o := 1) rfl, hb'.frozen 1⟩
  have KEEP : Hid (∀ w' A m xs, But No w w' → Reads w w.heap.size 2 A m xs → Reads w' w.heap.size 2 A m xs) := fun w' A m xs hb hr => hr.keep fun p hp => World.cell?_of_block (hb.block p.block hp (fun f => f))
  rw [← hn] at hlen hc HRD HO
  clear hi0 hz0 hz1 hz2 h h1 h2 h3 h4 hn
  obtain ⟨ya, yb, yc⟩ := y
  dsimp only
  go_enter Try.func32, Try.ntmps32
  go_wp2_with fail
  generalize hws : w.alloc (.cells #[.int .i64 ya, .int .i64 yb] 63) = ws
  have HBS : Hid (But No w ws) := by rw [← hws]; exact (But.refl No w).alloc _
  have HYB : Hid (Blk ws w.heap.size #[.int .i64 ya, .int .i64 yb] 63) := by rw [← hws]; exact Blk.new w _ _
  clear hws
  go_loopw [4] (fun s wr => ∃ k : Nat, s = .int .i64 k ∧ k ≤ n ∧ Hid (∀ j, j < k → (L.getD j it0).key ≤ yb) ∧ Hid (But No ws wr)) (fun s _ => n - (intOf s).toNat)
  case atStart => exact ⟨0, rfl, by omega, fun j hj => absurd hj (by omega), But.refl _ _⟩
  case round =>
    obtain ⟨k, rfl, hk, hall, hbr⟩ := hrel
    have HBR := Lib.hid (HBS.out.trans hbr.out)
    have HYR := Lib.hid (HYB.out.but hbr.out (fun f => f))
    obtain ⟨hcx, hfx⟩ := CX.out _ HBR.out
    have y0 : wr.cell? ⟨w.heap.size, 0, none⟩ = some (.int .i64 ya) := HYR.out.cell (o := 0) rfl
    have y1 : wr.cell? ⟨w.heap.size, 1, none⟩ = some (.int .i64 yb) := HYR.out.cell (o := 1) rfl
    have fin : Hid (k = n ∨ (k < n ∧ yb < (L.getD k it0).key) → ins ⟨ya, yb, yc⟩ L = L.take k ++ ⟨ya, yb, yc⟩ :: L.drop k) := by
      intro hd
      refine ins_at (by rw [← HN.out]; exact hk) hall.out ?_
      rcases hd with h | h
      · exact .inl (by rw [← HN.out]; exact h)
      · exact .inr h.2
    by_cases hgo : k < n ∧ (L.getD k it0).key ≤ yb
    · obtain ⟨hlt, hle⟩ := hgo
      obtain ⟨q, rfl, hq, c0, c1⟩ := (HO.out.but HBR.out (fun _ _ f => f)).cells (k := k) (by rw [← HN.out]; exact hlt)
      have hall' : Hid (∀ j, j < k + 1 → (L.getD j it0).key ≤ yb) := by
        intro j hj
        by_cases e : j = k
        · rw [e]; exact hle
        · exact hall.out j (by omega)
      generalize (L.getD k it0).key = zk at c1 hle
      have kn : (k : Int) < (n : Int) := by omega
      have b1 : decide ((k : Int) < (n : Int)) = true := by simp; omega
      have b2 : decide (zk ≤ yb) = true := by simpa using hle
      go_wp2_with fail
      go_quiet (fail)
      go_wp2
      go_roundw
      case rel => exact ⟨k + 1, by go_num, by omega, hall', hbr.out.drewN _⟩
      case measure => simp [intOf]; omega
    · by_cases hlt : k < n
      · have hgt : yb < (L.getD k it0).key := by omega
        obtain ⟨q, hqA, hq, c0, c1⟩ := (HO.out.but HBR.out (fun _ _ f => f)).cells (k := k) (by rw [← HN.out]; exact hlt)
        have HQA := Lib.hid hqA
        rw [hqA] at hcx
        clear hqA
        have HINS : Hid (ins ⟨ya, yb, yc⟩ L = L.take k ++ ⟨ya, yb, yc⟩ :: L.drop k) := fin.out (.inr ⟨hlt, hgt⟩)
        clear fin
        generalize (L.getD k it0).key = zk at c1 hgt
        have kn' : (k : Int) < (n : Int) := by omega
        have b1 : decide ((k : Int) < (n : Int)) = true := by simp; omega
        have b2 : decide (zk ≤ yb) = false := by simp; omega
        go_wp2_with fail
        go_quiet (fail)
        clear c0 c1 kn' b1 b2 hgt hlt hgo
        generalize hwq : wr.drewN _ = wq
        have HBQ : Hid (But No w wq) := by rw [← hwq]; exact HBR.out.drewN _
        have HYQ : Hid (Blk wq w.heap.size #[.int .i64 ya, .int .i64 yb] 63) := by rw [← hwq]; exact HYR.out.but (S := No) ((But.refl No wr).drewN _) (fun f => f)
        clear hwq hcx hfx y0 y1 HBR HYR hbr hall
        obtain ⟨hcx, hfx⟩ := CX.out _ HBQ.out
        have R1 : Hid (Reads w w.heap.size 2 A k (flat (L.take k))) := by
          have h := HRD.out
          refine ⟨by rw [flat_len, List.length_take]; have := HN.out; congr 1; omega, fun hp => ?_⟩
          obtain ⟨ad, e, hb, hcc⟩ := h.2 (by omega)
          refine ⟨ad, e, hb, fun j u hu => hcc j u ?_⟩
          rw [flat_take L k (by have := HN.out; omega), List.getElem?_take] at hu
          split at hu
          · exact hu
          · cases hu
        obtain ⟨A', hA'⟩ : ∃ A', (if c = k then A else A.map (·.add (k * 2))) = A' := ⟨_, rfl⟩
        have R2 : Hid (Reads w w.heap.size 2 A' (n - k) (flat (L.drop k))) := by
          have := HRD.out.cut (k := k) (cap := c) (by omega) hc
          rw [hA', ← flat_drop L k (by have := HN.out; omega)] at this
          exact this
        have kc : (k : Int) ≤ (c : Int) := by omega
        have kn : (k : Int) ≤ (n : Int) := by omega
        have k00 : (0 : Int) ≤ (k : Int) := by omega
        go_wp2_with (first | (at_builtin; refine wpList_append_sh _ rfl _ _ 45 rfl 63 i0 _ 2 16 Try.underlying45 I0.out.1 I0.out.2.1 I0.out.2.2.1 I0.out.2.2.2 rfl (by omega) (.slice none 0 0) 0 [] rfl (World.ownsRow_nil _ _ _ _) w.heap.size A k _ (flat (L.take k)) rfl (KEEP.out _ _ _ _ HBQ.out R1.out) (flat_one _) (by unfold maxLen; omega) (by omega) ?_; intro A1 cc1 w1 hown1 hgrow1 hat1; simp only [Nat.zero_add, List.nil_append] at hown1 hat1; have HB1q : Hid (But No wq w1) := (But.refl No wq).grown hgrow1 (fun k e => by simp [Value.ownBlock] at e); have HB1 := Lib.hid (HBQ.out.trans HB1q.out); have HY1 := Lib.hid (HYQ.out.but HB1q.out (fun f => f)); have y0 : w1.cell? ⟨w.heap.size, 0, none⟩ = some (.int .i64 ya) := HY1.out.cell (o := 0) rfl; have y1 : w1.cell? ⟨w.heap.size, 1, none⟩ = some (.int .i64 yb) := HY1.out.cell (o := 1) rfl; have O1 := Lib.hid (owns_but (S := No) hown1 ((But.refl No w1).alloc (.cells #[.int .i64 ya, .int .i64 yb] 63)) (fun _ _ f => f)); have AT1 := Lib.hid (own_new own_none hat1 HBQ.out.size); clear hown1 hgrow1 hat1) | (at_builtin; refine wpList_append_own_at _ rfl _ _ 45 rfl 0 63 i0 _ 2 16 Try.underlying45 I0.out.1 I0.out.2.1 I0.out.2.2.1 I0.out.2.2.2 rfl (by omega) (.slice A1 k cc1) k _ rfl O1.out ⟨w1.heap.size, 0, none⟩ 1 1 [.int .i64 ya, .int .i64 yb] rfl rfl (World.news_of_block (cs := #[.int .i64 ya, .int .i64 yb]) (t := 63) (fr := (0, 0)) (Blk.new w1 _ _)) (by simp [Value.oneCell']) (by unfold maxLen; omega) (by omega) (Nat.zero_le _) ?_; intro v2 w2 hown2 hgrow2 hnil2 hat2; have HB2 : Hid (But No w w2) := (HB1.out.alloc _).grown hgrow2 (fun j e => .inr (AT1.out j e)); obtain ⟨hcy, hfy⟩ := CX.out w2 HB2.out; have O2 := Lib.hid hown2; have AT2 := Lib.hid (own_new AT1.out hat2 (by have := HB1.out.size; simp; omega)); clear hown2 hgrow2 hat2 hnil2) | (at_builtin; refine wpList_append_sh _ rfl _ _ 45 rfl 63 i0 _ 2 16 Try.underlying45 I0.out.1 I0.out.2.1 I0.out.2.2.1 I0.out.2.2.2 rfl (by omega) v2 (k + 1) _ rfl O2.out w.heap.size A' (n - k) _ (flat (L.drop k)) rfl (KEEP.out _ _ _ _ HB2.out R2.out) (flat_one _) (by unfold maxLen; omega) (by omega) ?_; intro A3 cc3 w3 hown3 hgrow3 hat3; have HB3 : Hid (But No w w3) := HB2.out.grown hgrow3 (fun j e => .inr (AT2.out j e)); obtain ⟨hcz, hfz⟩ := CX.out w3 HB3.out; have O3 := Lib.hid hown3; have AT3 := Lib.hid (own_new AT2.out hat3 HB2.out.size); clear hown3 hgrow3 hat3))
        go_end0
        refine ⟨rfl, rf_fin H.out HB3.out (v' := .slice A3 (k + 1 + (n - k)) cc3) ?_ AT3.out ?_ rfl⟩
        · have ho := O3.out
          rw [HINS.out]
          have e1 : (flat (L.take k) ++ [Value.int .i64 ya, .int .i64 yb] ++ flat (L.drop k)) = flat (L.take k ++ ⟨ya, yb, yc⟩ :: L.drop k) := by
            rw [flat_app, List.append_assoc]; rfl
          have e2 : k + 1 + (n - k) = (L.take k ++ ⟨ya, yb, yc⟩ :: L.drop k).length := by rw [List.length_append, List.length_cons, List.length_take, List.length_drop, ← HN.out]; omega
          rw [e1, e2] at ho
          rw [e2]
          exact ho
        · rw [length_ins, ← HN.out]; omega
      · have HINS : Hid (ins ⟨ya, yb, yc⟩ L = L.take k ++ ⟨ya, yb, yc⟩ :: L.drop k) := fin.out (.inl (by omega))
        clear fin
        have b1 : decide ((k : Int) < (n : Int)) = false := by simp; omega
        go_wp2_with fail
        go_quiet (fail)
        generalize hwq : wr.drewN _ = wq
        have HBQ : Hid (But No w wq) := by rw [← hwq]; exact HBR.out.drewN _
        have HYQ : Hid (Blk wq w.heap.size #[.int .i64 ya, .int .i64 yb] 63) := by rw [← hwq]; exact HYR.out.but (S := No) ((But.refl No wr).drewN _) (fun f => f)
        clear hwq hcx hfx y0 y1 HBR HYR hbr hall
        obtain ⟨hcx, hfx⟩ := CX.out _ HBQ.out
        have R1 : Hid (Reads w w.heap.size 2 A k (flat (L.take k))) := by
          have h := HRD.out
          refine ⟨by rw [flat_len, List.length_take]; have := HN.out; congr 1; omega, fun hp => ?_⟩
          obtain ⟨ad, e, hb, hcc⟩ := h.2 (by omega)
          refine ⟨ad, e, hb, fun j u hu => hcc j u ?_⟩
          rw [flat_take L k (by have := HN.out; omega), List.getElem?_take] at hu
          split at hu
          · exact hu
          · cases hu
        obtain ⟨A', hA'⟩ : ∃ A', (if c = k then A else A.map (·.add (k * 2))) = A' := ⟨_, rfl⟩
        have R2 : Hid (Reads w w.heap.size 2 A' (n - k) (flat (L.drop k))) := by
          have := HRD.out.cut (k := k) (cap := c) (by omega) hc
          rw [hA', ← flat_drop L k (by have := HN.out; omega)] at this
          exact this
        have kc : (k : Int) ≤ (c : Int) := by omega
        have kn : (k : Int) ≤ (n : Int) := by omega
        have k00 : (0 : Int) ≤ (k : Int) := by omega
        go_wp2_with (first | (at_builtin; refine wpList_append_sh _ rfl _ _ 45 rfl 63 i0 _ 2 16 Try.underlying45 I0.out.1 I0.out.2.1 I0.out.2.2.1 I0.out.2.2.2 rfl (by omega) (.slice none 0 0) 0 [] rfl (World.ownsRow_nil _ _ _ _) w.heap.size A k _ (flat (L.take k)) rfl (KEEP.out _ _ _ _ HBQ.out R1.out) (flat_one _) (by unfold maxLen; omega) (by omega) ?_; intro A1 cc1 w1 hown1 hgrow1 hat1; simp only [Nat.zero_add, List.nil_append] at hown1 hat1; have HB1q : Hid (But No wq w1) := (But.refl No wq).grown hgrow1 (fun k e => by simp [Value.ownBlock] at e); have HB1 := Lib.hid (HBQ.out.trans HB1q.out); have HY1 := Lib.hid (HYQ.out.but HB1q.out (fun f => f)); have y0 : w1.cell? ⟨w.heap.size, 0, none⟩ = some (.int .i64 ya) := HY1.out.cell (o := 0) rfl; have y1 : w1.cell? ⟨w.heap.size, 1, none⟩ = some (.int .i64 yb) := HY1.out.cell (o := 1) rfl; have O1 := Lib.hid (owns_but (S := No) hown1 ((But.refl No w1).alloc (.cells #[.int .i64 ya, .int .i64 yb] 63)) (fun _ _ f => f)); have AT1 := Lib.hid (own_new own_none hat1 HBQ.out.size); clear hown1 hgrow1 hat1) | (at_builtin; refine wpList_append_own_at _ rfl _ _ 45 rfl 0 63 i0 _ 2 16 Try.underlying45 I0.out.1 I0.out.2.1 I0.out.2.2.1 I0.out.2.2.2 rfl (by omega) (.slice A1 k cc1) k _ rfl O1.out ⟨w1.heap.size, 0, none⟩ 1 1 [.int .i64 ya, .int .i64 yb] rfl rfl (World.news_of_block (cs := #[.int .i64 ya, .int .i64 yb]) (t := 63) (fr := (0, 0)) (Blk.new w1 _ _)) (by simp [Value.oneCell']) (by unfold maxLen; omega) (by omega) (Nat.zero_le _) ?_; intro v2 w2 hown2 hgrow2 hnil2 hat2; have HB2 : Hid (But No w w2) := (HB1.out.alloc _).grown hgrow2 (fun j e => .inr (AT1.out j e)); obtain ⟨hcy, hfy⟩ := CX.out w2 HB2.out; have O2 := Lib.hid hown2; have AT2 := Lib.hid (own_new AT1.out hat2 (by have := HB1.out.size; simp; omega)); clear hown2 hgrow2 hat2 hnil2) | (at_builtin; refine wpList_append_sh _ rfl _ _ 45 rfl 63 i0 _ 2 16 Try.underlying45 I0.out.1 I0.out.2.1 I0.out.2.2.1 I0.out.2.2.2 rfl (by omega) v2 (k + 1) _ rfl O2.out w.heap.size A' (n - k) _ (flat (L.drop k)) rfl (KEEP.out _ _ _ _ HB2.out R2.out) (flat_one _) (by unfold maxLen; omega) (by omega) ?_; intro A3 cc3 w3 hown3 hgrow3 hat3; have HB3 : Hid (But No w w3) := HB2.out.grown hgrow3 (fun j e => .inr (AT2.out j e)); obtain ⟨hcz, hfz⟩ := CX.out w3 HB3.out; have O3 := Lib.hid hown3; have AT3 := Lib.hid (own_new AT2.out hat3 HB2.out.size); clear hown3 hgrow3 hat3))
        go_end0
        refine ⟨rfl, rf_fin H.out HB3.out (v' := .slice A3 (k + 1 + (n - k)) cc3) ?_ AT3.out ?_ rfl⟩
        · have ho := O3.out
          rw [HINS.out]
          have e1 : (flat (L.take k) ++ [Value.int .i64 ya, .int .i64 yb] ++ flat (L.drop k)) = flat (L.take k ++ ⟨ya, yb, yc⟩ :: L.drop k) := by
            rw [flat_app, List.append_assoc]; rfl
          have e2 : k + 1 + (n - k) = (L.take k ++ ⟨ya, yb, yc⟩ :: L.drop k).length := by rw [List.length_append, List.length_cons, List.length_take, List.length_drop, ← HN.out]; omega
          rw [e1, e2] at ho
          rw [e2]
          exact ho
        · rw [length_ins, ← HN.out]; omega
end Go.Proofs.Ytlnoelahlbbgkaa
