/- Lists of tasks that a law makes itself: what they read as; appends onto them, and what the old list reads as behind one. -/
import Derived.Test.YtdhaijmdnknekaaE
import Derived.ArgAppend
namespace Go.Proofs.Ytdhaijmdnknekaa
open Go.ChangeShapes Go.WideShapes Go.ChangeAt Go.RowKit Go.Deep
def tvC (x : Tsk × Value) : List Value := [.int .i64 x.1.p, .int .i64 x.1.d, .int .i64 x.1.w, x.2]
/-- The value of a task's sections reads as its sections. -/
def Tv (w : World) (x : Tsk × Value) : Prop := (∃ A c, x.2 = .slice A x.1.secs.length c ∧ x.1.secs.length ≤ c ∧ RSec w A x.1.secs.length x.1.secs) ∧ inR x.1.p ∧ inR x.1.d ∧ inR x.1.w
theorem Tv.no {w w' : World} {x : Tsk × Value} (h : Tv w x) (hb : But No w w') : Tv w' x := by
  obtain ⟨⟨A, c, h1, h2, h3⟩, h4⟩ := h
  exact ⟨⟨A, c, h1, h2, h3.no hb⟩, h4⟩
theorem flat_at {α : Type} {f : α → List Value} {m : Nat} (hf : ∀ x, (f x).length = m) {L : List α} {k i : Nat} {x : α} (h : L[k]? = some x) (hi : i < m) : (L.flatMap f)[k * m + i]? = (f x)[i]? := by
  induction L generalizing k with
  | nil => simp at h
  | cons y t ih =>
    rw [List.flatMap_cons]
    cases k with
    | zero =>
      have : y = x := by simpa using h
      subst this
      rw [Nat.zero_mul, Nat.zero_add, List.getElem?_append_left (by rw [hf]; exact hi)]
    | succ k =>
      have h' : t[k]? = some x := by simpa using h
      rw [List.getElem?_append_right (by rw [hf, Nat.succ_mul]; omega), hf, show (k + 1) * m + i - m = k * m + i by rw [Nat.succ_mul]; omega]
      exact ih h'
theorem flat_len (L : List (Tsk × Value)) : (L.flatMap tvC).length = L.length * 4 := by
  induction L with
  | nil => rfl
  | cons x t ih => rw [List.flatMap_cons, List.length_append, ih, List.length_cons]; show 4 + _ = _; omega
theorem flat_one (L : List (Tsk × Value)) (h : ∀ x ∈ L, ∃ A n c, x.2 = .slice A n c) : ∀ u ∈ L.flatMap tvC, u.oneCell' = true := by
  intro u hu
  obtain ⟨x, hx, hu⟩ := List.mem_flatMap.1 hu
  obtain ⟨A, n, c, e⟩ := h x hx
  unfold tvC at hu
  rw [e] at hu
  simp only [List.mem_cons, List.not_mem_nil, or_false] at hu
  rcases hu with rfl | rfl | rfl | rfl <;> simp [Value.oneCell']
theorem flat_take (L : List (Tsk × Value)) : ∀ k, (L.flatMap tvC).take (k * 4) = (L.take k).flatMap tvC := by
  induction L with
  | nil => simp
  | cons x t ih =>
    intro k
    cases k with
    | zero => simp
    | succ k =>
      rw [List.flatMap_cons, List.take_succ_cons, List.flatMap_cons, ← ih k, List.take_append, show (tvC x).length = 4 from rfl, show (k + 1) * 4 - 4 = k * 4 by omega, List.take_of_length_le (by show 4 ≤ _; omega)]
theorem flat_drop (L : List (Tsk × Value)) : ∀ k, (L.flatMap tvC).drop (k * 4) = (L.drop k).flatMap tvC := by
  induction L with
  | nil => simp
  | cons x t ih =>
    intro k
    cases k with
    | zero => simp
    | succ k =>
      rw [List.flatMap_cons, List.drop_succ_cons, ← ih k, List.drop_append, show (tvC x).length = 4 from rfl, show (k + 1) * 4 - 4 = k * 4 by omega, List.drop_of_length_le (by show 4 ≤ _; omega), List.nil_append]
/-- The tasks that came in, with the values of their sections. -/
theorem RTsk.vals {w : World} {A : Option Addr} {n : Nat} {ts : List Tsk} (h : RTsk w A n ts) : ∃ L : List (Tsk × Value), L.map (·.1) = ts ∧ L.length = n ∧ (∀ x ∈ L, Tv w x) ∧ Reads w w.heap.size 4 A n (L.flatMap tvC) := by
  by_cases hn : n = 0
  · subst hn
    have : ts = [] := List.eq_nil_of_length_eq_zero h.len
    subst this
    exact ⟨[], rfl, rfl, by simp, Reads.none_⟩
  · obtain ⟨b, off, rfl, hb, hc⟩ := h.at_ (by omega)
    obtain ⟨F, hF⟩ := choose_lt (α := Value) (n := n) (p := fun k v => ∀ t, ts[k]? = some t → w.cell? ⟨b, off + k * 4 + 3, none⟩ = some v ∧ ∃ A' c', v = .slice A' t.secs.length c' ∧ t.secs.length ≤ c' ∧ RSec w A' t.secs.length t.secs) (fun k hk => by
      have hk' : k < ts.length := by rw [h.len]; exact hk
      obtain ⟨_, _, _, A', c', h4, h5, h6⟩ := hc k ts[k] (List.getElem?_eq_getElem hk')
      refine ⟨.slice A' ts[k].secs.length c', fun t ht => ?_⟩
      rw [List.getElem?_eq_getElem hk'] at ht
      cases ht
      exact ⟨h4, A', c', rfl, h5, h6⟩)
    have hL : ∀ k, (ts.mapIdx fun k t => (t, F k))[k]? = (ts[k]?).map fun t => (t, F k) := fun k => by rw [List.getElem?_mapIdx]
    have hat : ∀ k x, (ts.mapIdx fun k t => (t, F k))[k]? = some x → ts[k]? = some x.1 ∧ x.2 = F k := fun k x hx => by
      rw [hL] at hx
      cases ht : ts[k]? with
      | none => rw [ht] at hx; cases hx
      | some t => rw [ht] at hx; cases hx; exact ⟨rfl, rfl⟩
    have hlt : ∀ k t, ts[k]? = some t → k < n := fun k t ht => by have := (List.getElem?_eq_some_iff.1 ht).1; rw [h.len] at this; exact this
    refine ⟨ts.mapIdx fun k t => (t, F k), ?_, by rw [List.length_mapIdx, h.len], fun x hx => ?_, by rw [flat_len, List.length_mapIdx, h.len], fun _ => ⟨⟨b, off, none⟩, rfl, hb, fun j u hu => ?_⟩⟩
    · apply List.ext_getElem?
      intro k
      rw [List.getElem?_map, hL]
      cases ts[k]? <;> rfl
    · obtain ⟨k, hk, hx⟩ := List.getElem_of_mem hx
      obtain ⟨h1, h2⟩ := hat k x (by rw [List.getElem?_eq_getElem hk, hx])
      obtain ⟨_, A', c', e, h5, h6⟩ := hF k (hlt k _ h1) x.1 h1
      exact ⟨⟨A', c', by rw [h2, e], h5, h6⟩, h.fit _ (List.mem_of_getElem? h1)⟩
    · have hjl : j < (ts.mapIdx fun k t => (t, F k)).length * 4 := by rw [← flat_len]; exact (List.getElem?_eq_some_iff.1 hu).1
      have hk : j / 4 < (ts.mapIdx fun k t => (t, F k)).length := by omega
      have hx := List.getElem?_eq_getElem hk
      generalize (ts.mapIdx fun k t => (t, F k))[j / 4] = x at hx
      obtain ⟨h1, h2⟩ := hat _ x hx
      obtain ⟨q0, q1, q2, _⟩ := hc _ _ h1
      have q3 := (hF _ (hlt _ _ h1) _ h1).1
      have hu2 := hu
      rw [show j = j / 4 * 4 + j % 4 by omega, flat_at (f := tvC) (m := 4) (fun _ => rfl) hx (by omega)] at hu2
      rw [add_plain, show off + j = off + j / 4 * 4 + j % 4 by omega]
      have hr : j % 4 = 0 ∨ j % 4 = 1 ∨ j % 4 = 2 ∨ j % 4 = 3 := by omega
      rcases hr with e | e | e | e
      · rw [e] at hu2 ⊢; cases hu2; exact q0
      · rw [e] at hu2 ⊢; cases hu2; exact q1
      · rw [e] at hu2 ⊢; cases hu2; exact q2
      · rw [e] at hu2 ⊢; cases hu2; rw [h2]; exact q3
/-- And back: what reads as tasks with their sections. -/
theorem reads_rtsk {w : World} {B n : Nat} {A : Option Addr} {L : List (Tsk × Value)} (h : Reads w B 4 A n (L.flatMap tvC)) (hn : L.length = n) (hm : n ≤ 9223372036854775807) (hL : ∀ x ∈ L, Tv w x) : RTsk w A n (L.map (·.1)) := by
  refine ⟨by rw [List.length_map]; exact hn, hm, fun h0 => ?_, fun t ht => ?_⟩
  · obtain ⟨ad, rfl, _, hc⟩ := h.2 h0
    have hx0 := List.getElem?_eq_getElem (l := L) (i := 0) (by omega)
    have c0 := hc _ _ (flat_at (f := tvC) (m := 4) (fun _ => rfl) hx0 (i := 0) (by omega))
    obtain ⟨b, off, spot⟩ := ad
    have hspot : spot = none := by simpa [Addr.add] using World.cell?_spot c0
    subst hspot
    refine ⟨b, off, rfl, World.block_lt_of_cell? w _ c0, fun k t ht => ?_⟩
    rw [List.getElem?_map] at ht
    cases hx : L[k]? with
    | none => rw [hx] at ht; cases ht
    | some x =>
      rw [hx] at ht
      cases ht
      have e0 := hc _ _ (flat_at (f := tvC) (m := 4) (fun _ => rfl) hx (i := 0) (by omega))
      have e1 := hc _ _ (flat_at (f := tvC) (m := 4) (fun _ => rfl) hx (i := 1) (by omega))
      have e2 := hc _ _ (flat_at (f := tvC) (m := 4) (fun _ => rfl) hx (i := 2) (by omega))
      have e3 := hc _ _ (flat_at (f := tvC) (m := 4) (fun _ => rfl) hx (i := 3) (by omega))
      rw [add_plain] at e0 e1 e2 e3
      obtain ⟨⟨A', c', q1, q2, q3⟩, _⟩ := hL x (List.mem_of_getElem? hx)
      exact ⟨e0, e1, e2, A', c', by rw [← q1]; exact e3, q2, q3⟩
  · obtain ⟨x, hx, rfl⟩ := List.mem_map.1 ht
    exact (hL x hx).2
theorem Reads.front {w : World} {B n k : Nat} {A : Option Addr} {L : List (Tsk × Value)} (h : Reads w B 4 A n (L.flatMap tvC)) (hn : L.length = n) (hk : k ≤ n) : Reads w B 4 A k ((L.take k).flatMap tvC) := by
  refine ⟨by rw [flat_len, List.length_take]; omega, fun h0 => ?_⟩
  obtain ⟨ad, e, hb, hc⟩ := h.2 (by omega)
  refine ⟨ad, e, hb, fun j u hu => hc j u ?_⟩
  rw [← flat_take, List.getElem?_take] at hu
  split at hu
  · exact hu
  · cases hu
theorem Reads.back {w : World} {B n k cap : Nat} {A : Option Addr} {L : List (Tsk × Value)} (h : Reads w B 4 A n (L.flatMap tvC)) (hk : k ≤ n) (hc : n ≤ cap) : Reads w B 4 (if cap = k then A else A.map (·.add (k * 4))) (n - k) ((L.drop k).flatMap tvC) := by
  rw [← flat_drop]
  exact h.cut hk hc
theorem Reads.no {w w' : World} {B n size : Nat} {A : Option Addr} {xs : List Value} (h : Reads w B size A n xs) (hb : But No w w') (hB : B ≤ w.heap.size) : Reads w' B size A n xs := by
  refine ⟨h.1, fun hn => ?_⟩
  obtain ⟨ad, e, hl, hc⟩ := h.2 hn
  refine ⟨ad, e, hl, fun j u hu => ?_⟩
  have := hc j u hu
  rw [← this]
  exact World.cell?_of_block (hb.block _ (by rw [block_of_add]; omega) (fun f => f))
/-- What the old list reads as behind an append. -/
theorem run_append_keeps {P : Program} (w : World) (t ty e : TypeId) (i : TypeInfo) (z : Value) (size bytes : Nat) (ht : P.underlying t = some (.slice e)) (hi : P.info? e = some i) (hz : i.zero = some z)
    (hsize : i.size = size) (hby : i.bytes = bytes) (hzs : z.cells.size = size) (hsz : 0 < size)
    (A0 : Option Addr) (n c0 : Nat) (xs : List Value) (hown : w.ownsRow 0 e size (.slice A0 n c0) n xs)
    (B : Nat) (A : Option Addr) (m c : Nat) (news : List Value) (hr : Reads w B size A m news) (h1 : ∀ u ∈ news, u.oneCell' = true)
    (h63 : n + m ≤ maxLen) (hbytes : (n + m) * bytes ≤ 140737488355328) :
    ∃ A' c' w', (Builtin.append_ #[t, t] ty #[.slice A0 n c0, .slice A m c]).run P w = .ok (.slice A' (n + m) c') w' ∧ w'.ownsRow 0 e size (.slice A' (n + m) c') (n + m) (xs ++ news) ∧ w.grownBy w' (Value.slice A0 n c0).ownBlock ∧
      ((Value.slice A' (n + m) c').ownBlock = (Value.slice A0 n c0).ownBlock ∨ (Value.slice A' (n + m) c').ownBlock = some w.heap.size) ∧ Reads w' w'.heap.size size A0 n xs := by
  obtain ⟨v', w', hrun, h2, h3, h4⟩ := run_append_any (P := P) w 0 t ty e i z size bytes ht hi hz hsize hby hzs hsz (.slice A0 n c0) n xs hown B A m c news hr h1 h63 hbytes (Nat.zero_le _)
  obtain ⟨A', c', rfl⟩ := owns_slice h2
  refine ⟨A', c', w', hrun, h2, h3, h4, ?_⟩
  rcases Nat.eq_zero_or_pos n with h0 | h0
  · subst h0
    have : xs = [] := List.eq_nil_of_length_eq_zero (by simpa using hown.1)
    subst this
    exact Reads.none_
  · have hpre : A' = A0 → Reads w' w'.heap.size size A0 n xs := fun e0 => by
      subst e0
      have hw := Reads.of_own h2
      refine ⟨hown.1, fun _ => ?_⟩
      obtain ⟨ad, ea, hb, hc⟩ := hw.2 (by omega)
      exact ⟨ad, ea, hb, fun j u hu => hc j u (by rw [List.getElem?_append_left (List.getElem?_eq_some_iff.1 hu).1]; exact hu)⟩
    rcases A with _ | ad
    · have hm : m = 0 := by
        rcases Nat.eq_zero_or_pos m with h0 | h0
        · exact h0
        · obtain ⟨ad, h, _⟩ := hr.2 h0
          cases h
      subst hm
      rw [run_append_of_nil w 0 t ty e i size ht hi (.slice A0 n c0) n xs hown c] at hrun
      injection hrun with e1 e2
      exact hpre (by injection e1 with e1; exact e1.symm)
    · have hnews : ∀ j u, news[j]? = some u → w.cell? (ad.add j) = some u := by
        intro j u hu
        rcases Nat.eq_zero_or_pos m with h0 | h0
        · subst h0
          have hn : news = [] := List.eq_nil_of_length_eq_zero (by simpa using hr.1)
          subst hn
          simp at hu
        · obtain ⟨ad', h, _, hc⟩ := hr.2 h0
          injection h with h
          subst h
          exact hc j u hu
      rcases hown.2 with ⟨hz0, e0⟩ | ⟨g, cap, cur, hv, _, hh, hnc, _, hcs, _⟩
      · omega
      · injection hv with ev1 ev2 ev3
        subst ev1 ev3
        by_cases hroom : n + m ≤ c0
        · have hfit : n * i.size + news.length ≤ cur.size := by rw [hr.1, hcs, hsize, ← Nat.add_mul]; exact Nat.mul_le_mul_right _ hroom
          have hl : news.length = m * i.size := by rw [hsize]; exact hr.1
          rw [run_append_room (P := P) w t ty e i ht hi g n c0 cur hh ad m c news hl hnews h1 hroom hfit] at hrun
          injection hrun with e1 e2
          exact hpre (by injection e1 with e1; exact e1.symm)
        · obtain ⟨v2, w2, hrun2, _, hg2⟩ := run_append_arg_grows (P := P) w t ty e i z size bytes ht hi hz hsize hby hzs hsz ⟨g, 0, none⟩ n c0 xs hown.1 (hown.cells (g := g) rfl) ad m c news hr.1 hnews (by omega) h63 hbytes
          rw [hrun2] at hrun
          injection hrun with e1 e2
          subst e2
          exact ((Reads.of_own hown).grown hg2 (Nat.le_refl _) (fun _ f => by cases f)).more hg2.size
theorem wpList_append_keeps {P : Program} (w : World) {ops : Array Oper} {rest : List Oper} {o : Oper} {a : Act} {Q : Exit → Act → World → Prop} (hgd : o.guard = none) (s x : Operand) (t : TypeId)
    (ho : o.op = .call { callee := .builtin .append, args := #[s, x], argTypes := #[t, t] })
    (e : TypeId) (i : TypeInfo) (z : Value) (size bytes : Nat) (ht : P.underlying t = some (.slice e)) (hi : P.info? e = some i) (hz : i.zero = some z)
    (hsize : i.size = size) (hby : i.bytes = bytes) (hzs : z.cells.size = size) (hsz : 0 < size)
    (A0 : Option Addr) (n c0 : Nat) (xs : List Value) (hs : a.eval s = .slice A0 n c0) (hown : w.ownsRow 0 e size (.slice A0 n c0) n xs)
    (B : Nat) (A : Option Addr) (m c : Nat) (news : List Value) (hx : a.eval x = .slice A m c) (hr : Reads w B size A m news) (h1 : ∀ u ∈ news, u.oneCell' = true)
    (h63 : n + m ≤ maxLen) (hbytes : (n + m) * bytes ≤ 140737488355328)
    (h : ∀ A' c' w', w'.ownsRow 0 e size (.slice A' (n + m) c') (n + m) (xs ++ news) → w.grownBy w' (Value.slice A0 n c0).ownBlock → ((Value.slice A' (n + m) c').ownBlock = (Value.slice A0 n c0).ownBlock ∨ (Value.slice A' (n + m) c').ownBlock = some w.heap.size) → Reads w' w'.heap.size size A0 n xs → wpList P ops Q rest (a.put o.dst (.slice A' (n + m) c')) w') : wpList P ops Q (o :: rest) a w := by
  refine wpList_plain hgd fun K hK => ?_
  obtain ⟨A', c', w', hr', h2, h3, h4, h5⟩ := run_append_keeps (P := P) w t o.type e i z size bytes ht hi hz hsize hby hzs hsz A0 n c0 xs hown B A m c news hr h1 h63 hbytes
  unfold Oper.wp execOp
  simp only [ho, resolve, invoke, builtin, Sem.run_bind, Sem.run_pure, Result.andThen_ok, List.map_toArray, List.map_cons, List.map_nil, hs, hx, hr']
  exact hK _ _ (h A' c' w' h2 h3 h4 h5)
theorem info35 : (Try.prog.info? 35).map (fun i => (i.zero, i.size, i.bytes)) = some (some (.agg #[.int .i64 0, .int .i64 0, .int .i64 0, .slice none 0 0]), 4, 48) := by kernel_rfl
theorem reads_tsk (w : World) (a b c : Int) (v : Value) : Reads (w.alloc (.cells #[.int .i64 a, .int .i64 b, .int .i64 c, v] 35)) (w.heap.size + 1) 4 (some ⟨w.heap.size, 0, none⟩) 1 [.int .i64 a, .int .i64 b, .int .i64 c, v] :=
  ⟨rfl, fun _ => ⟨_, rfl, by show w.heap.size < w.heap.size + 1; omega, World.news_of_block (cs := #[.int .i64 a, .int .i64 b, .int .i64 c, v]) (t := 35) (fr := (0, 0)) (Blk.new w _ _)⟩⟩
theorem cells_tsk (a b c : Int) (A : Option Addr) (n m : Nat) : ∀ u ∈ [Value.int .i64 a, Value.int .i64 b, Value.int .i64 c, Value.slice A n m], u.oneCell' = true := by simp [Value.oneCell']
end Go.Proofs.Ytdhaijmdnknekaa
