/- Two rows that grow side by side: the works and the periods that Load is asked about; what Load answers. -/
import Derived.Test.YtfpcnilcbaiojaaDeR3
import Derived.Test.YtfpcnilcbaiojaaQaL3
namespace Go.Proofs.Ytfpcnilcbaiojaa.dem
open Go.ChangeShapes Go.WideShapes Go.ChangeAt Go.RowKit Go.Deep
/-- The works with the releases, the periods twice. -/
def wz (rl : Int) (l : List Wk) : List Int := l.flatMap fun x => [x.w, rl]
def pz (l : List Wk) : List Int := l.flatMap fun x => [x.p, x.p]
theorem wz_len (rl : Int) (l : List Wk) : (wz rl l).length = 2 * l.length := by
  induction l with
  | nil => rfl
  | cons x l ih => unfold wz at ih ⊢; rw [List.flatMap_cons, List.length_append, ih, List.length_cons]; simp; omega
theorem pz_len (l : List Wk) : (pz l).length = 2 * l.length := by
  induction l with
  | nil => rfl
  | cons x l ih => unfold pz at ih ⊢; rw [List.flatMap_cons, List.length_append, ih, List.length_cons]; simp; omega
theorem wz_snoc {rl : Int} {l : List Wk} {i : Nat} {x : Wk} (h : l[i]? = some x) : wz rl (l.take (i + 1)) = wz rl (l.take i) ++ [x.w, rl] := by
  unfold wz; rw [List.take_add_one, h, List.flatMap_append]; simp
theorem pz_snoc {l : List Wk} {i : Nat} {x : Wk} (h : l[i]? = some x) : pz (l.take (i + 1)) = pz (l.take i) ++ [x.p, x.p] := by
  unfold pz; rw [List.take_add_one, h, List.flatMap_append]; simp
def sumT : List (Int × Int) → Int
  | [] => 0
  | x :: r => qar.tm x.1 x.2 + sumT r
theorem ldGo_sum : ∀ (ps : List (Int × Int)) (s : Int), 0 ≤ s → s ≤ 9223372036854775807 → (∀ p ∈ ps, 0 ≤ qar.tm p.1 p.2) → 0 ≤ sumT ps ∧ qar.ldGo s ps = if s + sumT ps ≤ 9223372036854775807 then (s + sumT ps, 0) else (0, 2)
  | [], s, h0, h1, _ => ⟨Int.le_refl 0, by rw [qar.ldGo, sumT, if_pos (by omega)]; simp⟩
  | x :: r, s, h0, h1, hp => by
    have hx := hp x (by simp)
    rw [qar.ldGo, sumT]
    by_cases h2 : s + qar.tm x.1 x.2 ≤ 9223372036854775807
    · obtain ⟨i1, i2⟩ := ldGo_sum r (s + qar.tm x.1 x.2) (by omega) h2 (fun p q => hp p (by simp [q]))
      refine ⟨by omega, ?_⟩
      rw [if_pos (show inR (qar.tm x.1 x.2) by unfold inR; omega), if_pos (show inR (s + qar.tm x.1 x.2) by unfold inR; omega), i2]
      rw [show s + qar.tm x.1 x.2 + sumT r = s + (qar.tm x.1 x.2 + sumT r) by omega]
    · obtain ⟨i1, _⟩ := ldGo_sum r 0 (Int.le_refl 0) (by omega) (fun p q => hp p (by simp [q]))
      refine ⟨by omega, ?_⟩
      rw [if_neg (show ¬ s + (qar.tm x.1 x.2 + sumT r) ≤ 9223372036854775807 by omega)]
      by_cases h3 : inR (qar.tm x.1 x.2)
      · rw [if_pos h3, if_neg (show ¬ inR (s + qar.tm x.1 x.2) by unfold inR; omega)]
      · rw [if_neg h3]
theorem zip_wz (rl : Int) (l : List Wk) : (wz rl l).zip (pz l) = l.flatMap fun x => [(x.w, x.p), (rl, x.p)] := by
  induction l with
  | nil => rfl
  | cons x l ih =>
    unfold wz pz at ih ⊢
    simp only [List.flatMap_cons, List.cons_append, List.nil_append, List.zip_cons_cons, ih]
theorem sumT_wz (rl : Int) (l : List Wk) : sumT ((wz rl l).zip (pz l)) = sL (fun x => qar.tm x.w x.p + qar.tm rl x.p) l := by
  rw [zip_wz]
  induction l with
  | nil => rfl
  | cons x l ih =>
    rw [List.flatMap_cons, sL]
    show qar.tm x.w x.p + (qar.tm rl x.p + sumT (l.flatMap fun x => [(x.w, x.p), (rl, x.p)])) = _
    rw [ih]; omega
theorem wz_at {rl : Int} {l : List Wk} {k : Nat} (h : k < 2 * l.length) : ∃ x ∈ l, ((wz rl l).getD k 0 = x.w ∨ (wz rl l).getD k 0 = rl) ∧ (pz l).getD k 0 = x.p := by
  induction l generalizing k with
  | nil => simp at h
  | cons x l ih =>
    match k with
    | 0 => exact ⟨x, by simp, .inl rfl, rfl⟩
    | 1 => exact ⟨x, by simp, .inr rfl, rfl⟩
    | k + 2 =>
      obtain ⟨y, hy, h1, h2⟩ := ih (k := k) (by rw [List.length_cons] at h; omega)
      exact ⟨y, by simp [hy], h1, h2⟩
theorem okL_wz {l : List Wk} {bl rl : Int} (h : right l bl rl = true) : qar.okL (wz rl l) (pz l) = true := by
  refine qar.okL_true (by rw [wz_len, pz_len]) (fun k hk => ?_)
  rw [wz_len] at hk
  obtain ⟨x, hx, h1, h2⟩ := wz_at (rl := rl) hk
  obtain ⟨_, _, ⟨r0, _⟩, ha⟩ := right_iff.1 h
  obtain ⟨⟨w0, _⟩, ⟨p0, _⟩, _⟩ := okW_iff.1 (ha x hx)
  rcases h1 with h1 | h1 <;> rw [h1, h2] <;> omega
/-- What Load answers about them. -/
theorem ld_is {l : List Wk} {bl rl : Int} (h : right l bl rl = true) : (qar.ldE (wz rl l) (pz l) = 0 ∧ qar.ldV (wz rl l) (pz l) = ldS rl l ∧ 0 ≤ ldS rl l ∧ ldS rl l ≤ 9223372036854775807) ∨ (qar.ldE (wz rl l) (pz l) = 2 ∧ qar.ldV (wz rl l) (pz l) = 0 ∧ 4294967296 < ldS rl l) := by
  obtain ⟨e1, e2⟩ := qar.ld_good (okL_wz h)
  have hp : ∀ p ∈ (wz rl l).zip (pz l), 0 ≤ qar.tm p.1 p.2 := fun p hp => by
    rw [zip_wz] at hp
    obtain ⟨x, hx, hm⟩ := List.mem_flatMap.1 hp
    obtain ⟨_, _, ⟨r0, _⟩, ha⟩ := right_iff.1 h
    obtain ⟨⟨w0, _⟩, ⟨p0, _⟩, _⟩ := okW_iff.1 (ha x hx)
    simp only [List.mem_cons, List.not_mem_nil, or_false] at hm
    rcases hm with rfl | rfl
    · exact qar.tm_nonneg w0 (by dsimp only; omega)
    · exact qar.tm_nonneg r0 (by dsimp only; omega)
  obtain ⟨s0, hs⟩ := ldGo_sum _ 0 (Int.le_refl 0) (by omega) hp
  rw [sumT_wz, ← ldS_L] at hs s0
  rw [e1, e2, hs]
  by_cases hh : 0 + ldS rl l ≤ 9223372036854775807
  · rw [if_pos hh]; exact .inl ⟨rfl, by dsimp only; omega, s0, by omega⟩
  · rw [if_neg hh]; exact .inr ⟨rfl, rfl, by omega⟩
theorem two_reads (w : World) (a b : Int) : Reads (w.alloc (.cells #[.int .i64 a, .int .i64 b] 3)) (w.heap.size + 1) 1 (some ⟨w.heap.size, 0, none⟩) 2 [.int .i64 a, .int .i64 b] :=
  ⟨rfl, fun _ => ⟨⟨w.heap.size, 0, none⟩, rfl, by simp, World.news_of_block (cs := #[.int .i64 a, .int .i64 b]) (t := 3) (fr := (0, 0)) (Blk.new w _ _)⟩⟩
theorem two_cell (a b : Int) : ∀ u ∈ [Value.int .i64 a, Value.int .i64 b], u.oneCell' = true := by simp [Value.oneCell']
/-- Two rows of one's own, side by side. -/
structure Two (w wr : World) (v u : Value) (zs ts : List Int) : Prop where
  but : But No w wr
  o1 : Ov wr v zs
  o2 : Ov wr u ts
  n1 : ∀ k, v.ownBlock = some k → w.heap.size ≤ k
  n2 : ∀ k, u.ownBlock = some k → w.heap.size ≤ k
  ap : ∀ k, v.ownBlock = some k → u.ownBlock ≠ some k
theorem Two.start (w : World) : Two w w (.slice none 0 0) (.slice none 0 0) [] [] := ⟨But.refl No w, Ov.nil w, Ov.nil w, own_none, own_none, fun k e => by simp [Value.ownBlock] at e⟩
theorem own_lt {w : World} {v : Value} {zs : List Int} {k : Nat} (h : Ov w v zs) (e : v.ownBlock = some k) : k < w.heap.size := by
  obtain ⟨_, h2⟩ := h
  rcases h2 with ⟨rfl, _⟩ | ⟨g, cap, cur, rfl, _, hh, _⟩
  · simp [Value.ownBlock] at e
  · have : g = k := by simpa [Value.ownBlock] using e
    subst this
    exact Blk.lt hh
theorem Two.no {w wr w2 : World} {v u : Value} {zs ts : List Int} (h : Two w wr v u zs ts) (hb : But No wr w2) : Two w w2 v u zs ts :=
  ⟨h.but.trans hb, h.o1.but hb (fun _ _ f => f), h.o2.but hb (fun _ _ f => f), h.n1, h.n2, h.ap⟩
theorem Two.swap {w wr : World} {v u : Value} {zs ts : List Int} (h : Two w wr v u zs ts) : Two w wr u v ts zs := ⟨h.but, h.o2, h.o1, h.n2, h.n1, fun k e f => h.ap k f e⟩
/-- The first one grows. -/
theorem Two.app {w wr w2 : World} {v u : Value} {zs ts ns : List Int} {A : Option Addr} {c n : Nat} (h : Two w wr v u zs ts) (hn : n = zs.length + ns.length) (ho : w2.ownsRow 0 3 1 (.slice A n c) n (zs.map (Value.int .i64) ++ ns.map (Value.int .i64))) (hg : wr.grownBy w2 v.ownBlock)
    (hat : (Value.slice A n c).ownBlock = v.ownBlock ∨ (Value.slice A n c).ownBlock = some wr.heap.size) : Two w w2 (.slice A n c) u (zs ++ ns) ts := by
  refine ⟨h.but.grown hg (fun k e => .inr (h.n1 k e)), ?_, ?_, own_new h.n1 hat h.but.size, h.n2, fun k e f => ?_⟩
  · unfold Ov; rw [List.length_append, List.map_append, ← hn]; exact ho
  · have hb : But (fun k => v.ownBlock = some k) wr w2 := (But.refl _ wr).grown hg (fun k e => .inl e)
    exact h.o2.but hb (fun k e f => h.ap k f e)
  · rcases hat with e1 | e1
    · rw [e1] at e; exact h.ap k e f
    · rw [e1] at e
      have hk : wr.heap.size = k := by simpa using e
      have := own_lt h.o2 f
      omega
end Go.Proofs.Ytfpcnilcbaiojaa.dem
