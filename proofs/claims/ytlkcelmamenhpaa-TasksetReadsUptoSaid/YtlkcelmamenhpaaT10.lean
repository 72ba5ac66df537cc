/- A system of a call's own reads as one; its numbers are in range. -/
import Derived.Test.YtlkcelmamenhpaaT9
namespace Go.Proofs.Ytlkcelmamenhpaa
open Go.ChangeShapes Go.WideShapes Go.ChangeAt Go.RowKit Go.Deep
theorem flat_at {α : Type} {f : α → List Value} {m : Nat} (hf : ∀ x, (f x).length = m) {L : List α} {k i : Nat} {x : α} (h : L[k]? = some x) (hi : i < m) : (L.flatMap f)[k * m + i]? = (f x)[i]? := by
  induction L generalizing k with
  | nil => simp at h
  | cons y t ih =>
    rw [List.flatMap_cons]
    cases k with
    | zero =>
      have : y = x := by simpa using h
      subst this
      rw [Nat.zero_mul, Nat.zero_add, List.getElem?_append_left (by rw [hf]; exact hi)]
    | succ k =>
      have h' : t[k]? = some x := by simpa using h
      rw [List.getElem?_append_right (by rw [hf, Nat.succ_mul]; omega), hf, show (k + 1) * m + i - m = k * m + i by rw [Nat.succ_mul]; omega]
      exact ih h'
theorem own_cells {w : World} {e : TypeId} {size n c : Nat} {A : Option Addr} {xs : List Value} (h : w.ownsRow 0 e size (.slice A n c) n xs) (hn : 0 < n) : ∃ g, A = some ⟨g, 0, none⟩ ∧ g < w.heap.size ∧ (Value.slice A n c).ownBlock = some g ∧ ∀ j u, xs[j]? = some u → w.cell? ⟨g, j, none⟩ = some u := by
  obtain ⟨g, cap, hv, _, hlt⟩ := h.form hn
  have hA : A = some ⟨g, 0, none⟩ := by injection hv
  subst hA
  refine ⟨g, rfl, hlt, rfl, fun j u hu => ?_⟩
  have := h.cells (g := g) rfl j u hu
  rw [add_plain, Nat.zero_add] at this
  exact this
theorem owns_cap {w : World} {e : TypeId} {sz n c m : Nat} {A : Option Addr} {xs : List Value} (h : w.ownsRow 0 e sz (.slice A n c) m xs) : n ≤ c := by
  rcases h.2 with ⟨e, h0⟩ | ⟨g, cap, cur, hv, _, hh, hc, _⟩
  · cases e; omega
  · cases hv; omega
theorem Os.rsec {w0 w : World} {A : Option Addr} {n c : Nat} {l : List (Int × Int × Int)} (h : Os w0 w (.slice A n c) l) (hn : l.length = n) (hm : n ≤ 1000) (hf : ∀ x ∈ l, inR x.1 ∧ inR x.2.1 ∧ inR x.2.2) : RSec w A n l := by
  subst hn
  refine ⟨rfl, by omega, fun h0 => ?_, hf⟩
  obtain ⟨g, rfl, hl, _, hc⟩ := own_cells h.own h0
  refine ⟨g, 0, rfl, hl, fun k x hx => ?_⟩
  have e0 := flat_at (f := secC) (m := 3) (fun _ => rfl) hx (i := 0) (by omega)
  have e1 := flat_at (f := secC) (m := 3) (fun _ => rfl) hx (i := 1) (by omega)
  have e2 := flat_at (f := secC) (m := 3) (fun _ => rfl) hx (i := 2) (by omega)
  rw [Nat.zero_add]
  exact ⟨hc _ _ e0, hc _ _ e1, hc _ _ e2⟩
theorem Os.slice {w0 w : World} {v : Value} {l : List (Int × Int × Int)} (h : Os w0 w v l) : ∃ A c, v = .slice A l.length c := owns_slice h.own
/-- All numbers of a system are in range. -/
def InS (s : Sys) : Prop := ∀ z ∈ nums s, inR z
theorem InS.head {s : Sys} (h : InS s) : inR s.co ∧ inR s.po ∧ inR s.pr ∧ inR s.re ∧ inR s.sw ∧ inR s.fi ∧ inR s.la ∧ inR s.rs := by
  refine ⟨h _ ?_, h _ ?_, h _ ?_, h _ ?_, h _ ?_, h _ ?_, h _ ?_, h _ ?_⟩ <;> simp [nums]
theorem InS.tsk {s : Sys} (h : InS s) {t : Tsk} (ht : t ∈ s.ts) : ∀ z ∈ tskN t, inR z := fun z hz => h z (by
  rw [nums_head]
  exact List.mem_append_right _ (List.mem_flatMap.2 ⟨t, ht, hz⟩))
theorem OSy.rsys {w0 w : World} {A : Option Addr} {n c : Nat} {s : Sys} (h : OSy w0 w A n c s) (hs : InS s) (h24 : s.ts.length ≤ 24) (h4 : ∀ t ∈ s.ts, t.secs.length ≤ 4) : RSys w A n c s := by
  obtain ⟨L, h1, h2, h3⟩ := h
  have hl : s.ts.length = n := by rw [h1, List.length_map, h2]
  have hr := h3.row h2
  refine ⟨owns_cap hr, ⟨hl, by omega, fun h0 => ?_, fun t ht => ?_⟩, hs.head⟩
  · obtain ⟨g, rfl, hlt, _, hc⟩ := own_cells hr h0
    refine ⟨g, 0, rfl, hlt, fun k t ht => ?_⟩
    rw [h1, List.getElem?_map] at ht
    cases hx : L[k]? with
    | none => rw [hx] at ht; cases ht
    | some x =>
      rw [hx] at ht
      have hxt : x.1 = t := by simpa using ht
      subst hxt
      have hm : x ∈ L := List.mem_of_getElem? hx
      have hmt : x.1 ∈ s.ts := by rw [h1]; exact List.mem_map.2 ⟨x, hm, rfl⟩
      have e0 := flat_at (f := tvC) (m := 4) (fun _ => rfl) hx (i := 0) (by omega)
      have e1 := flat_at (f := tvC) (m := 4) (fun _ => rfl) hx (i := 1) (by omega)
      have e2 := flat_at (f := tvC) (m := 4) (fun _ => rfl) hx (i := 2) (by omega)
      have e3 := flat_at (f := tvC) (m := 4) (fun _ => rfl) hx (i := 3) (by omega)
      obtain ⟨q1, q2⟩ := h3.secs x hm
      obtain ⟨A', c', hv⟩ := q1.slice
      rw [Nat.zero_add]
      refine ⟨hc _ _ e0, hc _ _ e1, hc _ _ e2, A', c', ?_, ?_, ?_⟩
      · rw [hc _ _ e3]; show some x.2 = _; rw [hv]
      · rw [hv] at q1; exact owns_cap q1.own
      · rw [hv] at q1
        refine q1.rsec rfl (by have := h4 _ hmt; omega) (fun y hy => ?_)
        have hin : ∀ z ∈ secN y, inR z := fun z hz => hs.tsk hmt z (by rw [tskN_head]; exact List.mem_append_right _ (List.mem_flatMap.2 ⟨y, hy, hz⟩))
        exact ⟨hin _ (by simp [secN]), hin _ (by simp [secN]), hin _ (by simp [secN])⟩
  · have := hs.tsk ht
    exact ⟨this _ (by simp [tskN]), this _ (by simp [tskN]), this _ (by simp [tskN])⟩
theorem parse_zero {l : List Nat} (h : (parse l).1 ≠ 0) : (parse l).2 = sys0 := by
  unfold parse at h ⊢
  by_cases h1 : l.length < 10 ∨ l.getD 0 0 ≠ 1
  · rw [if_pos h1]
  · rw [if_neg h1] at h ⊢
    by_cases h2 : 24 < l.getD 9 0
    · rw [if_pos h2]
    · rw [if_neg h2] at h ⊢
      by_cases h3 : (pTasks (l.getD 9 0) (l.drop 10)).1 ≠ 0
      · rw [if_pos h3]
      · rw [if_neg h3] at h ⊢
        by_cases h4 : 0 < (pTasks (l.getD 9 0) (l.drop 10)).2.2.length
        · rw [if_pos h4]
        · rw [if_neg h4] at h; exact absurd rfl h
/-- What bytes are read as: an error and no system, or one whose bytes they are. -/
theorem decP_says (b : ByteArray) : ((decP (nl b)).1 ≠ 0 ∧ (decP (nl b)).2 = sys0) ∨ ((decP (nl b)).1 = 0 ∧ ∃ ns, oErr (nl b) = 0 ∧ rAll (oAns (nl b)) = (ns, 0) ∧ parse ns = (0, (decP (nl b)).2)) := by
  unfold decP
  by_cases h1 : oErr (nl b) ≠ 0
  · rw [if_pos h1]; exact .inl ⟨h1, rfl⟩
  · rw [if_neg h1]
    by_cases h2 : (rAll (oAns (nl b))).2 ≠ 0
    · rw [if_pos h2]; exact .inl ⟨h2, rfl⟩
    · rw [if_neg h2]
      have h2' := Decidable.not_not.1 h2
      by_cases h3 : (parse (rAll (oAns (nl b))).1).1 = 0
      · exact .inr ⟨h3, _, Decidable.not_not.1 h1, Prod.ext rfl h2', Prod.ext h3 rfl⟩
      · exact .inl ⟨h3, parse_zero h3⟩
theorem oAns_str (b : ByteArray) : ∃ t, nl t = oAns (nl b) ∧ t.size ≤ b.size := by
  have hl : ∀ x ∈ oAns (nl b), x < 256 := fun x hx => by
    unfold oAns at hx
    by_cases q : oErr (nl b) = 0
    · rw [if_pos q] at hx; exact nl_lt b x (List.mem_of_mem_take hx)
    · rw [if_neg q] at hx; simp at hx
  refine ⟨bl (oAns (nl b)), nl_bl hl, ?_⟩
  rw [← nl_len, nl_bl hl]
  unfold oAns
  by_cases q : oErr (nl b) = 0
  · rw [if_pos q, List.length_take, nl_len]; omega
  · rw [if_neg q]; simp
theorem sys0_in : InS sys0 := by
  intro z hz
  have : z = 1 ∨ z = 0 := by simpa [nums, sys0] using hz
  unfold inR
  rcases this with rfl | rfl <;> decide
theorem decP_in (b : ByteArray) : InS (decP (nl b)).2 ∧ (decP (nl b)).2.ts.length ≤ 24 ∧ ∀ t ∈ (decP (nl b)).2.ts, t.secs.length ≤ 4 := by
  rcases decP_says b with ⟨_, h⟩ | ⟨_, ns, _, h2, h3⟩
  · rw [h]
    exact ⟨sys0_in, by simp [sys0], by simp [sys0]⟩
  · obtain ⟨t, ht, _⟩ := oAns_str b
    obtain ⟨b1, b2, b3⟩ := parse_back h3
    refine ⟨fun z hz => ?_, b2, b3⟩
    rw [b1] at hz
    obtain ⟨x, hx, rfl⟩ := List.mem_map.1 hz
    have := (rAll_fit ht h2).2 x hx
    unfold inR; omega
/-- Decode, as a system that can be read. -/
def RetDec (w : World) (p : Nat × Sys) (r : Ending) (w' : World) : Prop :=
  ∃ A n c, r = .returned (.tuple #[sysV p.2 A n c, .int .i64 (p.1 : Int)]) ∧ But No w w' ∧ OSy w w' A n c p.2 ∧ RSys w' A n c p.2
theorem decode_to (b : ByteArray) (w : World) (hs : b.size ≤ 9223372036854775807) : Calls Try.prog 12 #[.string b] w (RetDec w (decP (nl b))) :=
  (decode_any7 b w hs).mono fun _ _ ⟨A, n, c, hr, hb, ho⟩ => ⟨A, n, c, hr, hb, ho, ho.rsys (decP_in b).1 (decP_in b).2.1 (decP_in b).2.2⟩
end Go.Proofs.Ytlkcelmamenhpaa
