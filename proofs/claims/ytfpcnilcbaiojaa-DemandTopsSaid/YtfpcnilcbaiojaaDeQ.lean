/- What the statements of layer 15 ask, as mathematics. -/
import Derived.Test.YtfpcnilcbaiojaaDeP
namespace Go.Proofs.Ytfpcnilcbaiojaa.dem
/-- What it means that Test says OK. -/
theorem test_ok {l : List Wk} {bl rl : Int} (h : testV l bl rl = 0) : right l bl rl = true ∧ (least l = 0 ∨ ((busyP l bl rl).2 = 0 ∧ testGo l bl rl (least l) 5000 (busyP l bl rl).1 = 0)) := by
  unfold testV at h
  cases hr : right l bl rl with
  | false => rw [hr, if_neg (by simp)] at h; cases h
  | true =>
    rw [hr, if_pos rfl] at h
    refine ⟨rfl, ?_⟩
    by_cases h0 : least l = 0
    · exact .inl h0
    · rw [if_neg h0] at h
      by_cases h1 : (busyP l bl rl).2 = 0
      · rw [if_neg (by omega)] at h; exact .inr ⟨h1, h⟩
      · rw [if_pos h1] at h; exact absurd h h1
theorem lsN_bd {l : List Wk} (h : ∀ x ∈ l, 1 ≤ x.d) {i : Nat} (hi : i ≤ l.length) : lsN l i = 0 ∨ 1 ≤ lsN l i := by
  induction i with
  | zero => exact .inl rfl
  | succ i ih =>
    have hx : l[i]? = some l[i] := List.getElem?_eq_getElem (by omega)
    have := h _ (List.mem_of_getElem? hx)
    rw [lsN, getD_some hx]
    split
    · exact .inr this
    · exact ih (by omega)
theorem least_bd {l : List Wk} {bl rl : Int} (h : right l bl rl = true) : least l = 0 ∨ 1 ≤ least l := lsN_bd (fun x hx => (okW_iff.1 ((right_iff.1 h).2.2.2 x hx)).2.2.1) (Nat.le_refl _)
/-- P15.4: where Test says OK, no demand up to Busy is greater. -/
theorem meets {l : List Wk} {bl rl : Int} (h : testV l bl rl = 0) (h0 : least l ≠ 0) : (busyP l bl rl).2 = 0 ∧ 1 ≤ (busyP l bl rl).1 ∧ ∀ t, 1 ≤ t → t ≤ (busyP l bl rl).1 → askE l bl rl t = 0 ∧ (t < least l ∨ askV l bl rl t ≤ t) := by
  obtain ⟨hr, hh⟩ := test_ok h
  rcases hh with e | ⟨hb, ht⟩
  · exact absurd e h0
  · obtain ⟨_, n1, no, _, _⟩ := busy_ok hb
    refine ⟨hb, n1, fun t t1 t2 => ?_⟩
    have ho := askO_mono hr t1 t2 (askO_com hr n1 no)
    rcases ask_cases l bl rl t with ⟨_, _, e⟩ | ⟨_, _, o, _, _⟩ | ⟨_, _, _, e, v⟩
    · exact absurd ⟨hr, t1⟩ e
    · rw [ho] at o; cases o
    · refine ⟨e, ?_⟩
      rw [v]
      by_cases hl : t < least l
      · exact .inl hl
      · exact .inr (test_go hr (by have := least_bd hr; omega) 5000 _ ht t (by omega) t2)
/-- Works that ask no more, at any number of ticks. -/
structure Less (l l' : List Wk) (bl bl' rl : Int) : Prop where
  right : right l' bl' rl = true
  ask : ∀ m, 1 ≤ m → askS l' bl' rl m ≤ askS l bl rl m
  com : ∀ m, 1 ≤ m → comS l' bl' rl m ≤ comS l bl rl m
  fac : ∀ x ∈ l', ∃ y ∈ l, y.p = x.p
  ld : ldS rl l' ≤ ldS rl l
  least : least l' = 0 ∨ (least l ≠ 0 ∧ least l ≤ least l')
theorem Less.ov {l l' : List Wk} {bl bl' rl : Int} (h : Less l l' bl bl' rl) {f g : Wk → Int} {m : Int} (hs : sN bl' f l' l'.length ≤ sN bl g l l.length) (ho : ov bl g m l l.length = false) : ov bl' f m l' l'.length = false := by
  obtain ⟨h1, h2⟩ := ov_not ho
  cases e : dem.ov bl' f m l' l'.length with
  | false => rfl
  | true =>
    rcases ov_iff.1 e with e | ⟨j, x, hj, hx, e⟩
    · omega
    · obtain ⟨y, hy, ey⟩ := h.fac x (List.mem_of_getElem? hx)
      obtain ⟨q, hq⟩ := List.mem_iff_getElem?.1 hy
      have := h2 q y (List.getElem?_eq_some_iff.1 hq).1 hq
      rw [ey] at this; omega
theorem Less.busy {l l' : List Wk} {bl bl' rl : Int} (h : Less l l' bl bl' rl) (hr : dem.right l bl rl = true) {n : Int} (no : comO l bl rl n = false) (nc : comS l bl rl n ≤ n) :
    ∀ (k : Nat) (m : Int), 1 ≤ m → m ≤ n → busyGo l' bl' rl k m = (0, 11) ∨ ((busyGo l' bl' rl k m).2 = 0 ∧ 1 ≤ (busyGo l' bl' rl k m).1 ∧ (busyGo l' bl' rl k m).1 ≤ n)
  | 0, m, _, _ => .inl rfl
  | k + 1, m, m1, m2 => by
    have ho : comO l' bl' rl m = false := h.ov (h.com m m1) (comO_mono hr m1 m2 no)
    rw [busyGo, ho, if_neg (by simp)]
    by_cases hc : comS l' bl' rl m ≤ m
    · rw [if_pos hc]; exact .inr ⟨rfl, m1, m2⟩
    · rw [if_neg hc]
      have h1 := h.com m m1
      have h2 := com_mono hr m1 m2
      exact Less.busy h hr no nc k _ (by omega) (by omega)
/-- P15.4: less work does not change OK into an error, but that the steps may be too many. -/
theorem Less.test {l l' : List Wk} {bl bl' rl : Int} (h : Less l l' bl bl' rl) (ht : testV l bl rl = 0) : testV l' bl' rl = 0 ∨ testV l' bl' rl = 11 := by
  unfold testV
  rw [h.right, if_pos rfl]
  by_cases h0 : dem.least l' = 0
  · rw [if_pos h0]; exact .inl rfl
  · rw [if_neg h0]
    have hl := h.least.resolve_left h0
    obtain ⟨hr, hh⟩ := test_ok ht
    obtain ⟨hb, hg⟩ := hh.resolve_left hl.1
    obtain ⟨_, n1, no, nc, _⟩ := busy_ok hb
    have hld : ¬ 4294967296 < ldS rl l' := by
      have := h.ld
      intro e
      unfold busyP at hb
      rw [hr, if_pos rfl, if_pos (by omega)] at hb
      cases hb
    have hbp : busyP l' bl' rl = busyGo l' bl' rl 5000 1 := by unfold busyP; rw [h.right, if_pos rfl, if_neg hld]
    rcases h.busy hr no nc 5000 1 (by omega) n1 with e | ⟨e, n1', n2'⟩
    · rw [hbp, e, if_pos (by simp)]; exact .inr rfl
    · rw [hbp, if_neg (by omega)]
      have hlb := least_bd hr
      refine test_fine h.right (by omega) 5000 _ (fun m m1 m2 => ?_)
      have hm1 : 1 ≤ m := by omega
      have ho := askO_mono hr hm1 (show m ≤ (busyP l bl rl).1 by omega) (askO_com hr n1 no)
      have hs := test_go hr (by omega) 5000 _ hg m (by omega) (by omega)
      have := h.ask m hm1
      exact ⟨h.ov (h.ask m hm1) ho, by omega⟩
end Go.Proofs.Ytfpcnilcbaiojaa.dem
