/- Plain mathematics of systems as numbers: there and back, cut short, with more behind. -/
namespace Go.Proofs.Ytfmhejeeeglmdaa
structure Tsk where
  p : Int
  d : Int
  w : Int
  secs : List (Int × Int × Int)
structure Sys where
  co : Int
  po : Int
  pr : Int
  re : Int
  sw : Int
  fi : Int
  la : Int
  rs : Int
  ts : List Tsk
def secN (x : Int × Int × Int) : List Int := [x.1, x.2.1, x.2.2]
def tskN (t : Tsk) : List Int := t.p :: t.d :: t.w :: (t.secs.length : Int) :: t.secs.flatMap secN
/-- The numbers of a system. -/
def nums (s : Sys) : List Int := 1 :: s.co :: s.po :: s.pr :: s.re :: s.sw :: s.fi :: s.la :: s.rs :: (s.ts.length : Int) :: s.ts.flatMap tskN
def sys0 : Sys := ⟨0, 0, 0, 0, 0, 0, 0, 0, []⟩
def pSecs : Nat → List Nat → List (Int × Int × Int)
  | 0, _ => []
  | k + 1, l => ((l.getD 0 0 : Nat), (l.getD 1 0 : Nat), (l.getD 2 0 : Nat)) :: pSecs k (l.drop 3)
/-- So many tasks at the beginning of numbers: the error, the tasks, what is left. -/
def pTasks : Nat → List Nat → Nat × List Tsk × List Nat
  | 0, l => (0, [], l)
  | k + 1, l =>
    if l.length < 4 then (8, [], [])
    else if 4 < l.getD 3 0 then (7, [], [])
    else if l.length - 4 < 3 * l.getD 3 0 then (8, [], [])
    else if (pTasks k (l.drop (4 + 3 * l.getD 3 0))).1 ≠ 0 then ((pTasks k (l.drop (4 + 3 * l.getD 3 0))).1, [], [])
    else (0, ⟨(l.getD 0 0 : Nat), (l.getD 1 0 : Nat), (l.getD 2 0 : Nat), pSecs (l.getD 3 0) (l.drop 4)⟩ :: (pTasks k (l.drop (4 + 3 * l.getD 3 0))).2.1, (pTasks k (l.drop (4 + 3 * l.getD 3 0))).2.2)
/-- The system of numbers: the error, the system. -/
def parse (l : List Nat) : Nat × Sys :=
  if l.length < 10 ∨ l.getD 0 0 ≠ 1 then (8, sys0)
  else if 24 < l.getD 9 0 then (7, sys0)
  else if (pTasks (l.getD 9 0) (l.drop 10)).1 ≠ 0 then ((pTasks (l.getD 9 0) (l.drop 10)).1, sys0)
  else if 0 < (pTasks (l.getD 9 0) (l.drop 10)).2.2.length then (8, sys0)
  else (0, ⟨(l.getD 1 0 : Nat), (l.getD 2 0 : Nat), (l.getD 3 0 : Nat), (l.getD 4 0 : Nat), (l.getD 5 0 : Nat), (l.getD 6 0 : Nat), (l.getD 7 0 : Nat), (l.getD 8 0 : Nat), (pTasks (l.getD 9 0) (l.drop 10)).2.1⟩)
theorem secs_len (l : List (Int × Int × Int)) : (l.flatMap secN).length = 3 * l.length := by
  induction l with
  | nil => rfl
  | cons x t ih => rw [List.flatMap_cons, List.length_append, ih, List.length_cons]; simp [secN]; omega
theorem tskN_len (t : Tsk) : (tskN t).length = 4 + 3 * t.secs.length := by
  unfold tskN; simp only [List.length_cons, secs_len]; omega
def nat (l : List Int) : List Nat := l.map Int.toNat
theorem nat_append (a b : List Int) : nat (a ++ b) = nat a ++ nat b := List.map_append
theorem nat_len (a : List Int) : (nat a).length = a.length := List.length_map ..
theorem pSecs_nums (l : List (Int × Int × Int)) (rest : List Nat) (h : ∀ z ∈ l.flatMap secN, 0 ≤ z) : pSecs l.length (nat (l.flatMap secN) ++ rest) = l := by
  induction l with
  | nil => rfl
  | cons x t ih =>
    obtain ⟨a, b, c⟩ := x
    have h0 : 0 ≤ a ∧ 0 ≤ b ∧ 0 ≤ c := ⟨h a (by simp [secN]), h b (by simp [secN]), h c (by simp [secN])⟩
    have e : nat ((((a, b, c) :: t : List (Int × Int × Int))).flatMap secN) ++ rest = a.toNat :: b.toNat :: c.toNat :: (nat (t.flatMap secN) ++ rest) := by
      simp [nat, secN]
    rw [e, List.length_cons, pSecs]
    simp only [List.getD_cons_zero, List.getD_cons_succ, List.drop_succ_cons, List.drop_zero]
    rw [ih (fun z hz => h z (by rw [List.flatMap_cons]; exact List.mem_append_right _ hz))]
    congr 1
    refine Prod.ext ?_ (Prod.ext ?_ ?_) <;> simp <;> omega
theorem getD_app {α : Type} {a b : List α} {k : Nat} {d : α} (h : k < a.length) : (a ++ b).getD k d = a.getD k d := by
  simp [List.getD, List.getElem?_append_left h]
/-- What a task's numbers are, with others behind. -/
theorem tsk_head (t : Tsk) (rest : List Nat) (h : ∀ z ∈ tskN t, 0 ≤ z) :
    (nat (tskN t) ++ rest).getD 0 0 = t.p.toNat ∧ (nat (tskN t) ++ rest).getD 1 0 = t.d.toNat ∧ (nat (tskN t) ++ rest).getD 2 0 = t.w.toNat ∧ (nat (tskN t) ++ rest).getD 3 0 = t.secs.length ∧ (nat (tskN t) ++ rest).drop 4 = nat (t.secs.flatMap secN) ++ rest ∧ 0 ≤ t.p ∧ 0 ≤ t.d ∧ 0 ≤ t.w ∧ (∀ z ∈ t.secs.flatMap secN, 0 ≤ z) := by
  refine ⟨rfl, rfl, rfl, ?_, rfl, h _ (by simp [tskN]), h _ (by simp [tskN]), h _ (by simp [tskN]), fun z hz => h z (by simp [tskN, -List.mem_flatMap]; exact .inr (.inr (.inr (.inr hz))))⟩
  simp [nat, tskN]
theorem pTasks_nums (ts : List Tsk) (rest : List Nat) (h : ∀ z ∈ ts.flatMap tskN, 0 ≤ z) (h4 : ∀ t ∈ ts, t.secs.length ≤ 4) : pTasks ts.length (nat (ts.flatMap tskN) ++ rest) = (0, ts, rest) := by
  induction ts with
  | nil => rfl
  | cons t r ih =>
    have ih2 := ih (fun z hz => h z (by rw [List.flatMap_cons]; exact List.mem_append_right _ hz)) (fun x hx => h4 x (by simp [hx]))
    obtain ⟨a0, a1, a2, a3, a4, p0, p1, p2, p3⟩ := tsk_head t (nat (r.flatMap tskN) ++ rest) (fun z hz => h z (by rw [List.flatMap_cons]; exact List.mem_append_left _ hz))
    have hs := h4 t (by simp)
    have e : nat ((t :: r).flatMap tskN) ++ rest = nat (tskN t) ++ (nat (r.flatMap tskN) ++ rest) := by rw [List.flatMap_cons, nat_append, List.append_assoc]
    have hl : (nat (tskN t) ++ (nat (r.flatMap tskN) ++ rest)).length = 4 + 3 * t.secs.length + (nat (r.flatMap tskN) ++ rest).length := by rw [List.length_append, nat_len, tskN_len]
    have hd : (nat (tskN t) ++ (nat (r.flatMap tskN) ++ rest)).drop (4 + 3 * t.secs.length) = nat (r.flatMap tskN) ++ rest := List.drop_left' (by rw [nat_len, tskN_len])
    rw [e, List.length_cons, pTasks, a0, a1, a2, a3, hd, ih2, a4, if_neg (by omega), if_neg (by omega), if_neg (by omega), if_neg (by simp), pSecs_nums _ _ p3]
    simp only [Int.toNat_of_nonneg p0, Int.toNat_of_nonneg p1, Int.toNat_of_nonneg p2]
/-- A system that may be written. -/
structure Fit (s : Sys) : Prop where
  tasks : s.ts.length ≤ 24
  secs : ∀ t ∈ s.ts, t.secs.length ≤ 4
  pos : ∀ z ∈ nums s, 0 ≤ z
theorem Fit.tail {s : Sys} (h : Fit s) : ∀ z ∈ s.ts.flatMap tskN, 0 ≤ z := fun z hz => h.pos z (by unfold nums; simp only [List.mem_cons]; exact .inr (.inr (.inr (.inr (.inr (.inr (.inr (.inr (.inr (.inr hz))))))))))
theorem nat_nums (s : Sys) : nat (nums s) = 1 :: s.co.toNat :: s.po.toNat :: s.pr.toNat :: s.re.toNat :: s.sw.toNat :: s.fi.toNat :: s.la.toNat :: s.rs.toNat :: s.ts.length :: nat (s.ts.flatMap tskN) := by
  simp [nat, nums]
theorem parse_more {s : Sys} (h : Fit s) (more : List Nat) : parse (nat (nums s) ++ more) = if more = [] then (0, s) else (8, sys0) := by
  have ht := pTasks_nums s.ts more h.tail h.secs
  have hp := h.pos
  unfold parse
  rw [nat_nums]
  simp only [List.cons_append, List.getD_cons_zero, List.getD_cons_succ, List.drop_succ_cons, List.drop_zero, List.length_cons]
  rw [if_neg (by simp), if_neg (by have := h.tasks; omega), ht, if_neg (by simp)]
  by_cases e : more = []
  · rw [if_pos e, if_neg (by simp [e])]
    have q : ∀ z ∈ [s.co, s.po, s.pr, s.re, s.sw, s.fi, s.la, s.rs], ((z.toNat : Nat) : Int) = z := fun z hz => Int.toNat_of_nonneg (hp z (by unfold nums; simp only [List.mem_cons, List.not_mem_nil, or_false] at hz ⊢; omega))
    rw [q s.co (by simp), q s.po (by simp), q s.pr (by simp), q s.re (by simp), q s.sw (by simp), q s.fi (by simp), q s.la (by simp), q s.rs (by simp)]
  · rw [if_neg e, if_pos (List.length_pos_iff.2 e)]
theorem parse_nums {s : Sys} (h : Fit s) : parse (nat (nums s)) = (0, s) := by
  have := parse_more h []
  rwa [List.append_nil, if_pos rfl] at this
/-- Cut short, tasks are none. -/
theorem pTasks_cut (ts : List Tsk) (j : Nat) (h : ∀ z ∈ ts.flatMap tskN, 0 ≤ z) (h4 : ∀ t ∈ ts, t.secs.length ≤ 4) (hj : j < (nat (ts.flatMap tskN)).length) : (pTasks ts.length ((nat (ts.flatMap tskN)).take j)).1 = 8 := by
  induction ts generalizing j with
  | nil => simp [nat] at hj
  | cons t r ih =>
    have hs := h4 t (by simp)
    have hpt : ∀ z ∈ tskN t, 0 ≤ z := fun z hz => h z (by rw [List.flatMap_cons]; exact List.mem_append_left _ hz)
    have e : nat ((t :: r).flatMap tskN) = nat (tskN t) ++ nat (r.flatMap tskN) := by rw [List.flatMap_cons, nat_append]
    rw [e] at hj ⊢
    rw [List.length_append, nat_len, tskN_len] at hj
    rw [List.length_cons, pTasks]
    have hlen : ((nat (tskN t) ++ nat (r.flatMap tskN)).take j).length = j := by rw [List.length_take, List.length_append, nat_len, tskN_len]; omega
    by_cases hj4 : j < 4
    · rw [if_pos (by omega)]
    · rw [if_neg (by omega)]
      have a3 : ((nat (tskN t) ++ nat (r.flatMap tskN)).take j).getD 3 0 = t.secs.length := by
        rw [List.getD, List.getElem?_take_of_lt (by omega)]
        exact (tsk_head t (nat (r.flatMap tskN)) hpt).2.2.2.1
      rw [a3, if_neg (by omega), hlen]
      by_cases hj5 : j - 4 < 3 * t.secs.length
      · rw [if_pos hj5]
      · rw [if_neg hj5]
        have hd : ((nat (tskN t) ++ nat (r.flatMap tskN)).take j).drop (4 + 3 * t.secs.length) = (nat (r.flatMap tskN)).take (j - (4 + 3 * t.secs.length)) := by
          rw [List.drop_take]
          congr 1
          exact List.drop_left' (by rw [nat_len, tskN_len])
        have ih2 := ih (j - (4 + 3 * t.secs.length)) (fun z hz => h z (by rw [List.flatMap_cons]; exact List.mem_append_right _ hz)) (fun x hx => h4 x (by simp [hx])) (by omega)
        rw [hd, ih2, if_pos (by simp)]
theorem parse_cut {s : Sys} (h : Fit s) {j : Nat} (hj : j < (nums s).length) : parse ((nat (nums s)).take j) = (8, sys0) := by
  have hl : ((nat (nums s)).take j).length = j := by rw [List.length_take, nat_len]; omega
  unfold parse
  by_cases h10 : j < 10
  · rw [if_pos (.inl (by omega))]
  · obtain ⟨k, rfl⟩ : ∃ k, j = k + 10 := ⟨j - 10, by omega⟩
    have hk : k < (nat (s.ts.flatMap tskN)).length := by
      have : (nums s).length = 10 + (s.ts.flatMap tskN).length := by unfold nums; simp only [List.length_cons]; omega
      rw [nat_len]; omega
    have hc := pTasks_cut s.ts k h.tail h.secs hk
    rw [nat_nums]
    simp only [List.take_succ_cons, List.getD_cons_zero, List.getD_cons_succ, List.drop_succ_cons, List.drop_zero, List.length_cons]
    rw [if_neg (by simp), if_neg (by have := h.tasks; omega), hc, if_pos (by simp)]
def ofNn (l : List Nat) : List Int := l.map (fun n : Nat => (n : Int))
theorem drop_split (l : List Nat) {k : Nat} (h : k < l.length) : l.drop k = l.getD k 0 :: l.drop (k + 1) := by
  rw [List.drop_eq_getElem_cons h]
  simp [List.getD, List.getElem?_eq_getElem h]
theorem pSecs_back (k : Nat) (l : List Nat) (h : 3 * k ≤ l.length) : ofNn l = (pSecs k l).flatMap secN ++ ofNn (l.drop (3 * k)) ∧ (pSecs k l).length = k := by
  induction k generalizing l with
  | zero => exact ⟨by simp [pSecs], rfl⟩
  | succ k ih =>
    obtain ⟨i1, i2⟩ := ih (l.drop 3) (by rw [List.length_drop]; omega)
    have e : l = l.getD 0 0 :: l.getD 1 0 :: l.getD 2 0 :: l.drop 3 := by
      have e0 := drop_split l (k := 0) (by omega)
      have e1 := drop_split l (k := 1) (by omega)
      have e2 := drop_split l (k := 2) (by omega)
      rw [List.drop_zero] at e0
      rw [e2] at e1
      rw [e1] at e0
      exact e0
    refine ⟨?_, by rw [pSecs, List.length_cons, i2]⟩
    have hd : l.drop (3 * (k + 1)) = (l.drop 3).drop (3 * k) := by rw [List.drop_drop]; congr 1; omega
    rw [hd, pSecs, List.flatMap_cons, List.append_assoc, ← i1]
    have := congrArg ofNn e
    rw [this]; rfl
theorem pTasks_back (k : Nat) (l : List Nat) (h : (pTasks k l).1 = 0) : ofNn l = (pTasks k l).2.1.flatMap tskN ++ ofNn (pTasks k l).2.2 ∧ (pTasks k l).2.1.length = k ∧ ∀ t ∈ (pTasks k l).2.1, t.secs.length ≤ 4 := by
  induction k generalizing l with
  | zero => exact ⟨by simp [pTasks], rfl, by simp [pTasks]⟩
  | succ k ih =>
    rw [pTasks] at h ⊢
    by_cases h1 : l.length < 4
    · rw [if_pos h1] at h; cases h
    · rw [if_neg h1] at h ⊢
      by_cases h2 : 4 < l.getD 3 0
      · rw [if_pos h2] at h; cases h
      · rw [if_neg h2] at h ⊢
        by_cases h3 : l.length - 4 < 3 * l.getD 3 0
        · rw [if_pos h3] at h; cases h
        · rw [if_neg h3] at h ⊢
          by_cases h4 : (pTasks k (l.drop (4 + 3 * l.getD 3 0))).1 ≠ 0
          · rw [if_pos h4] at h; exact absurd h h4
          · rw [if_neg h4]
            obtain ⟨i1, i2, i3⟩ := ih (l.drop (4 + 3 * l.getD 3 0)) (Decidable.not_not.1 h4)
            dsimp only
            obtain ⟨s1, s2⟩ := pSecs_back (l.getD 3 0) (l.drop 4) (by rw [List.length_drop]; omega)
            refine ⟨?_, by rw [List.length_cons, i2], fun t ht => ?_⟩
            · have e0 := drop_split l (k := 0) (by omega)
              have e1 := drop_split l (k := 1) (by omega)
              have e2 := drop_split l (k := 2) (by omega)
              have e3 := drop_split l (k := 3) (by omega)
              rw [List.drop_zero] at e0
              rw [e3] at e2
              rw [e2] at e1
              rw [e1] at e0
              have e := congrArg ofNn e0
              rw [e]
              have hdd : (l.drop 4).drop (3 * l.getD 3 0) = l.drop (4 + 3 * l.getD 3 0) := by rw [List.drop_drop]
              rw [hdd] at s1
              rw [List.flatMap_cons, List.append_assoc, ← i1]
              show _ :: _ :: _ :: _ :: ofNn (l.drop 4) = _
              rw [s1]
              simp only [tskN, s2, List.cons_append]
            · rcases List.mem_cons.1 ht with rfl | ht
              · show (pSecs _ _).length ≤ 4
                rw [s2]; omega
              · exact i3 t ht
theorem parse_back {l : List Nat} {s : Sys} (h : parse l = (0, s)) : nums s = ofNn l ∧ s.ts.length ≤ 24 ∧ ∀ t ∈ s.ts, t.secs.length ≤ 4 := by
  unfold parse at h
  by_cases h1 : l.length < 10 ∨ l.getD 0 0 ≠ 1
  · rw [if_pos h1] at h; cases h
  · rw [if_neg h1] at h
    by_cases h2 : 24 < l.getD 9 0
    · rw [if_pos h2] at h; cases h
    · rw [if_neg h2] at h
      by_cases h3 : (pTasks (l.getD 9 0) (l.drop 10)).1 ≠ 0
      · rw [if_pos h3] at h
        have := congrArg Prod.fst h
        exact absurd this h3
      · rw [if_neg h3] at h
        by_cases h4 : 0 < (pTasks (l.getD 9 0) (l.drop 10)).2.2.length
        · rw [if_pos h4] at h; cases h
        · rw [if_neg h4] at h
          obtain ⟨b1, b2, b3⟩ := pTasks_back (l.getD 9 0) (l.drop 10) (Decidable.not_not.1 h3)
          have hn : (pTasks (l.getD 9 0) (l.drop 10)).2.2 = [] := List.eq_nil_of_length_eq_zero (by omega)
          rw [hn] at b1
          have hs := congrArg Prod.snd h
          simp only at hs
          subst hs
          refine ⟨?_, by show (pTasks _ _).2.1.length ≤ 24; rw [b2]; omega, b3⟩
          have h10 : 10 ≤ l.length := by omega
          have e0 := drop_split l (k := 0) (by omega)
          have e1 := drop_split l (k := 1) (by omega)
          have e2 := drop_split l (k := 2) (by omega)
          have e3 := drop_split l (k := 3) (by omega)
          have e4 := drop_split l (k := 4) (by omega)
          have e5 := drop_split l (k := 5) (by omega)
          have e6 := drop_split l (k := 6) (by omega)
          have e7 := drop_split l (k := 7) (by omega)
          have e8 := drop_split l (k := 8) (by omega)
          have e9 := drop_split l (k := 9) (by omega)
          rw [List.drop_zero] at e0
          rw [e9] at e8; rw [e8] at e7; rw [e7] at e6; rw [e6] at e5; rw [e5] at e4; rw [e4] at e3; rw [e3] at e2; rw [e2] at e1; rw [e1] at e0
          have e := congrArg ofNn e0
          rw [e]
          show _ = _ :: _ :: _ :: _ :: _ :: _ :: _ :: _ :: _ :: _ :: ofNn (l.drop 10)
          rw [b1]
          have h01 : l.getD 0 0 = 1 := by
            by_cases q : l.getD 0 0 = 1
            · exact q
            · exact absurd (.inr q) h1
          simp only [nums, b2, h01]
          simp [ofNn]
theorem secN_inj {a b : List (Int × Int × Int)} {x y : List Int} (hl : a.length = b.length) (h : a.flatMap secN ++ x = b.flatMap secN ++ y) : a = b ∧ x = y := by
  induction a generalizing b with
  | nil =>
    cases b with
    | nil => exact ⟨rfl, h⟩
    | cons c t => simp at hl
  | cons c t ih =>
    cases b with
    | nil => simp at hl
    | cons d r =>
      obtain ⟨c1, c2, c3⟩ := c
      obtain ⟨d1, d2, d3⟩ := d
      simp only [List.flatMap_cons, secN, List.cons_append, List.nil_append, List.cons.injEq] at h
      obtain ⟨h1, h2, h3, h4⟩ := h
      obtain ⟨i1, i2⟩ := ih (by simpa using hl) h4
      subst h1 h2 h3 i1 i2
      exact ⟨rfl, rfl⟩
theorem tskN_inj {a b : List Tsk} {x y : List Int} (hl : a.length = b.length) (h : a.flatMap tskN ++ x = b.flatMap tskN ++ y) : a = b ∧ x = y := by
  induction a generalizing b with
  | nil =>
    cases b with
    | nil => exact ⟨rfl, h⟩
    | cons c t => simp at hl
  | cons c t ih =>
    cases b with
    | nil => simp at hl
    | cons d r =>
      obtain ⟨cp, cd, cw, cs⟩ := c
      obtain ⟨dp, dd, dw, ds⟩ := d
      simp only [List.flatMap_cons, tskN, List.cons_append, List.cons.injEq, List.append_assoc] at h
      obtain ⟨h1, h2, h3, h4, h5⟩ := h
      obtain ⟨i1, i2⟩ := secN_inj (a := cs) (b := ds) (by omega) h5
      obtain ⟨j1, j2⟩ := ih (by simpa using hl) i2
      subst h1 h2 h3 i1 j1 j2
      exact ⟨rfl, rfl⟩
/-- A system is what its numbers say. -/
theorem nums_inj {s t : Sys} (h : nums s = nums t) : s = t := by
  obtain ⟨a1, a2, a3, a4, a5, a6, a7, a8, sa⟩ := s
  obtain ⟨b1, b2, b3, b4, b5, b6, b7, b8, sb⟩ := t
  simp only [nums, List.cons.injEq, true_and] at h
  obtain ⟨h1, h2, h3, h4, h5, h6, h7, h8, h9, h10⟩ := h
  obtain ⟨i1, _⟩ := tskN_inj (a := sa) (b := sb) (x := []) (y := []) (by omega) (by rw [h10])
  subst h1 h2 h3 h4 h5 h6 h7 h8 i1
  rfl
theorem nums_len {s : Sys} (h24 : s.ts.length ≤ 24) (h4 : ∀ t ∈ s.ts, t.secs.length ≤ 4) : (nums s).length ≤ 394 := by
  have key : ∀ l : List Tsk, (∀ t ∈ l, t.secs.length ≤ 4) → (l.flatMap tskN).length ≤ 16 * l.length := by
    intro l
    induction l with
    | nil => intro _; simp
    | cons t r ih =>
      intro h
      have h1 := ih (fun x hx => h x (by simp [hx]))
      have h2 := h t (by simp)
      rw [List.flatMap_cons, List.length_append, tskN_len, List.length_cons]; omega
  have := key s.ts h4
  unfold nums
  simp only [List.length_cons]; omega
end Go.Proofs.Ytfmhejeeeglmdaa
