/- Notes as a list in the order of sending: who is ahead, what is taken, what is left. -/
import Derived.Test.YtmfjlfemeihchaaBase
namespace Go.Proofs.Ytmfjlfemeihchaa
structure Nt where
  core : Int
  task : Int
  due : Int
  turn : Int
def nt0 : Nt := ⟨0, 0, 0, 0⟩
def ahB (a b : Nt) : Bool := if a.due = b.due then decide (a.turn < b.turn) else decide (a.due < b.due)
theorem ahB_iff (a b : Nt) : ahB a b = true ↔ a.due < b.due ∨ (a.due = b.due ∧ a.turn < b.turn) := by
  unfold ahB
  by_cases h : a.due = b.due
  · rw [if_pos h, decide_eq_true_iff]; omega
  · rw [if_neg h, decide_eq_true_iff]; omega
theorem ah_trans {a b c : Nt} (h : ahB a b = true) (k : ahB b c = true) : ahB a c = true := by
  rw [ahB_iff] at *; omega
theorem ah_irr (a : Nt) : ¬ ahB a a = true := by rw [ahB_iff]; omega
theorem ah_total {a b : Nt} (h : a.turn ≠ b.turn) (k : ¬ ahB a b = true) : ahB b a = true := by
  rw [ahB_iff] at *; omega
def Srt (L : List Nt) : Prop := L.Pairwise (fun a b => ahB a b = true)
def ins (x : Nt) : List Nt → List Nt
  | [] => [x]
  | y :: r => if ahB x y = true then x :: y :: r else y :: ins x r
theorem ins_length (x : Nt) (L : List Nt) : (ins x L).length = L.length + 1 := by
  induction L with
  | nil => rfl
  | cons y r ih => unfold ins; split <;> simp [ih]
theorem ins_mem (x : Nt) (L : List Nt) (y : Nt) : y ∈ ins x L ↔ y = x ∨ y ∈ L := by
  induction L with
  | nil => simp [ins]
  | cons z r ih =>
    unfold ins
    split
    · simp
    · simp only [List.mem_cons, ih]
      constructor
      · rintro (h | h | h)
        · exact .inr (.inl h)
        · exact .inl h
        · exact .inr (.inr h)
      · rintro (h | h | h)
        · exact .inr (.inl h)
        · exact .inl h
        · exact .inr (.inr h)
theorem ins_sorted {x : Nt} {L : List Nt} (h : Srt L) (hne : ∀ y ∈ L, y.turn ≠ x.turn) : Srt (ins x L) := by
  induction L with
  | nil => simp [ins, Srt]
  | cons y r ih =>
    obtain ⟨h1, h2⟩ := List.pairwise_cons.1 h
    unfold ins
    split
    · rename_i hb
      refine List.pairwise_cons.2 ⟨fun z hz => ?_, h⟩
      rcases List.mem_cons.1 hz with rfl | hz
      · exact hb
      · exact ah_trans hb (h1 z hz)
    · rename_i hb
      refine List.pairwise_cons.2 ⟨fun z hz => ?_, ih h2 (fun z hz => hne z (List.mem_cons_of_mem _ hz))⟩
      rcases (ins_mem x r z).1 hz with rfl | hz
      · exact ah_total (fun e => hne y (by simp) e.symm) hb
      · exact h1 z hz
theorem srt_ext : ∀ {L M : List Nt}, Srt L → Srt M → (∀ y, y ∈ L ↔ y ∈ M) → L = M
  | [], [], _, _, _ => rfl
  | [], b :: r, _, _, h => absurd ((h b).2 (by simp)) (by simp)
  | a :: r, [], _, _, h => absurd ((h a).1 (by simp)) (by simp)
  | a :: r, b :: s, hL, hM, h => by
    obtain ⟨h1, h2⟩ := List.pairwise_cons.1 hL
    obtain ⟨k1, k2⟩ := List.pairwise_cons.1 hM
    have e : a = b := by
      rcases List.mem_cons.1 ((h a).1 (by simp)) with e | e
      · exact e
      · rcases List.mem_cons.1 ((h b).2 (by simp)) with e' | e'
        · exact e'.symm
        · exact absurd (ah_trans (k1 a e) (h1 b e')) (ah_irr b)
    subst e
    rw [srt_ext h2 k2 (fun y => by
      constructor
      · intro hy
        rcases List.mem_cons.1 ((h y).1 (List.mem_cons_of_mem _ hy)) with e | e
        · exact absurd (h1 y hy) (e ▸ ah_irr a)
        · exact e
      · intro hy
        rcases List.mem_cons.1 ((h y).2 (List.mem_cons_of_mem _ hy)) with e | e
        · exact absurd (k1 y hy) (e ▸ ah_irr a)
        · exact e)]
/-- Where it stands: all from k on are behind it, and the one ahead of k is not. -/
theorem ins_place {x : Nt} : ∀ {L : List Nt} {k : Nat}, Srt L → k ≤ L.length → (∀ j, k ≤ j → j < L.length → ahB x (L.getD j nt0) = true) → (0 < k → ¬ ahB x (L.getD (k - 1) nt0) = true) →
    L.take k ++ x :: L.drop k = ins x L
  | [], k, _, hk, _, _ => by simp [ins]
  | y :: r, 0, _, _, h, _ => by
    have := h 0 (Nat.le_refl _) (by simp)
    simp at this
    simp [ins, this]
  | y :: r, k + 1, hs, hk, h, hn => by
    obtain ⟨h1, h2⟩ := List.pairwise_cons.1 hs
    have hk' : k ≤ r.length := by simpa using hk
    have hny : ¬ ahB x y = true := by
      intro hb
      have := hn (by omega)
      rcases Nat.eq_zero_or_pos k with e | e
      · subst e; exact this (by simpa using hb)
      · have hm : (y :: r).getD (k + 1 - 1) nt0 ∈ r := by
          rw [show k + 1 - 1 = (k - 1) + 1 by omega]
          simp only [List.getD_cons_succ]
          rw [List.getD_eq_getElem?_getD, List.getElem?_eq_getElem (by omega)]
          exact List.getElem_mem _
        exact this (ah_trans hb (h1 _ hm))
    have ih := ins_place (x := x) (L := r) (k := k) h2 hk' (fun j hj hl => by simpa using h (j + 1) (by omega) (by simpa using hl)) (fun hp => by
      have := hn (by omega)
      rwa [show k + 1 - 1 = (k - 1) + 1 by omega, List.getD_cons_succ] at this)
    unfold ins
    rw [if_neg hny, ← ih]
    simp
/-- The first note of a core and a task. -/
def fnd (L : List Nt) (c t : Int) : Option Nt := L.find? (fun n => decide (n.core = c ∧ n.task = t))
theorem fnd_some {L : List Nt} {c t : Int} {n : Nt} (h : fnd L c t = some n) : n ∈ L ∧ n.core = c ∧ n.task = t := by
  refine ⟨List.mem_of_find?_eq_some h, ?_⟩
  have := List.find?_some h
  simpa using this
theorem fnd_none {L : List Nt} {c t : Int} : fnd L c t = none ↔ ∀ n ∈ L, ¬ (n.core = c ∧ n.task = t) := by
  unfold fnd
  rw [List.find?_eq_none]
  simp
def One (L : List Nt) : Prop := L.Pairwise (fun a b => ¬ (a.core = b.core ∧ a.task = b.task))
theorem fnd_mem {L : List Nt} (h : One L) {n : Nt} (hn : n ∈ L) : fnd L n.core n.task = some n := by
  induction L with
  | nil => simp at hn
  | cons y r ih =>
    obtain ⟨h1, h2⟩ := List.pairwise_cons.1 h
    unfold fnd
    rw [List.find?_cons]
    rcases List.mem_cons.1 hn with rfl | hn
    · simp
    · have : decide (y.core = n.core ∧ y.task = n.task) = false := by rw [decide_eq_false_iff_not]; exact h1 n hn
      rw [this]
      exact ih h2 hn
theorem fnd_iff {L : List Nt} (h : One L) {c t : Int} {n : Nt} : fnd L c t = some n ↔ n ∈ L ∧ n.core = c ∧ n.task = t :=
  ⟨fnd_some, by rintro ⟨h1, rfl, rfl⟩; exact fnd_mem h h1⟩
theorem fnd_append (L : List Nt) (x : Nt) (c t : Int) : fnd (L ++ [x]) c t = match fnd L c t with | some n => some n | none => if x.core = c ∧ x.task = t then some x else none := by
  unfold fnd
  rw [List.find?_append]
  cases h : List.find? (fun n => decide (n.core = c ∧ n.task = t)) L with
  | some n => rfl
  | none =>
    by_cases e : x.core = c ∧ x.task = t
    · simp [e]
    · simp [e]
/-- What is left of a core. -/
def lf (c now : Int) (L : List Nt) : List Nt := L.filter (fun n => !decide (n.core = c ∧ n.due ≤ now))
theorem lf_mem {c now : Int} {L : List Nt} {n : Nt} : n ∈ lf c now L ↔ n ∈ L ∧ ¬ (n.core = c ∧ n.due ≤ now) := by
  unfold lf; rw [List.mem_filter, Bool.not_eq_true', decide_eq_false_iff_not]
theorem lf_one {c now : Int} {L : List Nt} (h : One L) : One (lf c now L) := List.Pairwise.filter _ h
theorem fnd_lf {L : List Nt} (h : One L) (c now a b : Int) : fnd (lf c now L) a b = match fnd L a b with | some n => if a = c ∧ n.due ≤ now then none else some n | none => none := by
  cases e : fnd L a b with
  | none =>
    have := fnd_none.1 e
    exact fnd_none.2 (fun n hn => this n (lf_mem.1 hn).1)
  | some n =>
    obtain ⟨h1, h2, h3⟩ := fnd_some e
    by_cases hc : a = c ∧ n.due ≤ now
    · show _ = if a = c ∧ n.due ≤ now then none else some n
      rw [if_pos hc]
      refine fnd_none.2 (fun m hm hh => ?_)
      obtain ⟨m1, m2⟩ := lf_mem.1 hm
      have : fnd L a b = some m := (fnd_iff h).2 ⟨m1, hh⟩
      rw [e] at this
      cases this
      exact m2 ⟨h2.trans hc.1, hc.2⟩
    · show _ = if a = c ∧ n.due ≤ now then none else some n
      rw [if_neg hc]
      exact (fnd_iff (lf_one h)).2 ⟨lf_mem.2 ⟨h1, fun hh => hc ⟨h2.symm.trans hh.1, hh.2⟩⟩, h2, h3⟩
/-- What is taken, in the order in which it is. -/
def tk (c now : Int) (L : List Nt) : List Nt := L.foldl (fun acc n => if n.core = c ∧ n.due ≤ now then ins n acc else acc) []
theorem tk_snoc (c now : Int) (L : List Nt) (x : Nt) : tk c now (L ++ [x]) = if x.core = c ∧ x.due ≤ now then ins x (tk c now L) else tk c now L := by
  unfold tk; rw [List.foldl_append]; rfl
def byT (c now : Int) (L : List Nt) : Nat → List Nt
  | 0 => []
  | k + 1 => match fnd L c k with
    | some n => if n.due ≤ now then ins n (byT c now L k) else byT c now L k
    | none => byT c now L k
def dueOf (L : List Nt) (c t : Int) : Int := match fnd L c t with | some n => n.due | none => -1
def cn (L : List Nt) (c : Int) : Nat := (L.filter (fun n => decide (n.core = c))).length
def cnT (L : List Nt) (c : Int) : Nat → Nat
  | 0 => 0
  | k + 1 => if (fnd L c k).isSome = true then cnT L c k + 1 else cnT L c k
structure Gd (C : Int) (T : Nat) (L : List Nt) : Prop where
  c1 : 1 ≤ C
  c8 : C ≤ 8
  rng : ∀ n ∈ L, 0 ≤ n.core ∧ n.core < C ∧ 0 ≤ n.task ∧ n.task < 24 ∧ 1 ≤ n.due ∧ n.due ≤ 9007199254741041 ∧ 1 ≤ n.turn ∧ n.turn ≤ T
  up : L.Pairwise (fun a b => a.turn < b.turn)
  one : One L
  len : L.length ≤ T
theorem byT_mem {C : Int} {T : Nat} {L : List Nt} (g : Gd C T L) (c now : Int) : ∀ (k : Nat) (n : Nt), n ∈ byT c now L k ↔ n ∈ L ∧ n.core = c ∧ n.due ≤ now ∧ n.task < k
  | 0, n => by
    simp only [byT, List.not_mem_nil, false_iff]
    rintro ⟨h1, h2, h3, h4⟩
    have := (g.rng n h1).2.2.1
    omega
  | k + 1, n => by
    have ih := byT_mem g c now k n
    unfold byT
    cases e : fnd L c k with
    | none =>
      show n ∈ byT c now L k ↔ _
      rw [ih]
      have := fnd_none.1 e
      constructor
      · rintro ⟨h1, h2, h3, h4⟩; exact ⟨h1, h2, h3, by omega⟩
      · rintro ⟨h1, h2, h3, h4⟩
        refine ⟨h1, h2, h3, ?_⟩
        have := this n h1
        have : ¬ n.task = k := fun e => this ⟨h2, e⟩
        omega
    | some m =>
      obtain ⟨m1, m2, m3⟩ := fnd_some e
      have key : n ∈ L → n.core = c → n.task = k → n = m := fun a b d => by
        have := (fnd_iff g.one).2 ⟨a, b, d⟩
        rw [e] at this; cases this; rfl
      show n ∈ (if m.due ≤ now then ins m (byT c now L k) else byT c now L k) ↔ _
      split
      · rename_i hd
        rw [ins_mem, ih]
        constructor
        · rintro (rfl | ⟨h1, h2, h3, h4⟩)
          · exact ⟨m1, m2, hd, by omega⟩
          · exact ⟨h1, h2, h3, by omega⟩
        · rintro ⟨h1, h2, h3, h4⟩
          by_cases e' : n.task = k
          · exact .inl (key h1 h2 e')
          · exact .inr ⟨h1, h2, h3, by omega⟩
      · rename_i hd
        rw [ih]
        constructor
        · rintro ⟨h1, h2, h3, h4⟩; exact ⟨h1, h2, h3, by omega⟩
        · rintro ⟨h1, h2, h3, h4⟩
          refine ⟨h1, h2, h3, ?_⟩
          have : ¬ n.task = k := fun e' => hd (key h1 h2 e' ▸ h3)
          omega
theorem turn_ne {L : List Nt} (h : L.Pairwise (fun a b => a.turn < b.turn)) {a b : Nt} (ha : a ∈ L) (hb : b ∈ L) (e : a.turn = b.turn) : a = b := by
  induction L with
  | nil => simp at ha
  | cons y r ih =>
    obtain ⟨h1, h2⟩ := List.pairwise_cons.1 h
    rcases List.mem_cons.1 ha with ea | ha
    · rcases List.mem_cons.1 hb with eb | hb
      · rw [ea, eb]
      · have := h1 b hb; rw [ea] at e; omega
    · rcases List.mem_cons.1 hb with eb | hb
      · have := h1 a ha; rw [eb] at e; omega
      · exact ih h2 ha hb
theorem byT_sorted {C : Int} {T : Nat} {L : List Nt} (g : Gd C T L) (c now : Int) : ∀ k, Srt (byT c now L k)
  | 0 => List.Pairwise.nil
  | k + 1 => by
    have ih := byT_sorted g c now k
    unfold byT
    cases e : fnd L c k with
    | none => exact ih
    | some m =>
      show Srt (if m.due ≤ now then ins m (byT c now L k) else byT c now L k)
      split
      · obtain ⟨m1, m2, m3⟩ := fnd_some e
        refine ins_sorted ih (fun y hy hh => ?_)
        obtain ⟨y1, y2, y3, y4⟩ := (byT_mem g c now k y).1 hy
        have := turn_ne g.up y1 m1 hh
        subst this
        omega
      · exact ih
theorem byT_len (c now : Int) (L : List Nt) : ∀ k, (byT c now L k).length ≤ k
  | 0 => Nat.le_refl _
  | k + 1 => by
    have ih := byT_len c now L k
    unfold byT
    cases fnd L c k with
    | none => show (byT c now L k).length ≤ _; omega
    | some m =>
      show (if m.due ≤ now then ins m (byT c now L k) else byT c now L k).length ≤ _
      split
      · rw [ins_length]; omega
      · omega
theorem snoc_ind {P : List Nt → Prop} (h0 : P []) (h1 : ∀ L x, P L → P (L ++ [x])) (L : List Nt) : P L := by
  have : ∀ M : List Nt, P M.reverse := fun M => by
    induction M with
    | nil => exact h0
    | cons a r ih => rw [List.reverse_cons]; exact h1 _ _ ih
  have := this L.reverse
  rwa [List.reverse_reverse] at this
theorem tk_inv (c now : Int) : ∀ (L : List Nt), L.Pairwise (fun a b => a.turn < b.turn) → Srt (tk c now L) ∧ ∀ y, y ∈ tk c now L ↔ y ∈ L ∧ y.core = c ∧ y.due ≤ now := by
  intro L
  induction L using snoc_ind with
  | h0 => intro _; exact ⟨List.Pairwise.nil, fun y => by simp [tk]⟩
  | h1 L x ih =>
    intro h
    obtain ⟨h1, _, h3⟩ := List.pairwise_append.1 h
    obtain ⟨i1, i2⟩ := ih h1
    rw [tk_snoc]
    split
    · rename_i hc
      refine ⟨ins_sorted i1 (fun y hy e => ?_), fun y => ?_⟩
      · have := h3 y ((i2 y).1 hy).1 x (by simp); omega
      · rw [ins_mem, i2, List.mem_append, List.mem_singleton]
        constructor
        · rintro (rfl | ⟨a, b, d⟩)
          · exact ⟨.inr rfl, hc⟩
          · exact ⟨.inl a, b, d⟩
        · rintro ⟨a | a, b⟩
          · exact .inr ⟨a, b⟩
          · exact .inl a
    · rename_i hc
      refine ⟨i1, fun y => ?_⟩
      rw [i2, List.mem_append, List.mem_singleton]
      constructor
      · rintro ⟨a, b⟩; exact ⟨.inl a, b⟩
      · rintro ⟨a | a, b⟩
        · exact ⟨a, b⟩
        · subst a; exact absurd b hc
theorem tk_mem {C : Int} {T : Nat} {L : List Nt} (g : Gd C T L) {c now : Int} {y : Nt} : y ∈ tk c now L ↔ y ∈ L ∧ y.core = c ∧ y.due ≤ now := (tk_inv c now L g.up).2 y
theorem byT_tk {C : Int} {T : Nat} {L : List Nt} (g : Gd C T L) (c now : Int) : byT c now L 24 = tk c now L := by
  obtain ⟨h1, h2⟩ := tk_inv c now L g.up
  refine srt_ext (byT_sorted g c now 24) h1 (fun y => ?_)
  rw [h2, byT_mem g]
  constructor
  · rintro ⟨a, b, d, _⟩; exact ⟨a, b, d⟩
  · rintro ⟨a, b, d⟩; exact ⟨a, b, d, (g.rng y a).2.2.2.1⟩
theorem tk_len (c now : Int) (L : List Nt) : (tk c now L).length = (L.filter (fun n => decide (n.core = c ∧ n.due ≤ now))).length := by
  induction L using snoc_ind with
  | h0 => rfl
  | h1 L x ih =>
    rw [tk_snoc, List.filter_append, List.length_append]
    by_cases h : x.core = c ∧ x.due ≤ now
    · rw [if_pos h, ins_length, ih]; simp [h]
    · rw [if_neg h, ih]; simp [h]
theorem tk_le (c now : Int) (L : List Nt) : (tk c now L).length ≤ L.length := by rw [tk_len]; exact List.length_filter_le _ _
theorem cnT_byT {C : Int} {T : Nat} {L : List Nt} (g : Gd C T L) (c : Int) : ∀ k, cnT L c k = (byT c 9007199254741041 L k).length
  | 0 => rfl
  | k + 1 => by
    have ih := cnT_byT g c k
    unfold cnT byT
    cases e : fnd L c k with
    | none => simpa using ih
    | some m =>
      have := (g.rng m (fnd_some e).1).2.2.2.2.2.1
      simp only [Option.isSome_some, if_true]
      rw [if_pos this, ins_length, ih]
theorem cnT_le (L : List Nt) (c : Int) : ∀ k, cnT L c k ≤ k
  | 0 => Nat.le_refl _
  | k + 1 => by
    have := cnT_le L c k
    unfold cnT; split <;> omega
theorem cnT_cn {C : Int} {T : Nat} {L : List Nt} (g : Gd C T L) (c : Int) : cnT L c 24 = cn L c := by
  rw [cnT_byT g, byT_tk g, tk_len]
  unfold cn
  congr 1
  refine List.filter_congr (fun n hn => ?_)
  have := (g.rng n hn).2.2.2.2.2.1
  simp [this]
def wi (l : Int) : Int := if l < 1 then 1 else if 50 < l then 50 else l
theorem wi_rng (l : Int) : 1 ≤ wi l ∧ wi l ≤ 50 := by
  unfold wi; split
  · omega
  · split <;> omega
theorem Gd.nil {C : Int} (h1 : 1 ≤ C) (h8 : C ≤ 8) : Gd C 0 [] := ⟨h1, h8, by simp, List.Pairwise.nil, List.Pairwise.nil, Nat.le_refl _⟩
theorem Gd.lf {C : Int} {T : Nat} {L : List Nt} (g : Gd C T L) (c now : Int) : Gd C T (lf c now L) :=
  ⟨g.c1, g.c8, fun n hn => g.rng n (lf_mem.1 hn).1, g.up.filter _, lf_one g.one, Nat.le_trans (List.length_filter_le _ _) g.len⟩
theorem Gd.snoc {C : Int} {T : Nat} {L : List Nt} (g : Gd C T L) {c t now l : Int} (hc : 0 ≤ c ∧ c < C) (ht : 0 ≤ t ∧ t < 24) (hn : 0 ≤ now ∧ now ≤ 9007199254740991) (hf : fnd L c t = none) : Gd C (T + 1) (L ++ [⟨c, t, now + wi l, ((T + 1 : Nat) : Int)⟩]) := by
  have hw := wi_rng l
  refine ⟨g.c1, g.c8, fun n hn' => ?_, ?_, ?_, ?_⟩
  · rcases List.mem_append.1 hn' with h | h
    · have := g.rng n h; omega
    · rw [List.mem_singleton] at h; subst h; dsimp only; omega
  · refine List.pairwise_append.2 ⟨g.up, by simp, fun a ha b hb => ?_⟩
    rw [List.mem_singleton] at hb; subst hb
    have := (g.rng a ha).2.2.2.2.2.2.2
    dsimp only; omega
  · refine List.pairwise_append.2 ⟨g.one, by simp, fun a ha b hb => ?_⟩
    rw [List.mem_singleton] at hb; subst hb
    exact fnd_none.1 hf a ha
  · have := g.len; simp; omega
theorem dueOf_has {C : Int} {T : Nat} {L : List Nt} (g : Gd C T L) (c t : Int) : 0 ≤ dueOf L c t ↔ (fnd L c t).isSome = true := by
  unfold dueOf
  cases e : fnd L c t with
  | none => simp
  | some n =>
    have := (g.rng n (fnd_some e).1).2.2.2.2.1
    simp; omega
end Go.Proofs.Ytmfjlfemeihchaa
