/- Chains of timers as they lie in memory, and what stores make of them. -/
import Derived.Test.YtfejnokljddomaaBase
import Derived.Test.YtfejnokljddomaaM
namespace Go.Proofs.Ytfejnokljddomaa
open Go.ChangeShapes Go.WideShapes Go.ChangeAt Go.RowKit Go.Deep
def fp (l : List Nd) (e : Option Addr) : Option Addr :=
  match l with
  | [] => e
  | y :: _ => some ⟨y.b, 0, none⟩
def ndc (x : Nd) (e : Option Addr) : Array Value := #[.int .i64 x.id, .int .i64 x.gap, .pointer e]
/-- Links one behind the other, the last one's next one is e. -/
def Seg (w : World) (e : Option Addr) : List Nd → Prop
  | [] => True
  | x :: t => Blk w x.b (ndc x (fp t e)) 52 ∧ Seg w e t
theorem fp_append (A B : List Nd) (e : Option Addr) : fp (A ++ B) e = fp A (fp B e) := by cases A <;> rfl
theorem seg_append {w : World} {e : Option Addr} {A B : List Nd} : Seg w e (A ++ B) ↔ Seg w (fp B e) A ∧ Seg w e B := by
  induction A with
  | nil => simp [Seg]
  | cons x t ih =>
    simp only [List.cons_append, Seg, ih, fp_append, and_assoc]
theorem Seg.but {w w' : World} {e : Option Addr} {l : List Nd} {S : Nat → Prop} (h : Seg w e l) (hb : But S w w') (hs : ∀ z ∈ l, ¬ S z.b) : Seg w' e l := by
  induction l with
  | nil => trivial
  | cons x t ih => exact ⟨h.1.but hb (hs x (by simp)), ih h.2 (fun z hz => hs z (by simp [hz]))⟩
theorem Seg.lt {w : World} {e : Option Addr} {l : List Nd} (h : Seg w e l) : ∀ z ∈ l, z.b < w.heap.size := by
  induction l with
  | nil => simp
  | cons x t ih =>
    intro z hz
    rcases List.mem_cons.1 hz with rfl | hz
    · exact h.1.lt
    · exact ih h.2 z hz
def hdn (h : Nat) : Nd := ⟨h, 0, 0⟩
/-- A list of timers: its own block, its head, its links. -/
structure Cn (w : World) (p : Nat) (R : Int) (n h : Nat) (N : List Nd) : Prop where
  hp : Blk w p #[.int .i64 R, .int .i64 n, .pointer (some ⟨h, 0, none⟩)] 54
  sg : Seg w none (hdn h :: N)
  nd : (p :: (hdn h :: N).map Nd.b).Nodup
def Own (p h : Nat) (N : List Nd) : Nat → Prop := fun k => k ∈ p :: (hdn h :: N).map Nd.b
theorem Cn.but {w w' : World} {p : Nat} {R : Int} {n h : Nat} {N : List Nd} {S : Nat → Prop} (c : Cn w p R n h N) (hb : But S w w') (hs : ∀ k, Own p h N k → ¬ S k) : Cn w' p R n h N :=
  ⟨c.hp.but hb (hs p (List.mem_cons_self ..)), c.sg.but hb (fun _ hz => hs _ (List.mem_cons_of_mem _ (List.mem_map_of_mem hz))), c.nd⟩
theorem Cn.no {w w' : World} {p : Nat} {R : Int} {n h : Nat} {N : List Nd} (c : Cn w p R n h N) (hb : But No w w') : Cn w' p R n h N := c.but hb (fun _ _ f => f)
theorem Cn.lt {w : World} {p : Nat} {R : Int} {n h : Nat} {N : List Nd} (c : Cn w p R n h N) : ∀ k, Own p h N k → k < w.heap.size := by
  intro k hk
  rcases List.mem_cons.1 hk with rfl | hk
  · exact c.hp.lt
  · obtain ⟨z, hz, rfl⟩ := List.mem_map.1 hk
    exact c.sg.lt z hz
/-- What lies apart, at a place of the chain. -/
structure Apart (p : Nat) (A : List Nd) (x : Nd) (B : List Nd) : Prop where
  px : p ≠ x.b
  pA : ∀ z ∈ A, z.b ≠ p
  pB : ∀ z ∈ B, z.b ≠ p
  xA : ∀ z ∈ A, z.b ≠ x.b
  xB : ∀ z ∈ B, z.b ≠ x.b
  AB : ∀ z ∈ A, ∀ u ∈ B, z.b ≠ u.b
  nB : (B.map Nd.b).Nodup
  nA : (A.map Nd.b).Nodup
theorem apart_iff {p : Nat} {A : List Nd} {x : Nd} {B : List Nd} : (p :: (A ++ x :: B).map Nd.b).Nodup ↔ Apart p A x B := by
  constructor
  · intro h
    simp only [List.map_append, List.map_cons, List.nodup_cons, List.nodup_append, List.mem_append, List.mem_cons, List.mem_map, not_or, not_exists, not_and] at h
    obtain ⟨⟨h1, h2, h3⟩, h4, ⟨h5, h6⟩, h7⟩ := h
    exact ⟨h2, h1, h3, fun z hz => h7 z.b ⟨z, hz, rfl⟩ x.b (.inl rfl), h5, fun z hz u hu => h7 z.b ⟨z, hz, rfl⟩ u.b (.inr ⟨u, hu, rfl⟩), h6, h4⟩
  · intro h
    simp only [List.map_append, List.map_cons, List.nodup_cons, List.nodup_append, List.mem_append, List.mem_cons, List.mem_map, not_or, not_exists, not_and]
    refine ⟨⟨h.pA, h.px, h.pB⟩, h.nA, ⟨h.xB, h.nB⟩, ?_⟩
    rintro a ⟨z, hz, rfl⟩ b (rfl | ⟨u, hu, rfl⟩)
    · exact h.xA z hz
    · exact h.AB z hz u hu
section
variable {w w' : World} {p : Nat} {R : Int} {n h : Nat} {A P B C : List Nd} {x y : Nd}
theorem chain_eq (hP : hdn h :: P = A ++ [x]) (B : List Nd) : hdn h :: (P ++ B) = A ++ x :: B := by
  rw [← List.cons_append, hP]; simp
theorem Cn.apart (c : Cn w p R n h (P ++ B)) (hP : hdn h :: P = A ++ [x]) : Apart p A x B := by
  have := c.nd
  rw [chain_eq hP] at this
  exact apart_iff.1 this
theorem Cn.parts (c : Cn w p R n h (P ++ B)) (hP : hdn h :: P = A ++ [x]) : Seg w (some ⟨x.b, 0, none⟩) A ∧ Blk w x.b (ndc x (fp B none)) 52 ∧ Seg w none B := by
  have := c.sg
  rw [chain_eq hP, seg_append] at this
  exact ⟨this.1, this.2.1, this.2.2⟩
theorem Cn.mk' (hp : Blk w' p #[.int .i64 R, .int .i64 n, .pointer (some ⟨h, 0, none⟩)] 54) (hP : hdn h :: P = A ++ [x]) (sA : Seg w' (some ⟨x.b, 0, none⟩) A) (bx : Blk w' x.b (ndc x (fp B none)) 52) (sB : Seg w' none B) (ap : Apart p A x B) : Cn w' p R n h (P ++ B) := by
  refine ⟨hp, ?_, ?_⟩
  · rw [chain_eq hP, seg_append]; exact ⟨sA, bx, sB⟩
  · rw [chain_eq hP]; exact apart_iff.2 ap
end
def Three (a b c : Nat) : Nat → Prop := fun k => k = a ∨ k = b ∨ k = c
theorem fp_bump (g : Int) (B : List Nd) (e : Option Addr) : fp (bump g B) e = fp B e := by cases B <;> rfl
theorem bump_mem {g : Int} {B : List Nd} {z : Nd} (h : z ∈ bump g B) : ∃ u ∈ B, u.b = z.b := by
  have : z.b ∈ (bump g B).map Nd.b := List.mem_map_of_mem h
  rw [bump_b] at this
  obtain ⟨u, hu, e⟩ := List.mem_map.1 this
  exact ⟨u, hu, e⟩
/-- Behind x comes another chain: the blocks are told, all else stays. -/
theorem Cn.turn {w w' : World} {p : Nat} {R : Int} {n n' h : Nat} {A P B B' : List Nd} {x : Nd} {S : Nat → Prop} (c : Cn w p R n h (P ++ B)) (hP : hdn h :: P = A ++ [x]) (hb : But S w w') (hS : ∀ z ∈ A, ¬ S z.b)
    (hp : Blk w' p #[.int .i64 R, .int .i64 n', .pointer (some ⟨h, 0, none⟩)] 54) (bx : Blk w' x.b (ndc x (fp B' none)) 52) (sB : Seg w' none B')
    (nB : (B'.map Nd.b).Nodup) (hB : ∀ z ∈ B', (∃ u ∈ B, u.b = z.b) ∨ w.heap.size ≤ z.b) : Cn w' p R n' h (P ++ B') := by
  have ap := c.apart hP
  have pt := c.parts hP
  refine Cn.mk' hp hP (pt.1.but hb hS) bx sB ⟨ap.px, ap.pA, fun z hz e => ?_, ap.xA, fun z hz e => ?_, fun z hz u hu e => ?_, nB, ap.nA⟩
  · rcases hB z hz with ⟨u, hu, e'⟩ | h1
    · exact ap.pB u hu (by rw [e', e])
    · have := c.hp.lt; omega
  · rcases hB z hz with ⟨u, hu, e'⟩ | h1
    · exact ap.xB u hu (by rw [e', e])
    · have := pt.2.1.lt; omega
  · rcases hB u hu with ⟨v, hv, e'⟩ | h1
    · exact ap.AB z hz v hv (by rw [e', e])
    · have := pt.1.lt z hz; omega
end Go.Proofs.Ytfejnokljddomaa
