/- A row of rows of numbers, each row of its own. -/
import Derived.Test.YtimkdcpghhkloaaD
namespace Go.Proofs.Ytimkdcpghhkloaa
open Go.ChangeShapes Go.WideShapes Go.ChangeAt Go.RowKit Go.Deep
open lok
theorem Ov.lt {w : World} {v : Value} {zs : List Int} (h : Ov w v zs) {k : Nat} (hk : v.ownBlock = some k) : k < w.heap.size := (World.ownsRow.lt h k hk).2
def Ro (b n : Nat) (v : Nat → Value) (k : Nat) : Prop := k = b ∨ ∃ r, r < n ∧ (v r).ownBlock = some k
structure RoR (w : World) (b n : Nat) (v : Nat → Value) (l : Nat → List Int) : Prop where
  row : Vals w b 41 n v
  own : ∀ r, r < n → Ov w (v r) (l r)
  nb : ∀ r k, r < n → (v r).ownBlock = some k → k ≠ b
  dis : ∀ r s k, r < n → s < n → (v r).ownBlock = some k → (v s).ownBlock = some k → r = s
def updv (v : Nat → Value) (r : Nat) (u : Value) : Nat → Value := fun k => if k = r then u else v k
section
variable {w w' w2 : World} {b n r : Nat} {v : Nat → Value} {l : Nat → List Int} {S : Nat → Prop}
theorem RoR.but (h : RoR w b n v l) (hb : But S w w') (hs : ∀ k, Ro b n v k → ¬ S k) : RoR w' b n v l :=
  ⟨h.row.but hb (hs b (.inl rfl)), fun r hr => (h.own r hr).but hb (fun k hk => hs k (.inr ⟨r, hr, hk⟩)), h.nb, h.dis⟩
theorem RoR.no (h : RoR w b n v l) (hb : But No w w') : RoR w' b n v l := h.but hb (fun _ _ f => f)
theorem RoR.lt (h : RoR w b n v l) : ∀ k, Ro b n v k → k < w.heap.size := by
  rintro k (rfl | ⟨r, hr, hk⟩)
  · exact h.row.lt
  · exact (h.own r hr).lt hk
theorem RoR.cell (h : RoR w b n v l) (hr : r < n) : w.cell? ⟨b, r, none⟩ = some (v r) := h.row.cell hr
theorem RoR.frozen (h : RoR w b n v l) (k : Nat) : w.frozen? ⟨b, k, none⟩ = false := Vals.frozen h.row k
theorem RoR.slice (h : RoR w b n v l) (hr : r < n) : ∃ A c, v r = .slice A (l r).length c ∧ (l r).length ≤ c := (h.own r hr).slice
theorem RoR.put (h : RoR w b n v l) (hr : r < n) {u : Value} {zs : List Int} (hb : But (fun k => (v r).ownBlock = some k) w w2) (ho : Ov w2 u zs) (hn : ∀ k, u.ownBlock = some k → (v r).ownBlock = some k ∨ w.heap.size ≤ k) :
    RoR (w2.setCell ⟨b, r, none⟩ u) b n (updv v r u) (upd l r zs) ∧ But (Ro b n v) w (w2.setCell ⟨b, r, none⟩ u) ∧ ∀ k, Ro b n (updv v r u) k → Ro b n v k ∨ w.heap.size ≤ k := by
  have hB : But (Just b) w2 (w2.setCell ⟨b, r, none⟩ u) := (But.refl _ w2).setCell (p := ⟨b, r, none⟩) (just b) _
  have hbl := h.row.lt
  have hu : ∀ k, u.ownBlock = some k → k ≠ b := fun k hk e => by
    rcases hn k hk with e' | e'
    · exact h.nb r k hr e' e
    · omega
  have hrow : Vals w2 b 41 n v := h.row.but hb (fun e => h.nb r b hr e rfl)
  refine ⟨⟨?_, ?_, ?_, ?_⟩, ?_, ?_⟩
  · refine (hrow.set (k := r) u).congr fun j hj => rfl
  · intro s hs
    unfold updv upd
    by_cases e : s = r
    · rw [if_pos e, if_pos e]; exact ho.but hB (fun k hk e' => hu k hk e')
    · rw [if_neg e, if_neg e]
      exact ((h.own s hs).but hb (fun k hk e' => e (h.dis s r k hs hr hk e'))).but hB (fun k hk e' => h.nb s k hs hk e')
  · intro s k hs hk
    unfold updv at hk
    by_cases e : s = r
    · rw [if_pos e] at hk; exact hu k hk
    · rw [if_neg e] at hk; exact h.nb s k hs hk
  · intro s t k hs ht hk hk'
    unfold updv at hk hk'
    by_cases e : s = r <;> by_cases e' : t = r
    · omega
    · rw [if_pos e] at hk
      rw [if_neg e'] at hk'
      rcases hn k hk with c | c
      · exact absurd (h.dis t r k ht hr hk' c) e'
      · have := (h.own t ht).lt hk'; omega
    · rw [if_neg e] at hk
      rw [if_pos e'] at hk'
      rcases hn k hk' with c | c
      · exact absurd (h.dis s r k hs hr hk c) e
      · have := (h.own s hs).lt hk; omega
    · rw [if_neg e] at hk
      rw [if_neg e'] at hk'
      exact h.dis s t k hs ht hk hk'
  · exact (hb.mono (fun k _ hk => .inr ⟨r, hr, hk⟩)).andThen hB (fun k hk => .inl (.inl hk))
  · rintro k (rfl | ⟨s, hs, hk⟩)
    · exact .inl (.inl rfl)
    · unfold updv at hk
      by_cases e : s = r
      · rw [if_pos e] at hk
        exact (hn k hk).imp (fun c => .inr ⟨r, hr, c⟩) id
      · rw [if_neg e] at hk; exact .inl (.inr ⟨s, hs, hk⟩)
/-- The row after an append. -/
theorem RoR.app (h : RoR w b n v l) (hr : r < n) {x : Int} {A' : Option Addr} {c' : Nat}
    (ho : w2.ownsRow 0 3 1 (.slice A' ((l r).length + 1) c') ((l r).length + 1) ((l r).map (Value.int .i64) ++ [.int .i64 x])) (hg : (w.alloc (.cells #[.int .i64 x] 3)).grownBy w2 (v r).ownBlock)
    (hat : (Value.slice A' ((l r).length + 1) c').ownBlock = (v r).ownBlock ∨ (Value.slice A' ((l r).length + 1) c').ownBlock = some (w.alloc (.cells #[.int .i64 x] 3)).heap.size) :
    RoR (w2.setCell ⟨b, r, none⟩ (.slice A' ((l r).length + 1) c')) b n (updv v r (.slice A' ((l r).length + 1) c')) (upd l r (l r ++ [x])) ∧ But (Ro b n v) w (w2.setCell ⟨b, r, none⟩ (.slice A' ((l r).length + 1) c')) ∧ ∀ k, Ro b n (updv v r (.slice A' ((l r).length + 1) c')) k → Ro b n v k ∨ w.heap.size ≤ k := by
  refine h.put hr (((But.refl _ w).alloc _).grown hg (fun k e => .inl e)) ?_ ?_
  · unfold Ov; rw [List.length_append, List.map_append]; exact ho
  · intro k hk
    rcases hat with e | e
    · exact .inl (by rw [← e]; exact hk)
    · rw [hk] at e; cases e; exact .inr (by rw [size_alloc1]; omega)
theorem RoR.made (h : Vals w b 41 n (fun _ => .slice none 0 0)) : RoR w b n (fun _ => .slice none 0 0) (fun _ => []) :=
  ⟨h, fun r hr => Ov.nil w, fun r k _ hk => by simp [Value.ownBlock] at hk, fun r s k _ _ hk _ => by simp [Value.ownBlock] at hk⟩
theorem RoR.own_alloc (h : RoR w b n v l) (hr : r < n) (o : Obj) : (w.alloc o).ownsRow 0 3 1 (v r) (l r).length ((l r).map (Value.int .i64)) := (h.own r hr).but (S := No) ((But.refl _ w).alloc o) (fun _ _ f => f)
end
theorem info41 : (Try.prog.info? 41).map (fun i => (i.zero, i.size, i.bytes)) = some (some (.slice none 0 0), 1, 24) := by kernel_rfl
end Go.Proofs.Ytimkdcpghhkloaa
