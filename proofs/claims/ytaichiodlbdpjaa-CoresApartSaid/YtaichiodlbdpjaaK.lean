/- Cores of costs that were made right, and the costs' block beside them. -/
import Derived.Test.YtaichiodlbdpjaaDc
namespace Go.Proofs.Ytaichiodlbdpjaa
open Go.ChangeShapes Go.WideShapes Go.ChangeAt Go.RowKit Go.Deep
def cells3c (C : Cs) : Array Value := #[.int .i64 C.a, .int .i64 C.b, .int .i64 C.c]
/-- The cores, and beside them the costs. -/
structure Px (w wr : World) (S : Nat → Prop) (p n : Nat) (C : Cs) (f : Nat → St) (bx : Nat) : Prop where
  hw : Hw w wr S p n C f
  bk : Blk wr bx (cells3c C) 26
  nb : ¬ S bx
theorem Px.no {w wr w2 : World} {S : Nat → Prop} {p n bx : Nat} {C : Cs} {f : Nat → St} (h : Px w wr S p n C f bx) (hb : But No wr w2) : Px w w2 S p n C f bx :=
  ⟨h.hw.no hb, h.bk.but hb (fun x => x), h.nb⟩
theorem Px.step {w wr w2 : World} {S : Nat → Prop} {p n bx : Nat} {C : Cs} {f g : Nat → St} (h : Px w wr S p n C f bx) (hm : Mv wr S p n C g w2) : Px w w2 S p n C g bx :=
  ⟨h.hw.step hm, h.bk.but hm.2 h.nb, h.nb⟩
theorem Px.cost {w wr : World} {S : Nat → Prop} {p n bx : Nat} {C : Cs} {f : Nat → St} (h : Px w wr S p n C f bx) {j : Nat} (hj : j < 3) : wr.cell? ⟨bx, j, none⟩ = some (.int .i64 (cost C (j + 1))) := by
  have h1 := h.bk
  obtain rfl | rfl | rfl : j = 0 ∨ j = 1 ∨ j = 2 := by omega
  · exact h1.cell rfl
  · exact h1.cell rfl
  · exact h1.cell rfl
/-- No core owes more than B, or less than nothing. -/
def Bd (f : Nat → St) (B : Int) : Prop := ∀ j, 0 ≤ (f j).o ∧ (f j).o ≤ B
theorem Bd.mono {f : Nat → St} {B B' : Int} (h : Bd f B) (hB : B ≤ B') : Bd f B' := fun j => ⟨(h j).1, Int.le_trans (h j).2 hB⟩
theorem Bd.upd {f : Nat → St} {B v : Int} (h : Bd f B) (y : Nat) (l s : Int) (h0 : 0 ≤ v) (h1 : v ≤ B) : Bd (upd f y ⟨v, l, s⟩) B := by
  intro j
  unfold Ytaichiodlbdpjaa.upd
  by_cases e : j = y
  · rw [if_pos e]; exact ⟨h0, h1⟩
  · rw [if_neg e]; exact h j
theorem upd_same (f : Nat → St) (y : Nat) (s : St) : upd f y s y = s := if_pos rfl
theorem upd_other (f : Nat → St) {y j : Nat} (s : St) (h : j ≠ y) : upd f y s j = f j := if_neg h
theorem pkn (c : Int) (n : Nat) (h : 0 < n) : ∃ k : Nat, pk c n = k ∧ k < n := by
  have := pk_lt c n (by omega)
  exact ⟨(pk c n).toNat, by omega, by omega⟩
theorem pk_fit {c : Int} : 0 ≤ pk c 51 ∧ pk c 51 ≤ 50 := by
  have := pk_lt c 51 (by omega); omega
end Go.Proofs.Ytaichiodlbdpjaa
