/- What stays of sets in memory, step by step. -/
import Derived.Test.YtgocjgipigjhbaaE
namespace Go.Proofs.Ytgocjgipigjhbaa
open Go.ChangeShapes Go.WideShapes Go.ChangeAt Go.RowKit
abbrev F4 (w : World) (b : Nat) (s : Q) : Prop := w.cell? ⟨b, 0, none⟩ = some (.int .u64 s.a) ∧ w.cell? ⟨b, 1, none⟩ = some (.int .u64 s.b) ∧ w.cell? ⟨b, 2, none⟩ = some (.int .u64 s.c) ∧ w.cell? ⟨b, 3, none⟩ = some (.int .u64 s.d)
theorem Blk.four {w : World} {b : Nat} {s : Q} {e : TypeId} (h : Blk w b (cells4 s) e) : F4 w b s := ⟨h.cell (o := 0) rfl, h.cell (o := 1) rfl, h.cell (o := 2) rfl, h.cell (o := 3) rfl⟩
theorem cell_keep {w1 w2 : World} {b o : Nat} {v : Value} (h : w1.cell? ⟨b, o, none⟩ = some v) (hb : But No w1 w2) : w2.cell? ⟨b, o, none⟩ = some v := by
  rw [hb.cell (World.block_lt_of_cell? w1 _ h) (fun f => f)]; exact h
theorem keep4 {w1 w2 : World} {b : Nat} {s : Q} (h : F4 w1 b s) (hb : But No w1 w2) : F4 w2 b s := ⟨cell_keep h.1 hb, cell_keep h.2.1 hb, cell_keep h.2.2.1 hb, cell_keep h.2.2.2 hb⟩
theorem keepA {w w1 w2 : World} {b : Nat} {s : Q} (h : F4 w1 b s ∧ But No w w1) (hb : But No w1 w2) : F4 w2 b s ∧ But No w w2 := ⟨keep4 h.1 hb, h.2.trans hb⟩
theorem keepB {w w1 w2 : World} {b c : Nat} {s t : Q} (h : F4 w1 b s ∧ F4 w1 c t ∧ But No w w1) (hb : But No w1 w2) : F4 w2 b s ∧ F4 w2 c t ∧ But No w w2 := ⟨keep4 h.1 hb, keep4 h.2.1 hb, h.2.2.trans hb⟩
theorem keepD {w w1 w2 : World} {b c d e : Nat} {s t u v : Q} (h : F4 w1 b s ∧ F4 w1 c t ∧ F4 w1 d u ∧ F4 w1 e v ∧ But No w w1) (hb : But No w1 w2) : F4 w2 b s ∧ F4 w2 c t ∧ F4 w2 d u ∧ F4 w2 e v ∧ But No w w2 :=
  ⟨keep4 h.1 hb, keep4 h.2.1 hb, keep4 h.2.2.1 hb, keep4 h.2.2.2.1 hb, h.2.2.2.2.trans hb⟩
end Go.Proofs.Ytgocjgipigjhbaa
