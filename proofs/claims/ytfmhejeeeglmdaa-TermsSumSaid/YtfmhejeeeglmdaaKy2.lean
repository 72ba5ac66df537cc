/- Maps of a call's own whose keys are structs of two numbers. -/
import Derived.Test.YtfmhejeeeglmdaaBase
import Derived.DeepKeys4
import Derived.Maps.OwnSet
import Derived.Maps.OwnOps
namespace Go.Proofs.Ytfmhejeeeglmdaa.ky2
open Go.ChangeShapes Go.WideShapes Go.ChangeAt Go.RowKit
theorem row : (44 : TypeId) < Try.prog.types.size := of_decide_eq_true (by kernel_rfl)
theorem wide : (match Try.prog.underlying 44 with | some (.array _ _) | some (.struct _) => true | _ => false) = true := by kernel_rfl
theorem law : WideMaps.KeyLaw Try.prog 44 := deep_law_laid laidOut (m := 2) (by omega) row (by kernel_rfl) wide
theorem keyed : Maps.Keyed Try.prog 44 := Maps.Keyed.of_law law
theorem deep : Try.prog.keyType 44 = true := by kernel_rfl
theorem sizes : ∃ m, Try.prog.types.size = m + 1 := ⟨Try.prog.types.size - 1, (Nat.succ_pred_eq_of_pos (Nat.lt_of_le_of_lt (Nat.zero_le _) row)).symm⟩
theorem cells2 : Try.prog.cellsOf 44 = 2 := by kernel_rfl
theorem cells1 : Try.prog.cellsOf 3 = 1 := by kernel_rfl
def kp (a b : Int) : Lit := .string (keyBytes [.int .i64 a, .int .i64 b])
theorem keyOf_two {a b : Int} (ha : (Lit.int .i64 a).wf = true) (hb : (Lit.int .i64 b).wf = true) : keyOf Try.prog 44 (.agg #[.int .i64 a, .int .i64 b]) = some (kp a b) := by
  obtain ⟨m, hm⟩ := sizes
  have hf : (Value.agg #[.int .i64 a, .int .i64 b]).formed Try.prog 44 = true := by simp [Value.formed, Try.underlying44, cells2]
  unfold keyOf
  simp only [Try.underlying44]
  rw [if_pos (by simp [deep, hf]), hm]
  unfold Program.keyLits kp
  simp [Try.underlying44, Value.cells, cells2, cells1, Program.keyLits, Try.underlying3, ha, hb]
theorem kp_ne {a b c d : Int} (ha : inR a) (hb : inR b) (hc : inR c) (hd : inR d) (h : a ≠ c ∨ b ≠ d) : kp a b ≠ kp c d := by
  intro e
  have h1 := keyOf_two (wf_of ha) (wf_of hb)
  have h2 := keyOf_two (wf_of hc) (wf_of hd)
  rw [e] at h1
  have := keyed.inj h1 h2
  simp at this
  rcases h with h | h
  · exact h this.1
  · exact h this.2
theorem kp_key (a b : Int) : WideAt.IsKeyLit (kp a b) := trivial
abbrev OM (w : World) (m N : Nat) (D : DataW Unit) : Prop := w.ownsMap Try.prog 44 (plainElem Try.prog 3) m N D
theorem OM.norm {w : World} {m N : Nat} {D : DataW Unit} (h : OM w m N D) : OM w m (Maps.size D) D := by
  obtain ⟨es, clock, h1, h2, h3, h4⟩ := h
  refine ⟨es, clock, h1, h2, ?_, h4⟩
  rw [h4]
  show es.size ≤ _
  rw [Maps.size_eq, length_read]; exact Nat.le_refl _
theorem OM.but {w w' : World} {m N : Nat} {D : DataW Unit} {S : Nat → Prop} (h : OM w m N D) (hb : But S w w') (hs : ¬ S m) : OM w' m N D := by
  have hl := World.ownsMap.lt h
  obtain ⟨es, clock, h1, h2⟩ := h
  exact ⟨es, clock, by rw [hb.block m hl hs]; exact h1, h2⟩
theorem _root_.Go.Proofs.Ytfmhejeeeglmdaa.But.turnedK {S : Nat → Prop} {a b c : World} {m : Nat} (h : But S a b) (ht : b.mapTurned c m) (hm : S m) : But S a c :=
  h.grown ht.grown (fun k e => .inl (by cases e; exact hm))
theorem zero3 (w : World) : (zeroValue 3).run Try.prog w = .ok (.int .i64 0) w := by kernel_rfl
def vl (a : Int) : DataW Unit := .lit (.int .i64 a)
theorem at_eq {D : DataW Unit} {k : Lit} {z : DataW Unit} {c i : Int} (h : D.atKey k z = .lit (.int .i64 c)) (h' : ∀ z, D.atKey k z = vl i) : c = i := by
  have := h.symm.trans (h' z)
  unfold vl at this
  cases this; rfl
end Go.Proofs.Ytfmhejeeeglmdaa.ky2
