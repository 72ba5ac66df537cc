/- Contracts of the calls of layer 1 that only compute. -/
import Derived.Test.YtnjkgalbbhmgjaaRows
import Derived.Test.YtnjkgalbbhmgjaaQaQ
import Derived.WalkKit
import Derived.ProofKit
import Derived.OpenShut
import Derived.Lib.Hide
import Derived.Below
import Derived.LoopN
namespace Go.Proofs.Ytnjkgalbbhmgjaa.qar
set_option linter.unusedSimpArgs false
open Go.ChangeShapes Go.WideShapes Go.ChangeAt Go.RowKit
theorem ret2 {a b c d : Int} (h : a = c) (k : b = d) : Ending.returned (.tuple #[.int .i64 a, .int .i64 b]) = .returned (.tuple #[.int .i64 c, .int .i64 d]) := by rw [h, k]

theorem radd_any (a b : Int) (ha : inR a) (hb : inR b) (w : World) :
    Calls Try.prog 28 #[.int .i64 a, .int .i64 b] w fun e w' => e = .returned (.tuple #[.int .i64 (exV (a + b)), .int .i64 (exE (a + b))]) ∧ w = w' := by
  unfold inR at ha hb
  obtain ⟨ha1, ha2⟩ := ha
  obtain ⟨hb1, hb2⟩ := hb
  by_cases hb0 : b < 0
  · by_cases h1 : a + b < -9223372036854775808
    all_goals
      go_enter Try.func28, Try.ntmps28
      go_wp2
      all_goals
        go_ret2
        refine ⟨ret2 (eqV ?_ ?_) (eqE ?_ ?_), rfl⟩ <;> simp [wrap64, inR] at * <;> omega
  · by_cases h1 : a + b < 9223372036854775808
    all_goals
      by_cases hb1 : 0 < b
      all_goals
        go_enter Try.func28, Try.ntmps28
        go_wp2
        all_goals
          go_ret2
          refine ⟨ret2 (eqV ?_ ?_) (eqE ?_ ?_), rfl⟩ <;> simp [wrap64, inR] at * <;> omega

/-- Nothing that was there has changed; new blocks of cells may have come. -/
structure Grew (a b : World) : Prop where
  below : Below a.heap.size a b
  grown : Grown a b
/-- As Base says it. -/
theorem Grew.butNo {a b : World} (h : Grew a b) : But No a b := ⟨h.below.os, h.below.tape, h.below.output, h.below.size, fun k hk _ => h.below.block k hk⟩
theorem Grew.refl (w : World) : Grew w w := ⟨Below.refl _ _, Grown.refl _⟩
theorem Grew.trans {a b c : World} (h : Grew a b) (k : Grew b c) : Grew a c :=
  ⟨h.below.trans (k.below.mono h.below.size), World.keptBut_trans h.grown.1 k.grown.1, fun x => (k.grown.2.1 x).trans (h.grown.2.1 x), Nat.le_trans h.grown.2.2 k.grown.2.2⟩
theorem Grew.alloc {a w : World} (h : Grew a w) (c : Array Value) (t : TypeId) : Grew a (w.alloc (.cells c t)) := ⟨h.below.alloc h.below.size _, h.grown.alloc c t⟩
theorem Grew.setCell {a w : World} (h : Grew a w) {p : Addr} (hp : a.heap.size ≤ p.block) (u : Value) : Grew a (w.setCell p u) := ⟨h.below.setCell hp u, h.grown.setCell hp u⟩
theorem Grew.drew {a w : World} (h : Grew a w) : Grew a w.drew := ⟨h.below.drew, h.grown.drew⟩
theorem Grew.size {a w : World} (h : Grew a w) : a.heap.size ≤ w.heap.size := h.below.size
theorem Grew.cells {W w1 : World} (hb : Grew W w1) : ∀ b o, b < W.heap.size → w1.cell? ⟨b, o, none⟩ = W.cell? ⟨b, o, none⟩ := fun b o h => hb.below.cell (p := ⟨b, o, none⟩) h
theorem Grew.marks {W w1 : World} (hb : Grew W w1) : ∀ b o, b < W.heap.size → w1.frozen? ⟨b, o, none⟩ = W.frozen? ⟨b, o, none⟩ := fun b o h => hb.below.frozen (p := ⟨b, o, none⟩) h

theorem ret1 {k : IntKind} {a b : Int} (h : a = b) : Ending.returned (.int k a) = .returned (.int k b) := by rw [h]
theorem join_any (a b : Int) (a0 : 0 ≤ a) (a1 : a < 4294967296) (b0 : 0 ≤ b) (b1 : b < 4294967296) (w : World) :
    Calls Try.prog 38 #[.int .u32 a, .int .u32 b] w fun e w' => e = .returned (.int .u64 (a * 4294967296 + b)) ∧ w = w' := by
  go_enter Try.func38, Try.ntmps38
  go_wp2
  go_ret
  exact ⟨ret1 (or_join a b a0 a1 b0 b1), rfl⟩
theorem size_any (a : Int) (ha : inR a) (w : World) : Calls Try.prog 33 #[.int .i64 a] w fun e w' => e = .returned (.int .u64 a.natAbs) ∧ w = w' := by
  unfold inR at ha
  obtain ⟨ha1, ha2⟩ := ha
  by_cases h : a < 0
  · have e : IntKind.u64.wrap (-IntKind.u64.wrap a) = a.natAbs := by rw [IntKind.wrap_u64, IntKind.wrap_u64]; omega
    have E := Lib.hid e
    clear e
    go_enter Try.func33, Try.ntmps33
    go_wp2
    go_ret
    exact ⟨ret1 E.out, rfl⟩
  · go_enter Try.func33, Try.ntmps33
    go_wp2
    go_ret
    exact ⟨ret1 (by omega), rfl⟩
theorem split_any (a : Int) (w : World) :
    Calls Try.prog 37 #[.int .u64 a] w fun e w' => e = .returned (.agg #[.int .u32 (a % 4294967296), .int .u32 (a / 4294967296 % 4294967296)]) ∧ Grew w w' := by
  go_enter Try.func37, Try.ntmps37
  go_wp2
  exact bodyPost_ret (v := .agg #[.int .u32 (a % 4294967296), .int .u32 (a / 4294967296 % 4294967296)]) (by simp [results, Try.results37, go_sem]) rfl ⟨rfl, (Grew.refl _).alloc _ _⟩
theorem high_any (a b c d : Int) (c0 : 0 ≤ c) (c1 : c < 4294967296) (d0 : 0 ≤ d) (d1 : d < 4294967296) (w : World) :
    Calls Try.prog 34 #[.agg #[.int .u32 a, .int .u32 b, .int .u32 c, .int .u32 d]] w fun e w' => e = .returned (.int .u64 (d * 4294967296 + c)) ∧ Grew w w' := by
  go_enter Try.func34, Try.ntmps34
  go_wp2_with (go_at_call 38; refine (join_any _ _ (by omega) (by omega) (by omega) (by omega) _).mono ?_; rintro e w' ⟨rfl, rfl⟩)
  go_ret
  exact ⟨rfl, (Grew.refl _).alloc _ _⟩
theorem low_any (a b c d : Int) (c0 : 0 ≤ a) (c1 : a < 4294967296) (d0 : 0 ≤ b) (d1 : b < 4294967296) (w : World) :
    Calls Try.prog 35 #[.agg #[.int .u32 a, .int .u32 b, .int .u32 c, .int .u32 d]] w fun e w' => e = .returned (.int .u64 (b * 4294967296 + a)) ∧ Grew w w' := by
  go_enter Try.func35, Try.ntmps35
  go_wp2_with (go_at_call 38; refine (join_any _ _ (by omega) (by omega) (by omega) (by omega) _).mono ?_; rintro e w' ⟨rfl, rfl⟩)
  go_ret
  exact ⟨rfl, (Grew.refl _).alloc _ _⟩
end Go.Proofs.Ytnjkgalbbhmgjaa.qar
