/- The contract of Right. -/
import Derived.Test.YtfmhejeeeglmdaaVaC2
namespace Go.Proofs.Ytfmhejeeeglmdaa.val
open Go.ChangeShapes Go.WideShapes Go.ChangeAt Go.RowKit Go.Deep
theorem fE_right (s : Sys) : (right s = true ∧ fE s = 0) ∨ (right s = false ∧ fE s = 10) := by
  rw [right_find]
  unfold fE
  cases (vFind s).1 with
  | true => exact .inr ⟨rfl, rfl⟩
  | false => exact .inl ⟨rfl, rfl⟩
theorem field_fin (e i k : Int) (W : World) : (Instr.field 51 (.agg #[.int .i64 e, .int .i64 i, .int .i64 k]) 0).run Try.prog W = .ok (.int .i64 e) W := by
  simp [Instr.field, go_sem, asAgg]
attribute [local go_sem] field_fin
set_option maxRecDepth 100000 in
theorem right_any (s : Sys) (A : Option Addr) (n c : Nat) (w : World) (h : RSys w A n c s) : Calls Try.prog 18 #[sysV s A n c] w fun e w' => e = .returned (.bool (right s)) ∧ But No w w' := by
  have CC : Hid (∀ W, But No w W → Calls Try.prog 28 #[sysV s A n c] W fun e w' => e = .returned (.agg #[.int .i64 (fE s : Int), .int .i64 (vFind s).2.1, .int .i64 (vFind s).2.2]) ∧ But No W w') := fun W hb => check_any s A n c W (h.no hb)
  clear h
  generalize (vFind s).2.1 = f1, (vFind s).2.2 = f2 at CC
  rcases fE_right s with ⟨h1, h2⟩ | ⟨h1, h2⟩
  · rw [h2] at CC
    rw [h1]
    clear h1 h2
    unfold sysV at CC ⊢
    go_enter Try.func18, Try.ntmps18
    go_wp2_with (go_at_call 28; refine (CC.out _ ((But.refl No w).alloc _)).mono ?_; rintro e w1 ⟨rfl, hb1⟩; have HB1 := Lib.hid (((But.refl No w).alloc _).trans hb1); clear hb1)
    go_ret
    exact ⟨rfl, HB1.out⟩
  · rw [h2] at CC
    rw [h1]
    clear h1 h2
    unfold sysV at CC ⊢
    go_enter Try.func18, Try.ntmps18
    go_wp2_with (go_at_call 28; refine (CC.out _ ((But.refl No w).alloc _)).mono ?_; rintro e w1 ⟨rfl, hb1⟩; have HB1 := Lib.hid (((But.refl No w).alloc _).trans hb1); clear hb1)
    go_ret
    exact ⟨rfl, HB1.out⟩
end Go.Proofs.Ytfmhejeeeglmdaa.val
