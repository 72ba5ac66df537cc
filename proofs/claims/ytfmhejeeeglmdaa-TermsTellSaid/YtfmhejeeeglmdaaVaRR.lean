/- The contract of the document's Right. (Not yet compiled.) -/
import Derived.Test.YtfmhejeeeglmdaaVaR
namespace Go.Proofs.Ytfmhejeeeglmdaa.val
open Go.ChangeShapes Go.WideShapes Go.ChangeAt Go.RowKit Go.Deep
set_option maxRecDepth 100000 in
theorem dright_any (s : Sys) (A : Option Addr) (n c : Nat) (w : World) (h : RSys w A n c s) : Calls Try.prog 21 #[sysV s A n c] w fun e w' => e = .returned (.bool (right s)) ∧ But No w w' := by
  have CC : Hid (∀ W, But No w W → Calls Try.prog 29 #[sysV s A n c] W fun e w' => e = .returned (.tuple #[.bool (vFind s).1, .int .i64 (vFind s).2.1, .int .i64 (vFind s).2.2]) ∧ But No W w') := fun W hb => dcheck_any s A n c W (h.no hb)
  clear h
  generalize (vFind s).2.1 = f1, (vFind s).2.2 = f2 at CC
  rw [right_find]
  cases hf : (vFind s).1 with
  | true =>
    rw [hf] at CC
    clear hf
    unfold sysV at CC ⊢
    go_enter Try.func21, Try.ntmps21
    go_wp2_with (go_at_call 29; refine (CC.out _ ((But.refl No w).alloc _)).mono ?_; rintro e w1 ⟨rfl, hb1⟩; have HB1 := Lib.hid (((But.refl No w).alloc _).trans hb1); clear hb1)
    go_ret
    exact ⟨rfl, HB1.out⟩
  | false =>
    rw [hf] at CC
    clear hf
    unfold sysV at CC ⊢
    go_enter Try.func21, Try.ntmps21
    go_wp2_with (go_at_call 29; refine (CC.out _ ((But.refl No w).alloc _)).mono ?_; rintro e w1 ⟨rfl, hb1⟩; have HB1 := Lib.hid (((But.refl No w).alloc _).trans hb1); clear hb1)
    go_ret
    exact ⟨rfl, HB1.out⟩
end Go.Proofs.Ytfmhejeeeglmdaa.val
