/- Any works in any times are the load that the chapter says, or refused: QarithLoads returns true for every two lists of numbers. (The walk.) -/
import Derived.Test.YtjonlpoiiffalaaL3
namespace Go.Proofs.Ytjonlpoiiffalaa.qarithLoads
open Go.ChangeShapes Go.WideShapes Go.ChangeAt Go.RowKit
set_option maxHeartbeats 1000000 in
theorem walk (A B : Option Addr) (n m c d : Nat) (zs ts : List Int) (w : World) (hz : Rd w A n zs) (ht : Rd w B m ts) :
    Calls Try.prog 6 #[.slice A n c, .slice B m d] w fun e w' => e = .returned (.bool true) ∧ Grew w w' := by
  have HZ := Lib.hid hz
  have HT := Lib.hid ht
  clear hz ht
  go_enter Try.func6, Try.ntmps6
  go_wp2_with (first | (go_at_call 15; refine (examples_any _).mono ?_; rintro e we ⟨rfl, hg⟩) | (go_at_call 33; refine (load_any _ _ _ _ _ _ zs ts _ (HZ.out.grew hg) (HT.out.grew hg)).mono ?_; rintro e w2 ⟨rfl, hg2⟩; have hg := hg.trans hg2) | (go_at_call 34; refine (rload_any _ _ _ _ _ _ zs ts _ (HZ.out.grew hg) (HT.out.grew hg)).mono ?_; rintro e w2 ⟨rfl, hg2⟩; have hg := hg.trans hg2) | (go_at_call 22; refine (told_same _ _ _).mono ?_; rintro e w' ⟨rfl, rfl⟩))
  go_ret
  exact ⟨rfl, hg⟩
end Go.Proofs.Ytjonlpoiiffalaa.qarithLoads
