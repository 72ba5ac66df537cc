/- The walk of DemandAsks. -/
import Derived.Test.YtfpcnilcbaiojaaDeE
namespace Go.Proofs.Ytfpcnilcbaiojaa
open Go.ChangeShapes Go.WideShapes Go.ChangeAt Go.RowKit Go.Deep dem
namespace demandAsks
set_option maxRecDepth 100000 in
set_option maxHeartbeats 4000000 in
theorem walk (A : Option Addr) (n c : Nat) (l : List Wk) (_ : n ≤ c) (hk : n * 32 ≤ 140737488351232) (bl : Int) (hb : (Lit.int .i64 bl).wf = true) (rl : Int) (hr : (Lit.int .i64 rl).wf = true) (t : Int) (ht : (Lit.int .i64 t).wf = true) (w : World) (h : RWk w A n l) :
    Calls Try.prog 3 #[.slice A n c, .int .i64 bl, .int .i64 rl, .int .i64 t] w fun e w' => e = .returned (.bool true) ∧ But No w w' := by
  have CX : Hid (∀ W, Calls Try.prog 10 #[] W fun e w' => e = .returned (.bool true) ∧ But No W w') := examples_ok
  have CA : Hid (∀ W, But No w W → Calls Try.prog 11 #[.slice A n c, .int .i64 bl, .int .i64 rl, .int .i64 t] W fun e w' => e = .returned (.tuple #[.int .i64 (askV l bl rl t), .int .i64 (askE l bl rl t)]) ∧ But No W w') := fun W hw => ask_any A n c l bl rl t W (h.no hw) (inR_of hb) (inR_of hr) (inR_of ht)
  have CW : Hid (∀ W, But No w W → Calls Try.prog 13 #[.slice A n c] W fun e w' => ∃ A' c', e = .returned (.slice A' n c') ∧ RWk w' A' n l ∧ But No W w') := fun W hw => works_any A n c l W (h.no hw) hk
  have CD : Hid (∀ A' c' W, RWk W A' n l → Calls Try.prog 12 #[.slice A' n c', .int .i64 bl, .int .i64 rl, .int .i64 t] W fun e w' => e = .returned (.tuple #[.int .i64 (askV l bl rl t), .int .i64 (askE l bl rl t)]) ∧ But No W w') := fun A' c' W h' => rask_any A' n c' l bl rl t W h' (inR_of ht).2
  generalize askV l bl rl t = v at CA CD
  generalize askE l bl rl t = e at CA CD
  clear h hb hr ht
  go_enter Try.func3, Try.ntmps3
  go_wp2_with (first | (go_at_call 10; (with_reducible refine (CX.out _).mono ?_); rintro e w1 ⟨rfl, h1⟩; have H1 := Lib.hid h1; clear h1) | (go_at_call 11; (with_reducible refine (CA.out _ H1.out).mono ?_); rintro e w2 ⟨rfl, h2⟩; have H2 := Lib.hid (H1.out.trans h2); clear h2) | (go_at_call 13; (with_reducible refine (CW.out _ H2.out).mono ?_); rintro e w3 ⟨A', c', rfl, h3, h4⟩; have H3 := Lib.hid (H2.out.trans h4); have HR := Lib.hid h3; clear h3 h4) | (go_at_call 12; (with_reducible refine (CD.out _ _ _ HR.out).mono ?_); rintro e w4 ⟨rfl, h5⟩; have H4 := Lib.hid (H3.out.trans h5); clear h5))
  go_ret
  exact ⟨ret_bool (by simp), H4.out⟩
end demandAsks
end Go.Proofs.Ytfpcnilcbaiojaa
