/- The walk of DemandTests. -/
import Derived.Test.YtfpcnilcbaiojaaDeE
namespace Go.Proofs.Ytfpcnilcbaiojaa
open Go.ChangeShapes Go.WideShapes Go.ChangeAt Go.RowKit Go.Deep dem
namespace demandTests
set_option maxRecDepth 100000 in
set_option maxHeartbeats 4000000 in
theorem walk (A : Option Addr) (n c : Nat) (l : List Wk) (_ : n ≤ c) (hk : n * 32 ≤ 140737488351232) (bl : Int) (hb : (Lit.int .i64 bl).wf = true) (rl : Int) (hr : (Lit.int .i64 rl).wf = true) (w : World) (h : RWk w A n l) :
    Calls Try.prog 4 #[.slice A n c, .int .i64 bl, .int .i64 rl] w fun e w' => e = .returned (.bool true) ∧ But No w w' := by
  have CX : Hid (∀ W, Calls Try.prog 10 #[] W fun e w' => e = .returned (.bool true) ∧ But No W w') := examples_ok
  have CB : Hid (∀ W, But No w W → Calls Try.prog 14 #[.slice A n c, .int .i64 bl, .int .i64 rl] W fun e w' => e = .returned (.tuple #[.int .i64 (busyP l bl rl).1, .int .i64 (busyP l bl rl).2]) ∧ But No W w') := fun W hw => busy_any A n c l bl rl W (h.no hw) (inR_of hb) (inR_of hr)
  have CT : Hid (∀ W, But No w W → Calls Try.prog 16 #[.slice A n c, .int .i64 bl, .int .i64 rl] W fun e w' => e = .returned (.int .i64 (testV l bl rl)) ∧ But No W w') := fun W hw => test_any A n c l bl rl W (h.no hw) (inR_of hb) (inR_of hr)
  have CW : Hid (∀ W, But No w W → Calls Try.prog 13 #[.slice A n c] W fun e w' => ∃ A' c', e = .returned (.slice A' n c') ∧ RWk w' A' n l ∧ But No W w') := fun W hw => works_any A n c l W (h.no hw) hk
  have CD : Hid (∀ A' c' W, RWk W A' n l → Calls Try.prog 15 #[.slice A' n c', .int .i64 bl, .int .i64 rl] W fun e w' => e = .returned (.tuple #[.int .i64 (busyP l bl rl).1, .int .i64 (busyP l bl rl).2]) ∧ But No W w') := fun A' c' W h' => rbusy_any A' n c' l bl rl W h'
  have CE : Hid (∀ A' c' W, RWk W A' n l → Calls Try.prog 17 #[.slice A' n c', .int .i64 bl, .int .i64 rl] W fun e w' => e = .returned (.int .i64 (testV l bl rl)) ∧ But No W w') := fun A' c' W h' => rtest_any A' n c' l bl rl W h'
  generalize (busyP l bl rl).1 = v at CB CD
  generalize (busyP l bl rl).2 = e at CB CD
  generalize testV l bl rl = u at CT CE
  clear h hb hr
  go_enter Try.func4, Try.ntmps4
  go_wp2_with (first | (go_at_call 10; (with_reducible refine (CX.out _).mono ?_); rintro e w1 ⟨rfl, h1⟩; have H1 := Lib.hid h1; clear h1) | (go_at_call 14; (with_reducible refine (CB.out _ H1.out).mono ?_); rintro e w2 ⟨rfl, h2⟩; have H2 := Lib.hid (H1.out.trans h2); clear h2) | (go_at_call 13; (with_reducible refine (CW.out _ H2.out).mono ?_); rintro e w3 ⟨A', c', rfl, h3, h4⟩; have H3 := Lib.hid (H2.out.trans h4); have HR := Lib.hid h3; clear h3 h4) | (go_at_call 15; (with_reducible refine (CD.out _ _ _ HR.out).mono ?_); rintro e w4 ⟨rfl, h5⟩; have H4 := Lib.hid (H3.out.trans h5); clear h5) | (go_at_call 16; (with_reducible refine (CT.out _ H4.out).mono ?_); rintro e w5 ⟨rfl, h6⟩; have H5 := Lib.hid (H4.out.trans h6); clear h6) | (go_at_call 13; (with_reducible refine (CW.out _ H5.out).mono ?_); rintro e w6 ⟨A6, c6, rfl, h7, h8⟩; have H6 := Lib.hid (H5.out.trans h8); have HR6 := Lib.hid h7; clear h7 h8) | (go_at_call 17; (with_reducible refine (CE.out _ _ _ HR6.out).mono ?_); rintro e w7 ⟨rfl, h9⟩; have H7 := Lib.hid (H6.out.trans h9); clear h9))
  go_ret
  exact ⟨ret_bool (by simp), H7.out⟩
end demandTests
end Go.Proofs.Ytfpcnilcbaiojaa
