/- The walk of ResponseAlone. -/
import Derived.Test.YtnjkgalbbhmgjaaReE
import Derived.Test.YtnjkgalbbhmgjaaReP
namespace Go.Proofs.Ytnjkgalbbhmgjaa
open Go.ChangeShapes Go.WideShapes Go.ChangeAt Go.RowKit Go.Deep rsp
namespace responseAlone
set_option maxRecDepth 100000 in
set_option maxHeartbeats 4000000 in
theorem walk (own : Int) (ho : (Lit.int .i64 own).wf = true) (bl : Int) (hb : (Lit.int .i64 bl).wf = true) (w : World) :
    Calls Try.prog 7 #[.int .i64 own, .int .i64 bl] w fun e w' => e = .returned (.bool true) ∧ But No w w' := by
  have CX : Hid (∀ W, Calls Try.prog 9 #[] W fun e w' => e = .returned (.bool true) ∧ But No W w') := examples_ok
  have CB : Hid (∀ W, Calls Try.prog 13 #[.int .i64 own, .int .i64 bl, .int .i64 0, .slice none 0 0, .slice none 0 0, .int .i64 1099511627776] W fun e w' => e = .returned (.tuple #[.int .i64 (bnP own bl 0 [] [] 1099511627776).1, .int .i64 (bnP own bl 0 [] [] 1099511627776).2]) ∧ But No W w') := fun W => bound_any none 0 0 [] none 0 0 [] own bl 0 1099511627776 W (RLd.nil W) (RLd.nil W) (inR_of ho) (inR_of hb) (in0 (by omega)) (by unfold inR; omega)
  clear ho hb
  by_cases g0 : own < 0
  · have k0 : decide (own < 0) = true := by simp [g0]
    rw [alone_bad (by omega)] at CB
    go_enter Try.func7, Try.ntmps7
    go_wp2_with (first | (go_at_call 9; (with_reducible refine (CX.out _).mono ?_); rintro e w1 ⟨rfl, h1⟩; have H1 := Lib.hid h1; clear h1) | (go_at_call 13; (with_reducible refine (CB.out _).mono ?_); rintro e w2 ⟨rfl, h2⟩; have H2 := Lib.hid (H1.out.trans h2); clear h2))
    go_ret
    exact ⟨rfl, H2.out⟩
  · have k0 : decide (own < 0) = false := by simp; omega
    by_cases g1 : 1099511627776 < own
    · have k1 : decide (1099511627776 < own) = true := by simp [g1]
      rw [alone_bad (by omega)] at CB
      go_enter Try.func7, Try.ntmps7
      go_wp2_with (first | (go_at_call 9; (with_reducible refine (CX.out _).mono ?_); rintro e w1 ⟨rfl, h1⟩; have H1 := Lib.hid h1; clear h1) | (go_at_call 13; (with_reducible refine (CB.out _).mono ?_); rintro e w2 ⟨rfl, h2⟩; have H2 := Lib.hid (H1.out.trans h2); clear h2))
      go_ret
      exact ⟨rfl, H2.out⟩
    · have k1 : decide (1099511627776 < own) = false := by simp; omega
      by_cases g2 : bl < 0
      · have k2 : decide (bl < 0) = true := by simp [g2]
        rw [alone_bad (by omega)] at CB
        go_enter Try.func7, Try.ntmps7
        go_wp2_with (first | (go_at_call 9; (with_reducible refine (CX.out _).mono ?_); rintro e w1 ⟨rfl, h1⟩; have H1 := Lib.hid h1; clear h1) | (go_at_call 13; (with_reducible refine (CB.out _).mono ?_); rintro e w2 ⟨rfl, h2⟩; have H2 := Lib.hid (H1.out.trans h2); clear h2))
        go_ret
        exact ⟨rfl, H2.out⟩
      · have k2 : decide (bl < 0) = false := by simp; omega
        by_cases g3 : 1099511627776 < bl
        · have k3 : decide (1099511627776 < bl) = true := by simp [g3]
          rw [alone_bad (by omega)] at CB
          go_enter Try.func7, Try.ntmps7
          go_wp2_with (first | (go_at_call 9; (with_reducible refine (CX.out _).mono ?_); rintro e w1 ⟨rfl, h1⟩; have H1 := Lib.hid h1; clear h1) | (go_at_call 13; (with_reducible refine (CB.out _).mono ?_); rintro e w2 ⟨rfl, h2⟩; have H2 := Lib.hid (H1.out.trans h2); clear h2))
          go_ret
          exact ⟨rfl, H2.out⟩
        · have k3 : decide (1099511627776 < bl) = false := by simp; omega
          have HR := alone_good (own := own) (bl := bl) (by omega)
          rw [HR] at CB
          clear HR
          obtain ⟨s, hs⟩ : ∃ s, own + bl = s := ⟨_, rfl⟩
          rw [hs] at CB
          have hs0 : 0 ≤ s ∧ s ≤ 2199023255552 := by omega
          by_cases h1 : 1099511627776 < s
          · have k5 : decide (1099511627776 < s) = true := by simp [h1]
            rw [if_pos h1] at CB
            go_enter Try.func7, Try.ntmps7
            go_wp2_with (first | (go_at_call 9; (with_reducible refine (CX.out _).mono ?_); rintro e w1 ⟨rfl, h1⟩; have H1 := Lib.hid h1; clear h1) | (go_at_call 13; (with_reducible refine (CB.out _).mono ?_); rintro e w2 ⟨rfl, h2⟩; have H2 := Lib.hid (H1.out.trans h2); clear h2))
            go_ret
            exact ⟨rfl, H2.out⟩
          · have k5 : decide (1099511627776 < s) = false := by simp; omega
            rw [if_neg h1] at CB
            by_cases h2 : 1 < s
            · have k6 : decide (1 < s) = true := by simp [h2]
              rw [if_pos h2] at CB
              go_enter Try.func7, Try.ntmps7
              go_wp2_with (first | (go_at_call 9; (with_reducible refine (CX.out _).mono ?_); rintro e w1 ⟨rfl, h1⟩; have H1 := Lib.hid h1; clear h1) | (go_at_call 13; (with_reducible refine (CB.out _).mono ?_); rintro e w2 ⟨rfl, h2⟩; have H2 := Lib.hid (H1.out.trans h2); clear h2))
              go_ret
              exact ⟨ret_bool (by simp), H2.out⟩
            · have k6 : decide (1 < s) = false := by simp; omega
              rw [if_neg h2] at CB
              go_enter Try.func7, Try.ntmps7
              go_wp2_with (first | (go_at_call 9; (with_reducible refine (CX.out _).mono ?_); rintro e w1 ⟨rfl, h1⟩; have H1 := Lib.hid h1; clear h1) | (go_at_call 13; (with_reducible refine (CB.out _).mono ?_); rintro e w2 ⟨rfl, h2⟩; have H2 := Lib.hid (H1.out.trans h2); clear h2))
              go_ret
              exact ⟨ret_bool (by simp), H2.out⟩
end responseAlone
end Go.Proofs.Ytnjkgalbbhmgjaa
