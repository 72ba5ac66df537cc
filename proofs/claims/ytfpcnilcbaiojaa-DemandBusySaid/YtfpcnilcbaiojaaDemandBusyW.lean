/- The walk of DemandBusy. -/
import Derived.Test.YtfpcnilcbaiojaaDeE
import Derived.Test.YtfpcnilcbaiojaaDeLc
namespace Go.Proofs.Ytfpcnilcbaiojaa
open Go.ChangeShapes Go.WideShapes Go.ChangeAt Go.RowKit Go.Deep dem
namespace demandBusy
theorem busy_err (l : List Wk) (bl rl : Int) : ∀ (k : Nat) (n : Int), (busyGo l bl rl k n).2 ≠ 0 → (busyGo l bl rl k n).1 = 0
  | 0, _, _ => rfl
  | k + 1, n, h => by
    rw [busyGo] at h ⊢
    cases ho : comO l bl rl n with
    | true => rw [if_pos rfl]
    | false =>
      rw [ho, if_neg (by simp)] at h
      rw [if_neg (by simp)]
      by_cases hc : comS l bl rl n ≤ n
      · rw [if_pos hc] at h; exact absurd rfl h
      · rw [if_neg hc] at h ⊢
        exact busy_err l bl rl k _ h
theorem busyP_err {l : List Wk} {bl rl : Int} (h : (busyP l bl rl).2 ≠ 0) : (busyP l bl rl).1 = 0 := by
  unfold busyP at h ⊢
  by_cases hr : right l bl rl = true
  · rw [if_pos hr] at h ⊢
    by_cases hm : 4294967296 < ldS rl l
    · rw [if_pos hm]
    · rw [if_neg hm] at h ⊢
      exact busy_err l bl rl 5000 1 h
  · rw [if_neg hr]
set_option maxRecDepth 100000 in
set_option maxHeartbeats 4000000 in
theorem walk (A : Option Addr) (n c : Nat) (l : List Wk) (_ : n ≤ c) (_ : n * 32 ≤ 140737488351232) (bl : Int) (hb : (Lit.int .i64 bl).wf = true) (rl : Int) (hr : (Lit.int .i64 rl).wf = true) (w : World) (h : RWk w A n l) :
    Calls Try.prog 8 #[.slice A n c, .int .i64 bl, .int .i64 rl] w fun e w' => e = .returned (.bool true) ∧ But No w w' := by
  have CX : Hid (∀ W, Calls Try.prog 10 #[] W fun e w' => e = .returned (.bool true) ∧ But No W w') := examples_ok
  have CB : Hid (∀ W, But No w W → Calls Try.prog 14 #[.slice A n c, .int .i64 bl, .int .i64 rl] W fun e w' => e = .returned (.tuple #[.int .i64 (busyP l bl rl).1, .int .i64 (busyP l bl rl).2]) ∧ But No W w') := fun W hw => busy_any A n c l bl rl W (h.no hw) (inR_of hb) (inR_of hr)
  clear hb hr
  by_cases he : (busyP l bl rl).2 = 0
  · obtain ⟨hrt, n1, no, nc, nb⟩ := busy_ok he
    have n2 := (busyP_le he).2
    have CC : Hid (∀ W, But No w W → Calls Try.prog 19 #[.slice A n c, .int .i64 bl, .int .i64 rl, .int .i64 (busyP l bl rl).1] W fun e w' => e = .returned (.int .i64 (comS l bl rl (busyP l bl rl).1)) ∧ w' = W) := fun W hw => lcomes_any A n c l bl rl _ W (h.no hw) hrt n1 n2 no
    rw [he] at CB
    by_cases h1 : (busyP l bl rl).1 = 1
    · rw [h1] at CB CC nc
      clear he hrt n1 no nb n2 h h1
      generalize comS l bl rl 1 = cv at CC nc
      have b1 : decide (1 < cv) = false := by simp; omega
      go_enter Try.func8, Try.ntmps8
      go_wp2_with (first | (go_at_call 10; (with_reducible refine (CX.out _).mono ?_); rintro e w1 ⟨rfl, h1⟩; have H1 := Lib.hid h1; clear h1) | (go_at_call 14; (with_reducible refine (CB.out _ H1.out).mono ?_); rintro e w2 ⟨rfl, h2⟩; have H2 := Lib.hid (H1.out.trans h2); clear h2) | (go_at_call 19; (with_reducible refine (CC.out _ H2.out).mono ?_); rintro e w3 ⟨rfl, rfl⟩))
      go_ret
      exact ⟨rfl, H2.out⟩
    · have ho2 := comO_mono hrt (show 1 ≤ (busyP l bl rl).1 - 1 by omega) (by omega) no
      have hb2 := nb ((busyP l bl rl).1 - 1) (by omega) (by omega)
      have CC2 : Hid (∀ W, But No w W → Calls Try.prog 19 #[.slice A n c, .int .i64 bl, .int .i64 rl, .int .i64 ((busyP l bl rl).1 - 1)] W fun e w' => e = .returned (.int .i64 (comS l bl rl ((busyP l bl rl).1 - 1))) ∧ w' = W) := fun W hw => lcomes_any A n c l bl rl _ W (h.no hw) hrt (by omega) (by omega) ho2
      generalize (busyP l bl rl).1 = m at CB CC CC2 n1 n2 nc hb2 h1
      generalize comS l bl rl m = cv at CC nc
      generalize comS l bl rl (m - 1) = cv2 at CC2 hb2
      have b1 : decide (m < cv) = false := by simp; omega
      have b2 : decide (m < 1) = false := by simp; omega
      have b3 : (m == 1) = false := by simp [h1]
      have b4 : decide (m - 1 < cv2) = true := by simp; omega
      clear he hrt no nb h h1 ho2
      go_enter Try.func8, Try.ntmps8
      go_wp2_with (first | (go_at_call 10; (with_reducible refine (CX.out _).mono ?_); rintro e w1 ⟨rfl, h1⟩; have H1 := Lib.hid h1; clear h1) | (go_at_call 14; (with_reducible refine (CB.out _ H1.out).mono ?_); rintro e w2 ⟨rfl, h2⟩; have H2 := Lib.hid (H1.out.trans h2); clear h2) | (go_at_call 19; (with_reducible refine (CC.out _ H2.out).mono ?_); rintro e w3 ⟨rfl, rfl⟩) | (go_at_call 19; (with_reducible refine (CC2.out _ H2.out).mono ?_); rintro e w4 ⟨rfl, rfl⟩))
      go_ret
      exact ⟨rfl, H2.out⟩
  · have hv := busyP_err he
    rw [hv] at CB
    generalize (busyP l bl rl).2 = e at CB he
    have b1 : (e != 0) = true := by simp [he]
    clear hv he h
    go_enter Try.func8, Try.ntmps8
    go_wp2_with (first | (go_at_call 10; (with_reducible refine (CX.out _).mono ?_); rintro e w1 ⟨rfl, h1⟩; have H1 := Lib.hid h1; clear h1) | (go_at_call 14; (with_reducible refine (CB.out _ H1.out).mono ?_); rintro e w2 ⟨rfl, h2⟩; have H2 := Lib.hid (H1.out.trans h2); clear h2))
    go_ret
    exact ⟨rfl, H2.out⟩
end demandBusy
end Go.Proofs.Ytfpcnilcbaiojaa
