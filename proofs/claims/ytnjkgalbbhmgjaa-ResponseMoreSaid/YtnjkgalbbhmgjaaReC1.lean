/- The contracts of the program's own small calls (chapter 16): what is inside, whether a load is right, arrivals. -/
import Derived.Test.YtnjkgalbbhmgjaaReR3
import Derived.Test.YtnjkgalbbhmgjaaReR4
namespace Go.Proofs.Ytnjkgalbbhmgjaa.rsp
open Go.ChangeShapes Go.WideShapes Go.ChangeAt Go.RowKit Go.Deep
/-- A load by value. -/
def ldV (x : Ld) : Value := .agg #[.int .i64 x.w, .int .i64 x.p, .int .i64 x.j]
theorem inside_any (a n : Int) (w : World) : Calls Try.prog 20 #[.int .i64 a, .int .i64 n] w fun e w' => e = .returned (.bool (inT a n)) ∧ w' = w := by
  by_cases h1 : a ≤ n
  · by_cases h2 : n ≤ 1099511627776
    · have HE : Hid (inT a n = true) := Lib.hid (inT_true.2 ⟨h1, h2⟩)
      go_enter Try.func20, Try.ntmps20
      go_wp2
      go_ret
      exact ⟨ret_bool HE.out.symm, rfl⟩
    · have HE : Hid (inT a n = false) := Lib.hid (inT_false.2 (by omega))
      go_enter Try.func20, Try.ntmps20
      go_wp2
      go_ret
      exact ⟨ret_bool HE.out.symm, rfl⟩
  · have HE : Hid (inT a n = false) := Lib.hid (inT_false.2 (by omega))
    go_enter Try.func20, Try.ntmps20
    go_wp2
    go_ret
    exact ⟨ret_bool HE.out.symm, rfl⟩
set_option maxHeartbeats 1000000 in
theorem ldright_any (x : Ld) (w : World) : Calls Try.prog 23 #[ldV x] w fun e w' => e = .returned (.bool (okD x)) ∧ But No w w' := by
  obtain ⟨x0, x1, x2⟩ := x
  have HE : Hid (∀ b0 b1 b2 : Bool, inT 0 x0 = b0 → inT 1 x1 = b1 → inT 0 x2 = b2 → okD ⟨x0, x1, x2⟩ = (b0 && (b1 && b2))) := Lib.hid (fun b0 b1 b2 h0 h1 h2 => by unfold okD; rw [← h0, ← h1, ← h2])
  have C0 : Hid (∀ W, Calls Try.prog 20 #[.int .i64 0, .int .i64 x0] W fun e w' => e = .returned (.bool (inT 0 x0)) ∧ w' = W) := Lib.hid (fun W => inside_any 0 x0 W)
  have C1 : Hid (∀ W, Calls Try.prog 20 #[.int .i64 1, .int .i64 x1] W fun e w' => e = .returned (.bool (inT 1 x1)) ∧ w' = W) := Lib.hid (fun W => inside_any 1 x1 W)
  have C2 : Hid (∀ W, Calls Try.prog 20 #[.int .i64 0, .int .i64 x2] W fun e w' => e = .returned (.bool (inT 0 x2)) ∧ w' = W) := Lib.hid (fun W => inside_any 0 x2 W)
  unfold ldV
  cases g0 : inT 0 x0 <;> cases g1 : inT 1 x1 <;> cases g2 : inT 0 x2 <;>
  (rw [HE.out _ _ _ g0 g1 g2]
   rw [g0] at C0
   rw [g1] at C1
   rw [g2] at C2
   clear g0 g1 g2 HE
   dsimp only [Bool.and_true, Bool.and_false, Bool.true_and, Bool.false_and]
   go_enter Try.func23, Try.ntmps23
   go_wp2_with (go_at_call 20; first | ((with_reducible refine (C0.out _).mono ?_); rintro e wC ⟨rfl, rfl⟩) | ((with_reducible refine (C1.out _).mono ?_); rintro e wC ⟨rfl, rfl⟩) | ((with_reducible refine (C2.out _).mono ?_); rintro e wC ⟨rfl, rfl⟩))
   go_ret
   exact ⟨by first | rfl | simp, by first | exact But.refl No w | exact (But.refl No w).alloc _⟩)
theorem cd_up {n p : Int} (hn : 0 ≤ n) (hp : 1 ≤ p) : qar.cdV n p = up n p ∧ qar.cdE n p = 0 := by
  have h2 := Int.emod_nonneg n (show p ≠ 0 by omega)
  unfold qar.cdV qar.cdE up
  have h0 : ¬ (n < 0 ∨ p ≤ 0) := by omega
  rw [if_neg h0, if_neg h0]
  refine ⟨?_, rfl⟩
  by_cases h : n % p = 0
  · rw [if_pos h, if_neg (by omega)]; omega
  · rw [if_neg h, if_pos (by omega)]
set_option maxHeartbeats 1000000 in
/-- How often a load may arrive within t ticks. -/
theorem arr_any (x : Ld) (t : Int) (hx : okD x = true) (h0 : 0 ≤ t) (h1 : t ≤ 4611686018427387904) (w : World) : Calls Try.prog 31 #[ldV x, .int .i64 t] w fun e w' => e = .returned (.int .i64 (up (t + x.j) x.p)) ∧ But No w w' := by
  obtain ⟨⟨hw0, hw1⟩, ⟨hp0, hp1⟩, hj0, hj1⟩ := okD_iff.1 hx
  clear hx
  obtain ⟨x0, x1, x2⟩ := x
  dsimp only at hw0 hw1 hp0 hp1 hj0 hj1 ⊢
  obtain ⟨hc, he⟩ := cd_up (n := t + x2) (p := x1) (by omega) hp0
  have CC : Hid (∀ W, Calls Try.prog 36 #[.int .i64 (t + x2), .int .i64 x1] W fun e w' => e = .returned (.tuple #[.int .i64 (up (t + x2) x1), .int .i64 0]) ∧ W = w') := Lib.hid (fun W => by have := qar.ceildiv_any (t + x2) x1 (by unfold inR; omega) (by unfold inR; omega) W; rw [hc, he] at this; exact this)
  have hs1 : 0 ≤ t + x2 ∧ t + x2 ≤ 9223372036854775807 := by omega
  clear hc he
  generalize up (t + x2) x1 = u at *
  unfold ldV
  go_enter Try.func31, Try.ntmps31
  go_wp2_with (go_at_call 36; (with_reducible refine (CC.out _).mono ?_); rintro e wC ⟨rfl, rfl⟩)
  go_ret
  exact ⟨rfl, (But.refl No w).alloc _⟩
end Go.Proofs.Ytnjkgalbbhmgjaa.rsp
