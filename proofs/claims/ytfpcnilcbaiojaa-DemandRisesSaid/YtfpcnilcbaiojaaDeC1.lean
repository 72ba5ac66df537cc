/- The contracts of the program's own small calls (chapter 15): what is inside, what is right, arrivals, a total. -/
import Derived.Test.YtfpcnilcbaiojaaDeR6
namespace Go.Proofs.Ytfpcnilcbaiojaa.dem
open Go.ChangeShapes Go.WideShapes Go.ChangeAt Go.RowKit Go.Deep
/-- A work by value. -/
def wkV (x : Wk) : Value := .agg #[.int .i64 x.w, .int .i64 x.p, .int .i64 x.d, .bool x.top]
theorem inside_any (a n : Int) (w : World) : Calls Try.prog 31 #[.int .i64 a, .int .i64 n] w fun e w' => e = .returned (.bool (inT a n)) ∧ w' = w := by
  by_cases h1 : a ≤ n
  · by_cases h2 : n ≤ 1099511627776
    · have HE : Hid (inT a n = true) := Lib.hid (inT_true.2 ⟨h1, h2⟩)
      go_enter Try.func31, Try.ntmps31
      go_wp2
      go_ret
      exact ⟨ret_bool HE.out.symm, rfl⟩
    · have HE : Hid (inT a n = false) := Lib.hid (inT_false.2 (by omega))
      go_enter Try.func31, Try.ntmps31
      go_wp2
      go_ret
      exact ⟨ret_bool HE.out.symm, rfl⟩
  · have HE : Hid (inT a n = false) := Lib.hid (inT_false.2 (by omega))
    go_enter Try.func31, Try.ntmps31
    go_wp2
    go_ret
    exact ⟨ret_bool HE.out.symm, rfl⟩
set_option maxHeartbeats 1000000 in
theorem clo_right (b : Bool) (x : Wk) (w : World) : Calls Try.prog 33 #[.bool b, wkV x] w fun e w' => e = .returned (.bool (b && okW x)) ∧ But No w w' := by
  obtain ⟨x0, x1, x2, x3⟩ := x
  have HE : Hid (∀ b0 b1 b2 : Bool, inT 0 x0 = b0 → inT 1 x1 = b1 → inT 1 x2 = b2 → okW ⟨x0, x1, x2, x3⟩ = (b0 && (b1 && b2))) := Lib.hid (fun b0 b1 b2 h0 h1 h2 => by unfold okW; rw [← h0, ← h1, ← h2])
  have C0 : Hid (∀ W, Calls Try.prog 31 #[.int .i64 0, .int .i64 x0] W fun e w' => e = .returned (.bool (inT 0 x0)) ∧ w' = W) := Lib.hid (fun W => inside_any 0 x0 W)
  have C1 : Hid (∀ W, Calls Try.prog 31 #[.int .i64 1, .int .i64 x1] W fun e w' => e = .returned (.bool (inT 1 x1)) ∧ w' = W) := Lib.hid (fun W => inside_any 1 x1 W)
  have C2 : Hid (∀ W, Calls Try.prog 31 #[.int .i64 1, .int .i64 x2] W fun e w' => e = .returned (.bool (inT 1 x2)) ∧ w' = W) := Lib.hid (fun W => inside_any 1 x2 W)
  unfold wkV
  cases g0 : inT 0 x0 <;> cases g1 : inT 1 x1 <;> cases g2 : inT 1 x2 <;> cases b <;>
  (rw [HE.out _ _ _ g0 g1 g2]
   rw [g0] at C0
   rw [g1] at C1
   rw [g2] at C2
   clear g0 g1 g2 HE
   dsimp only [Bool.and_true, Bool.and_false, Bool.true_and, Bool.false_and]
   go_enter Try.func33, Try.ntmps33
   go_wp2_with (go_at_call 31; first | ((with_reducible refine (C0.out _).mono ?_); rintro e wC ⟨rfl, rfl⟩) | ((with_reducible refine (C1.out _).mono ?_); rintro e wC ⟨rfl, rfl⟩) | ((with_reducible refine (C2.out _).mono ?_); rintro e wC ⟨rfl, rfl⟩))
   go_ret
   exact ⟨by first | rfl | simp, by first | exact But.refl No w | exact (But.refl No w).alloc _⟩)
set_option maxRecDepth 100000 in
set_option maxHeartbeats 2000000 in
/-- The fold of a bool. -/
theorem foldB_any (A : Option Addr) (n c : Nat) (l : List Wk) (T : Nat → Bool) (w : World) (h : RWk w A n l)
    (hF : ∀ (i : Nat) (x : Wk) (W : World), l[i]? = some x → Calls Try.prog 33 #[.bool (T i), wkV x] W fun e w' => e = .returned (.bool (T (i + 1))) ∧ But No W w') :
    Calls Try.prog 32 #[.slice A n c, .bool (T 0), .func (.func 33) #[] #[]] w fun e w' => e = .returned (.bool (T n)) ∧ But No w w' := by
  have HN := Lib.hid h.len
  have HL := Lib.hid h
  have hmax := h.max
  have HF := Lib.hid hF
  clear h hF
  go_enter Try.func32, Try.ntmps32
  go_wp2_with fail
  go_loopw [1, 11] (fun v i wr => ∃ q : Nat, v = .bool (T q) ∧ i = .int .i64 (q : Int) ∧ q ≤ n ∧ Hid (But No w wr)) (fun _ i _ => n - (intOf i).toNat)
  case atStart => exact ⟨0, rfl, rfl, by omega, But.refl No w⟩
  case round =>
    obtain ⟨q, rfl, rfl, hq, HBR⟩ := hrel
    by_cases hqn : q < n
    · have hqn2 : (q : Int) < (n : Int) := by omega
      have hq0 : (0 : Int) ≤ (q : Int) := Int.natCast_nonneg q
      obtain ⟨x, hx⟩ : ∃ x, l[q]? = some x := ⟨_, List.getElem?_eq_getElem (by rw [HN.out]; exact hqn)⟩
      obtain ⟨b, off, rfl, _, e0, e1, e2, e3⟩ := (HL.out.no HBR.out).at1 hx
      have CF : Hid (∀ W, Calls Try.prog 33 #[.bool (T q), wkV x] W fun e w' => e = .returned (.bool (T (q + 1))) ∧ But No W w') := Lib.hid (fun W => HF.out q x W hx)
      clear hx
      obtain ⟨x0, x1, x2, x3⟩ := x
      unfold wkV at CF
      dsimp only at e0 e1 e2 e3 CF
      generalize hT : T q = tq at CF ⊢
      clear hT
      go_wp2_with (go_at_call 33; (with_reducible refine (CF.out _).mono ?_); rintro e w1 ⟨rfl, hb1⟩; have HB1 := Lib.hid (HBR.out.trans (((But.refl No wr).alloc _).trans hb1)); clear hb1)
      go_roundw
      case rel => exact ⟨q + 1, rfl, by go_num, by omega, HB1.out⟩
      case measure => simp [intOf]; omega
    · have HI : Hid (q = n) := Lib.hid (by omega)
      have b3 : decide ((q : Int) < (n : Int)) = false := by simp; omega
      go_wp2
      go_ret
      exact ⟨by rw [HI.out]; rfl, HBR.out⟩
end Go.Proofs.Ytfpcnilcbaiojaa.dem
