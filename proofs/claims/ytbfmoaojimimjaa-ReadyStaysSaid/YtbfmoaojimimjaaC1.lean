/- isTask, isLevel, keyOf, levelOf. -/
import Derived.Test.YtbfmoaojimimjaaM
import Derived.Test.YtbfmoaojimimjaaV0
namespace Go.Proofs.Ytbfmoaojimimjaa
open Go.ChangeShapes Go.WideShapes Go.ChangeAt Go.RowKit
theorem isTask_any (t : Int) (w : World) :
    Calls Try.prog 27 #[.int .i64 t] w fun r w' => r = .returned (.bool (taskB t)) ∧ w = w' := by
  cases h : decide (0 ≤ t) with
  | false =>
    have H : Hid (taskB t = false) := by show _ = _; unfold taskB; rw [h]; rfl
    go_enter Try.func27, Try.ntmps27
    go_wp2
    go_ret
    exact ⟨retb H.out.symm, rfl⟩
  | true =>
    have H : Hid (taskB t = decide (t < 24)) := by show _ = _; unfold taskB; rw [h]; rfl
    go_enter Try.func27, Try.ntmps27
    go_wp2
    go_ret
    exact ⟨retb H.out.symm, rfl⟩
theorem isLevel_any (t : Int) (w : World) :
    Calls Try.prog 28 #[.int .i64 t] w fun r w' => r = .returned (.bool (levB t)) ∧ w = w' := by
  cases h : decide (0 ≤ t) with
  | false =>
    have H : Hid (levB t = false) := by show _ = _; unfold levB; rw [h]; rfl
    go_enter Try.func28, Try.ntmps28
    go_wp2
    go_ret
    exact ⟨retb H.out.symm, rfl⟩
  | true =>
    have H : Hid (levB t = decide (t ≤ 9007199254740991)) := by show _ = _; unfold levB; rw [h]; rfl
    go_enter Try.func28, Try.ntmps28
    go_wp2
    go_ret
    exact ⟨retb H.out.symm, rfl⟩
theorem or_i64 (a b : Nat) (ha : a < 2305843009213693952) (hb : b < 2305843009213693952) : bits BinOp.or IntKind.i64 (a : Int) (b : Int) = ((a ||| b : Nat) : Int) := by
  have hx : a ||| b < 2 ^ 61 := Nat.or_lt_two_pow (by omega) (by omega)
  show IntKind.i64.wrap ((BitVec.ofInt 64 (a : Int) ||| BitVec.ofInt 64 (b : Int)).toNat : Int) = _
  rw [BitVec.toNat_or, ofInt_u64 a (by omega), ofInt_u64 b (by omega)]
  exact IntWalk.i64_in _ ⟨by omega, by omega⟩
theorem or_lev {l t : Int} (l0 : 0 ≤ l) (l1 : l ≤ big) (t0 : 0 ≤ t) (t1 : t < 24) : bits BinOp.or IntKind.i64 (l * 64) t = l * 64 + t := by
  unfold big at l1
  obtain ⟨n, rfl⟩ := Int.eq_ofNat_of_zero_le l0
  obtain ⟨m, rfl⟩ := Int.eq_ofNat_of_zero_le t0
  have e : ((n : Int) * 64) = ((n * 64 : Nat) : Int) := by omega
  rw [e, or_i64 _ _ (by omega) (by omega), nat_join 6 (n * 64) m (by omega) (by omega)]
  omega
theorem or_32 {l t : Int} (l0 : 0 ≤ l) (l1 : l ≤ big) (t0 : 0 ≤ t) (t1 : t < 24) : bits BinOp.or IntKind.i64 (l * 64 + t) 32 = l * 64 + 32 + t := by
  unfold big at l1
  obtain ⟨n, rfl⟩ := Int.eq_ofNat_of_zero_le l0
  obtain ⟨m, rfl⟩ := Int.eq_ofNat_of_zero_le t0
  have e : ((n : Int) * 64 + (m : Int)) = ((n * 64 + m : Nat) : Int) := by omega
  have e2 : (32 : Int) = ((32 : Nat) : Int) := rfl
  rw [e, e2, or_i64 _ _ (by omega) (by omega), ← nat_join 6 (n * 64) m (by omega) (by omega), Nat.or_assoc, Nat.or_comm m 32, nat_join 5 32 m (by decide) (by omega), nat_join 6 (n * 64) (32 + m) (by omega) (by omega)]
  omega
theorem kf_false (l t : Int) : kf l false t = l * 64 + 32 + t := by unfold kf; simp
theorem kf_true (l t : Int) : kf l true t = l * 64 + t := by unfold kf; simp
theorem keyOf_any (l t : Int) (r : Bool) (w : World) (l0 : 0 ≤ l) (l1 : l ≤ big) (t0 : 0 ≤ t) (t1 : t < 24) :
    Calls Try.prog 30 #[.int .i64 l, .bool r, .int .i64 t] w fun x w' => x = .returned (.int .i64 (kf l r t)) ∧ w = w' := by
  have H1 := Lib.hid (or_lev l0 l1 t0 t1)
  have H2 := Lib.hid (or_32 l0 l1 t0 t1)
  have b : l ≤ 9007199254740991 := l1
  cases r
  · go_enter Try.func30, Try.ntmps30
    go_wp2
    go_ret
    exact ⟨ret1 (by rw [H1.out, H2.out, kf_false]), rfl⟩
  · go_enter Try.func30, Try.ntmps30
    go_wp2
    go_ret
    exact ⟨ret1 (by rw [H1.out, kf_true]), rfl⟩
theorem levelOf_any (k : Int) (w : World) (_ : 0 ≤ k) (_ : k < 1000000000000000000) :
    Calls Try.prog 36 #[.int .i64 k] w fun x w' => x = .returned (.int .i64 (k / 64)) ∧ w = w' := by
  go_enter Try.func36, Try.ntmps36
  go_wp2
  go_ret
  exact ⟨rfl, rfl⟩
theorem kf_lev {l t : Int} {r : Bool} (t0 : 0 ≤ t) (t1 : t < 24) : kf l r t / 64 = l := by
  unfold kf; cases r <;> simp <;> omega
theorem kf_bd {l t : Int} {r : Bool} (l0 : 0 ≤ l) (l1 : l ≤ big) (t0 : 0 ≤ t) (t1 : t < 24) : 0 ≤ kf l r t ∧ kf l r t < 1000000000000000000 := by
  unfold kf; unfold big at l1; cases r <;> simp <;> omega
end Go.Proofs.Ytbfmoaojimimjaa
