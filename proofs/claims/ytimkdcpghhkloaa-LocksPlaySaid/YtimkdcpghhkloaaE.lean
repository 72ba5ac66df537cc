/- Locks that the law made; pick; the chapter's examples. -/
import Derived.Test.YtimkdcpghhkloaaLkC3
namespace Go.Proofs.Ytimkdcpghhkloaa
open Go.ChangeShapes Go.WideShapes Go.ChangeAt Go.RowKit Go.Deep
open lok
/-- Locks that the law made: all that was there at w0 is as it was. -/
structure Hw (w0 w : World) (S : Nat → Prop) (p n : Nat) (N : Int) (q : Nat → List Int) : Prop where
  lp : LP w S p n N q
  but : But No w0 w
  new : ∀ k, S k → w0.heap.size ≤ k
theorem Hw.step {w0 w w' : World} {S : Nat → Prop} {p n : Nat} {N N' : Int} {q q' : Nat → List Int} (h : Hw w0 w S p n N q) (hm : LMv w S p n N' q' w') : Hw w0 w' S p n N' q' :=
  ⟨hm.1, h.but.andThen hm.2 (fun k hk => .inr (h.new k hk)), h.new⟩
theorem Hw.no {w0 w w' : World} {S : Nat → Prop} {p n : Nat} {N : Int} {q : Nat → List Int} (h : Hw w0 w S p n N q) (hb : But No w w') : Hw w0 w' S p n N q := ⟨h.lp.no hb, h.but.trans hb, h.new⟩
theorem Hw.made {w0 w w' : World} {S : Nat → Prop} {p n : Nat} {N : Int} {q : Nat → List Int} (h : LP w' S p n N q) (hb : But No w0 w) (hb2 : But No w w') (hs : ∀ k, S k → w.heap.size ≤ k) : Hw w0 w' S p n N q :=
  ⟨h, hb.trans hb2, fun k hk => Nat.le_trans hb.size (hs k hk)⟩
theorem pick_any (c n : Int) (w : World) (hc : inR c) (h0 : 0 < n) (h1 : n ≤ 2000000000000000) :
    Calls Try.prog 9 #[.int .i64 c, .int .i64 n] w fun r w' => r = .returned (.int .i64 (pk c n)) ∧ w = w' := by
  unfold inR at hc
  by_cases h : c < 0
  · have HP : Hid (pk c n = (-(c + 1)) % n) := by show _ = _; unfold pk; rw [if_pos h]
    have b1 : decide (c < 0) = true := by simp; omega
    have e0 : (0 : Int) ≤ -(c + 1) := by omega
    obtain ⟨d, hd⟩ : ∃ d, d = -(c + 1) := ⟨_, rfl⟩
    have HT : Hid ((-(c + 1)).tmod n = (-(c + 1)) % n) := Int.tmod_eq_emod_of_nonneg e0
    have nz : ¬ n = 0 := by omega
    clear hd
    go_enter Try.func9, Try.ntmps9
    go_wp2
    go_ret
    exact ⟨ret1 (by rw [HP.out]; first | rfl | (rw [← HT.out]; simp) | simp [Int.neg_tmod]), rfl⟩
  · have HP : Hid (pk c n = c % n) := by show _ = _; unfold pk; rw [if_neg h]
    have b1 : decide (c < 0) = false := by simp; omega
    have e0 : (0 : Int) ≤ c := by omega
    have nz : ¬ n = 0 := by omega
    go_enter Try.func9, Try.ntmps9
    go_wp2
    go_ret
    exact ⟨ret1 (by rw [HP.out]), rfl⟩
def q0 : Nat → List Int := fun _ => []
def q1 := askQ 2 q0 0 5
def q2 := askQ 2 q1 0 2
def q3 := askQ 2 q2 1 5
def q4 := freQ 2 q3 2
def q5 := freQ 2 q4 5
theorem t1 : askA 2 q0 0 5 = 0 ∧ askE 2 q0 0 5 = 0 := by decide
theorem t2 : askA 2 q1 0 2 = 1 ∧ askE 2 q1 0 2 = 0 := by decide
theorem t3 : askA 2 q2 1 5 = 0 ∧ askE 2 q2 1 5 = 4 := by decide
theorem t4 : holdV 2 q3 0 = 5 ∧ hasV 2 q3 2 = false := by decide
theorem t5 : freA 2 q3 2 = 0 ∧ freE 2 q3 2 = 5 := by decide
theorem t6 : freA 2 q4 5 = 2 ∧ freE 2 q4 5 = 0 := by decide
theorem t7 : holdV 2 q5 0 = 2 ∧ wantV 2 q5 2 = 0 ∧ wantV 2 q5 5 = -1 := by decide
set_option maxHeartbeats 4000000 in
set_option maxRecDepth 100000 in
theorem examples_any (w : World) : Calls Try.prog 6 #[] w fun r w' => r = .returned (.bool true) ∧ But No w w' := by
  go_enter Try.func6, Try.ntmps6
  go_wp2_with fail
  refine (new_ok 2 w (by omega)).mono ?_
  rintro e w1 ⟨p, S, rfl, h1, hb, hs⟩
  have H1 := Lib.hid (Hw.made h1 (But.refl No w) hb hs)
  clear h1 hb hs
  go_wp2_with fail
  refine (new_bad 9 w1 (by decide)).mono ?_
  rintro e w2 ⟨rfl, rfl⟩
  go_wp2_with fail
  refine (ask_any p 2 0 q0 S _ 0 5 H1.out.lp (by omega)).mono ?_
  rintro e w2 ⟨rfl, hm⟩
  rw [t1.1, t1.2]
  have K2 := Lib.hid (H1.out.step hm)
  clear hm
  go_wp2_with fail
  refine (ask_any p 2 1 q1 S _ 0 2 K2.out.lp (by omega)).mono ?_
  rintro e w3 ⟨rfl, hm⟩
  rw [t2.1, t2.2]
  have K3 := Lib.hid (K2.out.step hm)
  clear hm
  go_wp2_with fail
  refine (ask_any p 2 2 q2 S _ 1 5 K3.out.lp (by omega)).mono ?_
  rintro e w4 ⟨rfl, hm⟩
  rw [t3.1, t3.2]
  have K4 := Lib.hid (K3.out.step hm)
  clear hm
  go_wp2_with fail
  refine (holder_any p 2 3 q3 S _ 0 K4.out.lp).mono ?_
  rintro e w5 ⟨rfl, hb⟩
  rw [t4.1]
  have K5 := Lib.hid (K4.out.no hb)
  clear hb
  go_wp2_with fail
  refine (has_any p 2 3 q3 S _ 2 (inR_small (by decide)) K5.out.lp).mono ?_
  rintro e w6 ⟨rfl, hb⟩
  rw [t4.2]
  have K6 := Lib.hid (K5.out.no hb)
  clear hb
  go_wp2_with fail
  refine (free_any p 2 3 q3 S _ 2 (inR_small (by decide)) K6.out.lp).mono ?_
  rintro e w7 ⟨rfl, hm⟩
  rw [t5.1, t5.2]
  have K7 := Lib.hid (K6.out.step hm)
  clear hm
  go_wp2_with fail
  refine (free_any p 2 3 q4 S _ 5 (inR_small (by decide)) K7.out.lp).mono ?_
  rintro e w8 ⟨rfl, hm⟩
  rw [t6.1, t6.2]
  have K8 := Lib.hid (K7.out.step hm)
  clear hm
  have A1 := Lib.hid (fun W (h : Hw w W S p 2 3 q5) => holder_any p 2 3 q5 S W 0 h.lp)
  have A2 := Lib.hid (fun W (h : Hw w W S p 2 3 q5) => wants_any p 2 3 q5 S W 2 (inR_small (by decide)) h.lp)
  have A3 := Lib.hid (fun W (h : Hw w W S p 2 3 q5) => wants_any p 2 3 q5 S W 5 (inR_small (by decide)) h.lp)
  rw [t7.1] at A1
  rw [t7.2.1] at A2
  rw [t7.2.2] at A3
  have KF : Hid (Hw w w8 S p 2 3 q5) := K8
  go_wp2_with (first
    | (go_at_call 14; ((with_reducible refine (A1.out _ KF.out).mono ?_); rintro e w9 ⟨rfl, hb⟩; have KF9 := Lib.hid (KF.out.no hb); clear hb))
    | (go_at_call 16; ((with_reducible refine (A2.out _ KF9.out).mono ?_); rintro e w10 ⟨rfl, hb⟩; have KF10 := Lib.hid (KF9.out.no hb); clear hb; clear A2))
    | (go_at_call 16; ((with_reducible refine (A3.out _ KF10.out).mono ?_); rintro e w11 ⟨rfl, hb⟩; have KF11 := Lib.hid (KF10.out.no hb); clear hb)))
  go_ret
  exact ⟨rfl, KF11.out.but⟩
end Go.Proofs.Ytimkdcpghhkloaa
