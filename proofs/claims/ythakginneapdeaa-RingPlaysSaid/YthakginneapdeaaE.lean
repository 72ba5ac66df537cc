/- A ring that the law made; pick; the chapter's examples; two lists of numbers. -/
import Derived.Test.YthakginneapdeaaA
namespace Go.Proofs.Ythakginneapdeaa
open Go.ChangeShapes Go.WideShapes Go.ChangeAt Go.RowKit Go.Deep
/-- A ring that the law made: all that was there at w0 is as it was. -/
structure Hw (w0 w : World) (S : Nat → Prop) (p : Nat) (R T : Int) (L : List It) : Prop where
  rp : RP w S p R T L
  but : But No w0 w
  new : ∀ k, S k → w0.heap.size ≤ k
theorem Hw.step {w0 w w' : World} {S : Nat → Prop} {p : Nat} {R T T' : Int} {L L' : List It} (h : Hw w0 w S p R T L) (hm : Mv w S p R T' L' w') : Hw w0 w' S p R T' L' :=
  ⟨hm.1, h.but.andThen hm.2 (fun k hk => .inr (h.new k hk)), h.new⟩
theorem Hw.no {w0 w w' : World} {S : Nat → Prop} {p : Nat} {R T : Int} {L : List It} (h : Hw w0 w S p R T L) (hb : But No w w') : Hw w0 w' S p R T L := ⟨h.rp.no hb, h.but.trans hb, h.new⟩
def pk (c n : Int) : Int := (if c < 0 then -(c + 1) else c) % n
theorem pk_lt (c n : Int) (h : 0 < n) : 0 ≤ pk c n ∧ pk c n < n := ⟨Int.emod_nonneg _ (by omega), Int.emod_lt_of_pos _ h⟩
theorem ret1 {a b : Int} (h : a = b) : Ending.returned (.int .i64 a) = .returned (.int .i64 b) := by rw [h]
theorem pick_any (c n : Int) (w : World) (hc : inR c) (h0 : 0 < n) (h1 : n ≤ 100000) :
    Calls Try.prog 10 #[.int .i64 c, .int .i64 n] w fun r w' => r = .returned (.int .i64 (pk c n)) ∧ w = w' := by
  unfold inR at hc
  by_cases h : c < 0
  · have HP : Hid (pk c n = (-(c + 1)) % n) := by show _ = _; unfold pk; rw [if_pos h]
    have b1 : decide (c < 0) = true := by simp; omega
    have e0 : (0 : Int) ≤ -(c + 1) := by omega
    obtain ⟨d, hd⟩ : ∃ d, d = -(c + 1) := ⟨_, rfl⟩
    have HT : Hid ((-(c + 1)).tmod n = (-(c + 1)) % n) := Int.tmod_eq_emod_of_nonneg e0
    have nz : ¬ n = 0 := by omega
    clear hd
    go_enter Try.func10, Try.ntmps10
    go_wp2
    go_ret
    exact ⟨ret1 (by rw [HP.out]; first | rfl | (rw [← HT.out]; simp) | simp [Int.neg_tmod]), rfl⟩
  · have HP : Hid (pk c n = c % n) := by show _ = _; unfold pk; rw [if_neg h]
    have b1 : decide (c < 0) = false := by simp; omega
    have e0 : (0 : Int) ≤ c := by omega
    have nz : ¬ n = 0 := by omega
    go_enter Try.func10, Try.ntmps10
    go_wp2
    go_ret
    exact ⟨ret1 (by rw [HP.out]), rfl⟩
theorem inR_small {a : Int} (h : -1000 ≤ a ∧ a ≤ 1000) : inR a := by unfold inR; omega
theorem inR_nat {a : Nat} (h : a ≤ 1000) : inR a := by unfold inR; omega
def x7 : It := ⟨7, 1⟩
def x9 : It := ⟨9, 2⟩
def y7 : It := ⟨7, 3⟩
set_option maxHeartbeats 4000000 in
set_option maxRecDepth 100000 in
theorem examples_any (w : World) : Calls Try.prog 7 #[] w fun r w' => r = .returned (.bool true) ∧ But No w w' := by
  go_enter Try.func7, Try.ntmps7
  go_wp2_with fail
  refine (new_ok 5 w (by omega) (by omega)).mono ?_
  rintro e w1 ⟨p, rfl, S1, h1, b1, s1⟩
  have H1 : Hid (Hw w w1 S1 p 5 0 []) := ⟨h1, b1, s1⟩
  clear h1 b1 s1
  go_wp2_with fail
  refine (new_bad (-1) w1 (by omega)).mono ?_
  rintro e w2 ⟨rfl, rfl⟩
  go_wp2_with fail
  refine (put_any p 5 0 [] S1 w1 7 H1.out.rp (inR_small (by omega)) (by omega)).mono ?_
  rintro e w2 ⟨rfl, hm⟩
  have H2 : Hid (Hw w w2 S1 p 5 1 [x7]) := H1.out.step hm
  clear hm H1
  go_wp2_with fail
  refine (put_any p 5 1 [x7] S1 w2 9 H2.out.rp (inR_small (by omega)) (by omega)).mono ?_
  rintro e w3 ⟨rfl, hm⟩
  have H3 : Hid (Hw w w3 S1 p 5 2 [x7, x9]) := H2.out.step hm
  clear hm H2
  go_wp2_with fail
  refine (put_any p 5 2 [x7, x9] S1 w3 7 H3.out.rp (inR_small (by omega)) (by omega)).mono ?_
  rintro e w4 ⟨rfl, hm⟩
  have H4 : Hid (Hw w w4 S1 p 5 2 [x7, x9]) := H3.out.step hm
  clear hm H3
  go_wp2_with fail
  refine (drop_any p 5 2 [x7, x9] S1 w4 7 H4.out.rp).mono ?_
  rintro e w5 ⟨rfl, hm⟩
  have H5 : Hid (Hw w w5 S1 p 5 2 [x9]) := H4.out.step hm
  clear hm H4
  go_wp2_with fail
  refine (put_any p 5 2 [x9] S1 w5 7 H5.out.rp (inR_small (by omega)) (by omega)).mono ?_
  rintro e w6 ⟨rfl, hm⟩
  have H6 : Hid (Hw w w6 S1 p 5 3 [x9, y7]) := H5.out.step hm
  clear hm H5
  go_wp2_with fail
  refine (all_any p 5 3 [x9, y7] S1 w6 H6.out.rp).mono ?_
  rintro e w7 ⟨b, rfl, hI, hb, hbl⟩
  have HI := Lib.hid hI
  have H7 := Lib.hid (H6.out.no hb)
  clear hI hb hbl H6
  have a0 : w7.cell? ⟨b, 0, none⟩ = some (.int .i64 9) := HI.out.cell (k := 0) (by decide)
  have v1 : putK 5 0 [] 7 = 1 := by decide
  have v2 : putK 5 1 [x7] 9 = 2 := by decide
  have v3 : putE 5 [x7, x9] 7 = 4 := by decide
  have v4 : hasI [x7, x9] 7 = true := by decide
  have v5 : putK 5 2 [x9] 7 = 3 := by decide
  have CP : Hid (∀ w', But No w7 w' → Calls Try.prog 21 #[.pointer (some ⟨p, 0, none⟩), .int .i64 7] w' fun r w'' => r = .returned (.int .i64 1) ∧ ∃ m', w'' = w'.drewN m') := fun w' hb => place_any p 5 3 [x9, y7] S1 _ 7 (H7.out.rp.no hb)
  have CT : Hid (∀ w', But No w7 w' → Calls Try.prog 23 #[.pointer (some ⟨p, 0, none⟩), .int .i64 7] w' fun r w'' => r = .returned (.int .i64 3) ∧ ∃ m', w'' = w'.drewN m') := fun w' hb => ticket_any p 5 3 [x9, y7] S1 _ 7 (H7.out.rp.no hb)
  go_wp2_with (first | (go_at_call 21; refine (CP.out _ (But.refl No _)).mono ?_; rintro e w8 ⟨rfl, hw⟩; have HW8 := Lib.hid (drewN_but hw); clear hw) | (go_at_call 23; refine (CT.out _ HW8.out).mono ?_; rintro e w9 ⟨rfl, hw⟩; have HW9 := Lib.hid (HW8.out.trans (drewN_but hw)); clear hw))
  go_ret
  exact ⟨rfl, H7.out.but.trans HW9.out⟩
end Go.Proofs.Ythakginneapdeaa
