/- The contract of the document's own Cmp. -/
import Derived.Test.YtjonlpoiiffalaaB3
namespace Go.Proofs.Ytjonlpoiiffalaa
open Go.ChangeShapes Go.WideShapes Go.ChangeAt Go.RowKit
theorem sgn_swap (x y : Int) : sgn y x = - sgn x y := by unfold sgn; repeat' split; all_goals omega
theorem quo_gt {x y u v : Int} (y0 : 0 < y) (v0 : 0 < v) (h : u / v < x / y) : u * y < x * v := by
  have h1 := Int.lt_ediv_add_one_mul_self u v0
  have h2 := Int.ediv_mul_le x (b := y) (by omega)
  have h3 : (u / v + 1) * v * y ≤ x / y * v * y := by
    refine Int.mul_le_mul_of_nonneg_right (Int.mul_le_mul_of_nonneg_right (by omega) (by omega)) (by omega)
  have h4 : u * y < (u / v + 1) * v * y := Int.mul_lt_mul_of_pos_right h1 y0
  have h5 : x / y * y * v ≤ x * v := Int.mul_le_mul_of_nonneg_right h2 (by omega)
  rw [Int.mul_right_comm] at h5
  omega
theorem rest_sgn {x y u v : Int} (h : x / y = u / v) : sgn (x * v) (u * y) = sgn (x % y * v) (u % v * y) := by
  have h1 := Int.ediv_mul_add_emod x y
  have h2 := Int.ediv_mul_add_emod u v
  have e1 : x * v = x / y * y * v + x % y * v := by rw [← Int.add_mul, h1]
  have e2 : u * y = u / v * v * y + u % v * y := by rw [← Int.add_mul, h2]
  have e3 : u / v * v * y = x / y * y * v := by rw [h, Int.mul_right_comm]
  rw [e1, e2, e3]
  unfold sgn
  repeat' split
  all_goals omega
structure CRel (R x y u v s : Int) : Prop where
  x0 : 0 ≤ x
  x1 : x ≤ 9223372036854775807
  y0 : 0 < y
  y1 : y ≤ 9223372036854775807
  u0 : 0 ≤ u
  u1 : u ≤ 9223372036854775807
  v0 : 0 < v
  v1 : v ≤ 9223372036854775807
  sg : s = 1 ∨ s = -1
  eq : R = s * sgn (x * v) (u * y)
theorem CRel.gt {R x y u v s : Int} (h : CRel R x y u v s) (k : u / v < x / y) : R = s := by
  rw [h.eq, sgn_gt (quo_gt h.y0 h.v0 k), Int.mul_one]
theorem CRel.lt {R x y u v s : Int} (h : CRel R x y u v s) (k : x / y < u / v) : R = -s := by
  rw [h.eq, sgn_lt (quo_gt h.v0 h.y0 k), Int.mul_neg, Int.mul_one]
theorem CRel.same {R x y u v s : Int} (h : CRel R x y u v s) (k : x / y = u / v) (p : x % y = 0) (t : u % v = 0) : R = 0 := by
  rw [h.eq, rest_sgn k, p, t, sgn_eq (by simp), Int.mul_zero]
theorem CRel.left {R x y u v s : Int} (h : CRel R x y u v s) (k : x / y = u / v) (p : x % y = 0) (t : 0 < u % v) : R = -s := by
  rw [h.eq, rest_sgn k, p, sgn_lt (by rw [Int.zero_mul]; exact Int.mul_pos t h.y0), Int.mul_neg, Int.mul_one]
theorem CRel.right {R x y u v s : Int} (h : CRel R x y u v s) (k : x / y = u / v) (p : 0 < x % y) (t : u % v = 0) : R = s := by
  rw [h.eq, rest_sgn k, t, sgn_gt (by rw [Int.zero_mul]; exact Int.mul_pos p h.v0), Int.mul_one]
theorem CRel.next {R x y u v s : Int} (h : CRel R x y u v s) (k : x / y = u / v) (p : 0 < x % y) (t : 0 < u % v) : CRel R y (x % y) v (u % v) (-s) := by
  have := h.y0; have := h.y1; have := h.v0; have := h.v1
  have h1 := Int.emod_lt_of_pos x h.y0
  have h2 := Int.emod_lt_of_pos u h.v0
  refine ⟨by omega, by omega, p, by omega, by omega, by omega, t, by omega, by have := h.sg; omega, ?_⟩
  rw [h.eq, rest_sgn k, sgn_swap (v * (x % y)) (y * (u % v)), Int.mul_comm v, Int.mul_comm y, Int.neg_mul_neg]
theorem CRel.start {a b c d : Int} (ha : inR a) (hb : inR b) (hc : inR c) (hd : inR d) (a0 : 0 ≤ a) (b0 : 0 < b) (c0 : 0 ≤ c) (d0 : 0 < d) : CRel (sgn (a * d) (c * b)) a b c d 1 := by
  unfold inR at ha hb hc hd
  exact ⟨a0, ha.2, b0, hb.2, c0, hc.2, d0, hd.2, Or.inl rfl, by rw [Int.one_mul]⟩
set_option maxHeartbeats 2000000 in
theorem rcmp_good (a b c d : Int) (ha : inR a) (hb : inR b) (hc : inR c) (hd : inR d) (a0 : 0 ≤ a) (b0 : 0 < b) (c0 : 0 ≤ c) (d0' : 0 < d) (w : World) :
    Calls Try.prog 32 #[.int .i64 a, .int .i64 b, .int .i64 c, .int .i64 d] w fun e w' => e = .returned (.tuple #[.int .i64 (cmV a b c d), .int .i64 (cmE a b c d)]) ∧ Grew w w' := by
  have hm := cm_good a0 b0 c0 d0'
  have hs := CRel.start ha hb hc hd a0 b0 c0 d0'
  rw [hm.1] at hs
  have HS := Lib.hid hs
  have HE := Lib.hid hm.2
  clear hs hm
  obtain ⟨R, hR⟩ : ∃ R, R = cmV a b c d := ⟨_, rfl⟩
  obtain ⟨E, hE⟩ : ∃ E, E = cmE a b c d := ⟨_, rfl⟩
  rw [← hR] at HS
  rw [← hE] at HE
  rw [← hR, ← hE]
  clear hR hE
  unfold inR at ha hb hc hd
  go_enter Try.func32, Try.ntmps32
  go_wp2
  go_loopw [0, 1, 2, 3, 10] (fun x y u v s wx => ∃ (x' y' u' v' s' : Int), x = .int .i64 x' ∧ y = .int .i64 y' ∧ u = .int .i64 u' ∧ v = .int .i64 v' ∧ s = .int .i64 s' ∧ Hid (CRel R x' y' u' v' s') ∧ Grew w wx) (fun _ y _ _ _ _ => (intOf y).toNat)
  case atStart => exact ⟨a, b, c, d, 1, rfl, rfl, rfl, rfl, rfl, HS, Grew.refl _⟩
  case round =>
    clear HS
    obtain ⟨x, y, u, v, s, rfl, rfl, rfl, rfl, rfl, hr, hg⟩ := hrel
    have x0 := hr.out.x0
    have x1 := hr.out.x1
    have y0 := hr.out.y0
    have y1 := hr.out.y1
    have u0 := hr.out.u0
    have u1 := hr.out.u1
    have v0 := hr.out.v0
    have v1 := hr.out.v1
    have s1 := hr.out.sg
    have s2 : -1 ≤ s ∧ s ≤ 1 := by omega
    clear s1
    have e1 : IntKind.i64.wrap (x.tdiv y) = x / y := IntWalk.i64_quo x y ⟨x0, x1, by omega⟩
    have e2 : IntKind.i64.wrap (u.tdiv v) = u / v := IntWalk.i64_quo u v ⟨u0, u1, by omega⟩
    have z1 : (y == 0) = false := by simp; omega
    have z2 : (v == 0) = false := by simp; omega
    rcases Int.lt_trichotomy (x / y) (u / v) with hc | hc | hc
    · have hR := Lib.hid (hr.out.lt hc)
      have k1 : (x / y != u / v) = true := by simp; omega
      have k2 : decide (u / v < x / y) = false := by simp; omega
      go_wp2
      go_quiet (fail)
      go_wp2
      go_quiet (fail)
      go_wp2
      go_ret2
      exact ⟨ret2 hR.out.symm HE.out, by first | exact hg.drewN _ | exact (hg.drewN _).drewN _⟩
    · have k1 : (x / y != u / v) = false := by simp; omega
      have p0 : 0 ≤ x % y := Int.emod_nonneg _ (by omega)
      have p1 : x % y < y := Int.emod_lt_of_pos _ y0
      have t0 : 0 ≤ u % v := Int.emod_nonneg _ (by omega)
      have t1 : u % v < v := Int.emod_lt_of_pos _ v0
      have HC := Lib.hid hc
      clear hc
      by_cases hp : x % y = 0
      · have hp' : (x % y == 0) = true := by simpa using hp
        by_cases ht : u % v = 0
        · have ht' : (u % v == 0) = true := by simpa using ht
          have hR := Lib.hid (hr.out.same HC.out hp ht)
          clear hp ht
          go_wp2
          go_quiet (fail)
          go_wp2
          go_ret2
          exact ⟨ret2 hR.out.symm HE.out, (hg.drewN _)⟩
        · have ht' : (u % v == 0) = false := by simpa using ht
          have hR := Lib.hid (hr.out.left HC.out hp (by omega))
          clear hp ht
          go_wp2
          go_quiet (fail)
          go_wp2
          go_ret2
          exact ⟨ret2 hR.out.symm HE.out, (hg.drewN _)⟩
      · have hp' : (x % y == 0) = false := by simpa using hp
        by_cases ht : u % v = 0
        · have ht' : (u % v == 0) = true := by simpa using ht
          have hR := Lib.hid (hr.out.right HC.out (by omega) ht)
          clear hp ht
          go_wp2
          go_quiet (fail)
          go_wp2
          go_ret2
          exact ⟨ret2 hR.out.symm HE.out, (hg.drewN _)⟩
        · have ht' : (u % v == 0) = false := by simpa using ht
          have hr' := Lib.hid (hr.out.next HC.out (by omega) (by omega))
          clear hp ht
          go_wp2
          go_quiet (fail)
          go_wp2
          go_roundw
          case rel => exact ⟨_, _, _, _, _, rfl, rfl, rfl, rfl, rfl, hr', hg.drewN _⟩
          case measure => simp [intOf]; omega
    · have hR := Lib.hid (hr.out.gt hc)
      have k1 : (x / y != u / v) = true := by simp; omega
      have k2 : decide (u / v < x / y) = true := by simp; omega
      go_wp2
      go_quiet (fail)
      go_wp2
      go_quiet (fail)
      go_wp2
      go_ret2
      exact ⟨ret2 hR.out.symm HE.out, by first | exact hg.drewN _ | exact (hg.drewN _).drewN _⟩
set_option maxHeartbeats 1000000 in
theorem rcmp_bad (a b c d : Int) (h : a < 0 ∨ b ≤ 0 ∨ c < 0 ∨ d ≤ 0) (w : World) :
    Calls Try.prog 32 #[.int .i64 a, .int .i64 b, .int .i64 c, .int .i64 d] w fun e w' => e = .returned (.tuple #[.int .i64 (cmV a b c d), .int .i64 (cmE a b c d)]) ∧ Grew w w' := by
  have hm := Lib.hid (cm_bad h)
  by_cases h1 : b ≤ 0
  · clear h
    go_enter Try.func32, Try.ntmps32
    go_wp2
    go_ret2
    exact ⟨ret2c hm.out, Grew.refl _⟩
  · by_cases h2 : d ≤ 0
    · clear h
      go_enter Try.func32, Try.ntmps32
      go_wp2
      go_ret2
      exact ⟨ret2c hm.out, Grew.refl _⟩
    · by_cases h3 : a < 0
      · clear h
        go_enter Try.func32, Try.ntmps32
        go_wp2
        go_ret2
        exact ⟨ret2c hm.out, Grew.refl _⟩
      · have h4 : c < 0 := by omega
        clear h
        go_enter Try.func32, Try.ntmps32
        go_wp2
        go_ret2
        exact ⟨ret2c hm.out, Grew.refl _⟩
theorem rcmp_any (a b c d : Int) (ha : inR a) (hb : inR b) (hc : inR c) (hd : inR d) (w : World) :
    Calls Try.prog 32 #[.int .i64 a, .int .i64 b, .int .i64 c, .int .i64 d] w fun e w' => e = .returned (.tuple #[.int .i64 (cmV a b c d), .int .i64 (cmE a b c d)]) ∧ Grew w w' := by
  by_cases h : a < 0 ∨ b ≤ 0 ∨ c < 0 ∨ d ≤ 0
  · exact rcmp_bad a b c d h w
  · exact rcmp_good a b c d ha hb hc hd (by omega) (by omega) (by omega) (by omega) w
end Go.Proofs.Ytjonlpoiiffalaa
