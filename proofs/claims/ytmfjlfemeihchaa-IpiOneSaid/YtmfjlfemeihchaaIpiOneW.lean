/- The walk of IpiOne. -/
import Derived.Test.YtmfjlfemeihchaaE
namespace Go.Proofs.Ytmfjlfemeihchaa
open Go.ChangeShapes Go.WideShapes Go.ChangeAt Go.RowKit Go.Deep
theorem wi_small {l : Int} (h1 : 1 ≤ l) (h2 : l ≤ 50) : wi l = l := by unfold wi; rw [if_neg (by omega), if_neg (by omega)]
section
variable {t a b now one two : Int} (ht : 0 ≤ t ∧ t < 24) (ha : 0 ≤ a ∧ a < 8) (hb : 0 ≤ b ∧ b < 8) (hn : 0 ≤ now ∧ now < 1099511627776)
include ht ha hn
theorem o1 : okS 8 [] a t now = true ∧ turnS 8 0 [] a t now = 1 ∧ sent 8 0 [] a t now one = [⟨a, t, now + wi one, 1⟩] := by
  have h : okS 8 [] a t now = true := okS_in (by unfold inB; omega) rfl
  exact ⟨h, by unfold turnS; rw [if_pos h], by unfold sent; rw [if_pos h]; rfl⟩
omit ht ha hn in
theorem o2 : dueOf [⟨a, t, now + wi one, 1⟩] a t = now + wi one := by simp [dueOf, fnd]
omit ht ha hn in
theorem o3 : okS 8 [⟨a, t, now + wi one, 1⟩] a t now = false ∧ turnS 8 1 [⟨a, t, now + wi one, 1⟩] a t now = 1 ∧ sent 8 1 [⟨a, t, now + wi one, 1⟩] a t now two = [⟨a, t, now + wi one, 1⟩] := by
  have h : okS 8 [⟨a, t, now + wi one, 1⟩] a t now = false := okS_there (n := ⟨a, t, now + wi one, 1⟩) (by simp [fnd])
  exact ⟨h, by unfold turnS; rw [h]; rfl, by unfold sent; rw [h]; rfl⟩
omit ha in
include hb in
theorem o4 (hab : a ≠ b) : okS 8 [⟨a, t, now + wi one, 1⟩] b t now = true ∧ turnS 8 1 [⟨a, t, now + wi one, 1⟩] b t now = 2 ∧ sent 8 1 [⟨a, t, now + wi one, 1⟩] b t now two = [⟨a, t, now + wi one, 1⟩, ⟨b, t, now + wi two, 2⟩] := by
  have h : okS 8 [⟨a, t, now + wi one, 1⟩] b t now = true := okS_in (by unfold inB; omega) (by simp [fnd, hab])
  exact ⟨h, by unfold turnS; rw [if_pos h], by unfold sent; rw [if_pos h]; rfl⟩
end
theorem p1 (t a D : Int) : tk a (D - 1) [⟨a, t, D, 1⟩] = [] ∧ lf a (D - 1) [⟨a, t, D, 1⟩] = [⟨a, t, D, 1⟩] := by
  have : ¬ D ≤ D - 1 := by omega
  simp [tk, lf, this]
theorem p2 (t a D : Int) : (tk a D [⟨a, t, D, 1⟩]).map Nt.task = [t] ∧ lf a D [⟨a, t, D, 1⟩] = [] := by
  simp [tk, lf, ins]
theorem p3 {t a b D E : Int} (h : a ≠ b) : tk a (D - 1) [⟨a, t, D, 1⟩, ⟨b, t, E, 2⟩] = [] ∧ lf a (D - 1) [⟨a, t, D, 1⟩, ⟨b, t, E, 2⟩] = [⟨a, t, D, 1⟩, ⟨b, t, E, 2⟩] := by
  have : ¬ D ≤ D - 1 := by omega
  simp [tk, lf, this, Ne.symm h]
theorem p4 {t a b D E : Int} (h : a ≠ b) : (tk a D [⟨a, t, D, 1⟩, ⟨b, t, E, 2⟩]).map Nt.task = [t] ∧ lf a D [⟨a, t, D, 1⟩, ⟨b, t, E, 2⟩] = [⟨b, t, E, 2⟩] := by
  simp [tk, lf, ins, Ne.symm h]
theorem p5 {t a b E : Int} (h : a ≠ b) : dueOf [⟨b, t, E, 2⟩] a t = -1 ∧ cn [⟨b, t, E, 2⟩] b = 1 := by
  simp [dueOf, fnd, cn, Ne.symm h]
theorem p6 {t a b D E : Int} : dueOf [⟨a, t, D, 1⟩, ⟨b, t, E, 2⟩] a t = D := by simp [dueOf, fnd]
theorem p7 {t a D : Int} : dueOf [⟨a, t, D, 1⟩] a t = D := by simp [dueOf, fnd]
theorem p8 (t a : Int) : dueOf [] a t = -1 := rfl
set_option maxHeartbeats 4000000 in
set_option maxRecDepth 100000 in
theorem one_eq_lo (task a0 b0 now0 one two : Int) (w : World) (w0 : inR task) (w1 : inR a0) (w2 : inR b0) (w3 : inR now0) (hab : pk a0 8 = pk b0 8) (h1 : one < 1) :
    Calls Try.prog 5 #[.int .i64 task, .int .i64 a0, .int .i64 b0, .int .i64 now0, .int .i64 one, .int .i64 two] w fun r w' => r = .returned (.bool true) ∧ But No w w' := by
  have ht := pk_lt task 24 (by omega)
  have ha := pk_lt a0 8 (by omega)
  have hb := pk_lt b0 8 (by omega)
  have hn := pk_lt now0 1099511627776 (by omega)
  have C1 : Hid (∀ W, Calls Try.prog 9 #[.int .i64 task, .int .i64 24] W fun r w' => r = .returned (.int .i64 (pk task 24)) ∧ W = w') := fun W => pick_any task 24 W w0 (by omega) (by omega)
  have C2 : Hid (∀ W, Calls Try.prog 9 #[.int .i64 a0, .int .i64 8] W fun r w' => r = .returned (.int .i64 (pk a0 8)) ∧ W = w') := fun W => pick_any a0 8 W w1 (by omega) (by omega)
  have C3 : Hid (∀ W, Calls Try.prog 9 #[.int .i64 b0, .int .i64 8] W fun r w' => r = .returned (.int .i64 (pk b0 8)) ∧ W = w') := fun W => pick_any b0 8 W w2 (by omega) (by omega)
  have C4 : Hid (∀ W, Calls Try.prog 9 #[.int .i64 now0, .int .i64 1099511627776] W fun r w' => r = .returned (.int .i64 (pk now0 1099511627776)) ∧ W = w') := fun W => pick_any now0 1099511627776 W w3 (by omega) (by omega)
  generalize pk task 24 = t at ht C1
  generalize pk a0 8 = a at ha C2 hab
  generalize pk b0 8 = b at hb C3 hab
  generalize pk now0 1099511627776 = now at hn C4
  subst hab
  have hw := wi_rng one
  obtain ⟨D, hD⟩ : ∃ D, now + wi one = D := ⟨_, rfl⟩
  have HDB : Hid (1 ≤ D ∧ D ≤ 1099511627826) := by show _ ∧ _; omega
  have hd1 : 1 ≤ D := by omega
  have hd2 : D ≤ 1099511627826 := by omega
  have t1 : decide (D < now + 1) = false := by simp; omega
  have t2 : decide (now + 50 < D) = false := by simp; omega
  have t3 : decide (1 ≤ one) = false := by simp; omega
  have Q1 := o1 (one := one) ht ha hn
  have Q2 := o2 (t := t) (a := a) (now := now) (one := one)
  have Q3 := o3 (t := t) (a := a) (now := now) (one := one) (two := two)
  rw [hD] at Q1 Q2 Q3
  have HQ1 := Lib.hid Q1
  have HQ2 := Lib.hid Q2
  have HQ3 := Lib.hid Q3
  have HIA : Hid (inR a ∧ inR a ∧ inR t) := by show inR _ ∧ inR _ ∧ inR _; unfold inR; omega
  clear Q1 Q2 Q3 hD w0 w1 w2 w3 hw ht ha  h1
  go_enter Try.func5, Try.ntmps5
  go_wp2_with fail
  refine (examples_any w).mono ?_
  rintro e w1 ⟨rfl, hb1⟩
  have HB1 := Lib.hid hb1
  clear hb1
  go_wp2_with fail
  refine (new_ok 8 w1 (by omega) (by omega)).mono ?_
  rintro e w2 ⟨p, m, rfl, h1, h2, h3⟩
  have H2 := Lib.hid (Hw.made HB1.out h1 h2 h3)
  clear h1 h2 h3 HB1
  go_wp2_with fail
  refine (C1.out w2).mono ?_
  rintro e w3 ⟨rfl, rfl⟩
  go_wp2_with fail
  refine (C2.out w2).mono ?_
  rintro e w3 ⟨rfl, rfl⟩
  go_wp2_with fail
  refine (C3.out w2).mono ?_
  rintro e w3 ⟨rfl, rfl⟩
  go_wp2_with fail
  refine (C4.out w2).mono ?_
  rintro e w3 ⟨rfl, rfl⟩
  go_wp2_with fail
  refine (send_any p m 8 0 [] a t now one w2 H2.out.bp (by omega)).mono ?_
  rintro e w3 ⟨rfl, hm⟩
  have H3 := Lib.hid (H2.out.send hm)
  rw [HQ1.out.1]
  rw [HQ1.out.2.1, HQ1.out.2.2] at H3
  clear hm H2
  go_wp2_with fail
  refine (due_any p m 8 1 [⟨a, t, D, 1⟩] a t w3 H3.out.bp HIA.out.1 HIA.out.2.2).mono ?_
  rintro e w4 ⟨rfl, hm⟩
  have H4 := Lib.hid (H3.out.no hm)
  rw [HQ2.out]
  clear hm H3
  go_wp2_with fail
  refine (send_any p m 8 1 [⟨a, t, D, 1⟩] a t now two w4 H4.out.bp (by omega)).mono ?_
  rintro e w5 ⟨rfl, hm⟩
  have H5 := Lib.hid (H4.out.send hm)
  rw [HQ3.out.1]
  rw [HQ3.out.2.1, HQ3.out.2.2] at H5
  clear hm H4
  go_wp2_with fail
  refine (due_any p m 8 1 [⟨a, t, D, 1⟩] a t w5 H5.out.bp HIA.out.1 HIA.out.2.2).mono ?_
  rintro e w6 ⟨rfl, hm⟩
  have H6 := Lib.hid (H5.out.no hm)
  rw [p7]
  clear hm H5
  go_wp2_with fail
  refine (take_any p m 8 1 [⟨a, t, D, 1⟩] a (D - 1) w6 H6.out.bp HIA.out.1).mono ?_
  rintro e w7 ⟨v, rfl, hm⟩
  have H7 := Lib.hid (H6.out.take hm)
  rw [(p1 t a D).2] at H7
  have ho := hm.o
  rw [(p1 t a D).1] at ho
  obtain ⟨A, d, rfl, _⟩ := ho.slice
  clear hm H6 ho
  go_wp2_with fail
  refine (take_any p m 8 1 [⟨a, t, D, 1⟩] a D w7 H7.out.bp HIA.out.1).mono ?_
  rintro e w8 ⟨v, rfl, hm⟩
  have H8 := Lib.hid (H7.out.take hm)
  rw [(p2 t a D).2] at H8
  have ho := hm.o
  rw [(p2 t a D).1] at ho
  obtain ⟨B, d', rfl, _⟩ := ho.slice
  obtain ⟨g, rfl, hg, hc⟩ := ho.cell (k := 0) (by simp)
  have o0 := hc 0 (by simp)
  simp only [List.getD, List.getElem?_cons_zero, Option.getD] at o0
  clear hm H7 ho hc hg
  go_wp2_with fail
  refine (due_any p m 8 1 [] a t w8 H8.out.bp HIA.out.1 HIA.out.2.2).mono ?_
  rintro e w9 ⟨rfl, hm⟩
  have H9 := Lib.hid (H8.out.no hm)
  rw [p8]
  clear hm H8
  go_wp2
  go_ret
  exact ⟨rfl, H9.out.but⟩
set_option maxHeartbeats 4000000 in
set_option maxRecDepth 100000 in
theorem one_eq_hi (task a0 b0 now0 one two : Int) (w : World) (w0 : inR task) (w1 : inR a0) (w2 : inR b0) (w3 : inR now0) (hab : pk a0 8 = pk b0 8) (h1 : 50 < one) :
    Calls Try.prog 5 #[.int .i64 task, .int .i64 a0, .int .i64 b0, .int .i64 now0, .int .i64 one, .int .i64 two] w fun r w' => r = .returned (.bool true) ∧ But No w w' := by
  have ht := pk_lt task 24 (by omega)
  have ha := pk_lt a0 8 (by omega)
  have hb := pk_lt b0 8 (by omega)
  have hn := pk_lt now0 1099511627776 (by omega)
  have C1 : Hid (∀ W, Calls Try.prog 9 #[.int .i64 task, .int .i64 24] W fun r w' => r = .returned (.int .i64 (pk task 24)) ∧ W = w') := fun W => pick_any task 24 W w0 (by omega) (by omega)
  have C2 : Hid (∀ W, Calls Try.prog 9 #[.int .i64 a0, .int .i64 8] W fun r w' => r = .returned (.int .i64 (pk a0 8)) ∧ W = w') := fun W => pick_any a0 8 W w1 (by omega) (by omega)
  have C3 : Hid (∀ W, Calls Try.prog 9 #[.int .i64 b0, .int .i64 8] W fun r w' => r = .returned (.int .i64 (pk b0 8)) ∧ W = w') := fun W => pick_any b0 8 W w2 (by omega) (by omega)
  have C4 : Hid (∀ W, Calls Try.prog 9 #[.int .i64 now0, .int .i64 1099511627776] W fun r w' => r = .returned (.int .i64 (pk now0 1099511627776)) ∧ W = w') := fun W => pick_any now0 1099511627776 W w3 (by omega) (by omega)
  generalize pk task 24 = t at ht C1
  generalize pk a0 8 = a at ha C2 hab
  generalize pk b0 8 = b at hb C3 hab
  generalize pk now0 1099511627776 = now at hn C4
  subst hab
  have hw := wi_rng one
  obtain ⟨D, hD⟩ : ∃ D, now + wi one = D := ⟨_, rfl⟩
  have HDB : Hid (1 ≤ D ∧ D ≤ 1099511627826) := by show _ ∧ _; omega
  have hd1 : 1 ≤ D := by omega
  have hd2 : D ≤ 1099511627826 := by omega
  have t1 : decide (D < now + 1) = false := by simp; omega
  have t2 : decide (now + 50 < D) = false := by simp; omega
  have t3 : decide (1 ≤ one) = true := by simp; omega
  have t4 : decide (one ≤ 50) = false := by simp; omega
  have Q1 := o1 (one := one) ht ha hn
  have Q2 := o2 (t := t) (a := a) (now := now) (one := one)
  have Q3 := o3 (t := t) (a := a) (now := now) (one := one) (two := two)
  rw [hD] at Q1 Q2 Q3
  have HQ1 := Lib.hid Q1
  have HQ2 := Lib.hid Q2
  have HQ3 := Lib.hid Q3
  have HIA : Hid (inR a ∧ inR a ∧ inR t) := by show inR _ ∧ inR _ ∧ inR _; unfold inR; omega
  clear Q1 Q2 Q3 hD w0 w1 w2 w3 hw ht ha  h1
  go_enter Try.func5, Try.ntmps5
  go_wp2_with fail
  refine (examples_any w).mono ?_
  rintro e w1 ⟨rfl, hb1⟩
  have HB1 := Lib.hid hb1
  clear hb1
  go_wp2_with fail
  refine (new_ok 8 w1 (by omega) (by omega)).mono ?_
  rintro e w2 ⟨p, m, rfl, h1, h2, h3⟩
  have H2 := Lib.hid (Hw.made HB1.out h1 h2 h3)
  clear h1 h2 h3 HB1
  go_wp2_with fail
  refine (C1.out w2).mono ?_
  rintro e w3 ⟨rfl, rfl⟩
  go_wp2_with fail
  refine (C2.out w2).mono ?_
  rintro e w3 ⟨rfl, rfl⟩
  go_wp2_with fail
  refine (C3.out w2).mono ?_
  rintro e w3 ⟨rfl, rfl⟩
  go_wp2_with fail
  refine (C4.out w2).mono ?_
  rintro e w3 ⟨rfl, rfl⟩
  go_wp2_with fail
  refine (send_any p m 8 0 [] a t now one w2 H2.out.bp (by omega)).mono ?_
  rintro e w3 ⟨rfl, hm⟩
  have H3 := Lib.hid (H2.out.send hm)
  rw [HQ1.out.1]
  rw [HQ1.out.2.1, HQ1.out.2.2] at H3
  clear hm H2
  go_wp2_with fail
  refine (due_any p m 8 1 [⟨a, t, D, 1⟩] a t w3 H3.out.bp HIA.out.1 HIA.out.2.2).mono ?_
  rintro e w4 ⟨rfl, hm⟩
  have H4 := Lib.hid (H3.out.no hm)
  rw [HQ2.out]
  clear hm H3
  go_wp2_with fail
  refine (send_any p m 8 1 [⟨a, t, D, 1⟩] a t now two w4 H4.out.bp (by omega)).mono ?_
  rintro e w5 ⟨rfl, hm⟩
  have H5 := Lib.hid (H4.out.send hm)
  rw [HQ3.out.1]
  rw [HQ3.out.2.1, HQ3.out.2.2] at H5
  clear hm H4
  go_wp2_with fail
  refine (due_any p m 8 1 [⟨a, t, D, 1⟩] a t w5 H5.out.bp HIA.out.1 HIA.out.2.2).mono ?_
  rintro e w6 ⟨rfl, hm⟩
  have H6 := Lib.hid (H5.out.no hm)
  rw [p7]
  clear hm H5
  go_wp2_with fail
  refine (take_any p m 8 1 [⟨a, t, D, 1⟩] a (D - 1) w6 H6.out.bp HIA.out.1).mono ?_
  rintro e w7 ⟨v, rfl, hm⟩
  have H7 := Lib.hid (H6.out.take hm)
  rw [(p1 t a D).2] at H7
  have ho := hm.o
  rw [(p1 t a D).1] at ho
  obtain ⟨A, d, rfl, _⟩ := ho.slice
  clear hm H6 ho
  go_wp2_with fail
  refine (take_any p m 8 1 [⟨a, t, D, 1⟩] a D w7 H7.out.bp HIA.out.1).mono ?_
  rintro e w8 ⟨v, rfl, hm⟩
  have H8 := Lib.hid (H7.out.take hm)
  rw [(p2 t a D).2] at H8
  have ho := hm.o
  rw [(p2 t a D).1] at ho
  obtain ⟨B, d', rfl, _⟩ := ho.slice
  obtain ⟨g, rfl, hg, hc⟩ := ho.cell (k := 0) (by simp)
  have o0 := hc 0 (by simp)
  simp only [List.getD, List.getElem?_cons_zero, Option.getD] at o0
  clear hm H7 ho hc hg
  go_wp2_with fail
  refine (due_any p m 8 1 [] a t w8 H8.out.bp HIA.out.1 HIA.out.2.2).mono ?_
  rintro e w9 ⟨rfl, hm⟩
  have H9 := Lib.hid (H8.out.no hm)
  rw [p8]
  clear hm H8
  go_wp2
  go_ret
  exact ⟨rfl, H9.out.but⟩
set_option maxHeartbeats 4000000 in
set_option maxRecDepth 100000 in
theorem one_eq_in (task a0 b0 now0 one two : Int) (w : World) (w0 : inR task) (w1 : inR a0) (w2 : inR b0) (w3 : inR now0) (hab : pk a0 8 = pk b0 8) (h1 : 1 ≤ one) (h2 : one ≤ 50) :
    Calls Try.prog 5 #[.int .i64 task, .int .i64 a0, .int .i64 b0, .int .i64 now0, .int .i64 one, .int .i64 two] w fun r w' => r = .returned (.bool true) ∧ But No w w' := by
  have ht := pk_lt task 24 (by omega)
  have ha := pk_lt a0 8 (by omega)
  have hb := pk_lt b0 8 (by omega)
  have hn := pk_lt now0 1099511627776 (by omega)
  have C1 : Hid (∀ W, Calls Try.prog 9 #[.int .i64 task, .int .i64 24] W fun r w' => r = .returned (.int .i64 (pk task 24)) ∧ W = w') := fun W => pick_any task 24 W w0 (by omega) (by omega)
  have C2 : Hid (∀ W, Calls Try.prog 9 #[.int .i64 a0, .int .i64 8] W fun r w' => r = .returned (.int .i64 (pk a0 8)) ∧ W = w') := fun W => pick_any a0 8 W w1 (by omega) (by omega)
  have C3 : Hid (∀ W, Calls Try.prog 9 #[.int .i64 b0, .int .i64 8] W fun r w' => r = .returned (.int .i64 (pk b0 8)) ∧ W = w') := fun W => pick_any b0 8 W w2 (by omega) (by omega)
  have C4 : Hid (∀ W, Calls Try.prog 9 #[.int .i64 now0, .int .i64 1099511627776] W fun r w' => r = .returned (.int .i64 (pk now0 1099511627776)) ∧ W = w') := fun W => pick_any now0 1099511627776 W w3 (by omega) (by omega)
  generalize pk task 24 = t at ht C1
  generalize pk a0 8 = a at ha C2 hab
  generalize pk b0 8 = b at hb C3 hab
  generalize pk now0 1099511627776 = now at hn C4
  subst hab
  have hw := wi_rng one
  obtain ⟨D, hD⟩ : ∃ D, now + wi one = D := ⟨_, rfl⟩
  have HDB : Hid (1 ≤ D ∧ D ≤ 1099511627826) := by show _ ∧ _; omega
  have hd1 : 1 ≤ D := by omega
  have hd2 : D ≤ 1099511627826 := by omega
  have t1 : decide (D < now + 1) = false := by simp; omega
  have t2 : decide (now + 50 < D) = false := by simp; omega
  have t3 : decide (1 ≤ one) = true := by simp; omega
  have t4 : decide (one ≤ 50) = true := by simp; omega
  have t5 : now + one = D := by rw [wi_small h1 h2] at hD; exact hD
  have o1' : 1 ≤ one := h1
  have o2' : one ≤ 50 := h2
  have Q1 := o1 (one := one) ht ha hn
  have Q2 := o2 (t := t) (a := a) (now := now) (one := one)
  have Q3 := o3 (t := t) (a := a) (now := now) (one := one) (two := two)
  rw [hD] at Q1 Q2 Q3
  have HQ1 := Lib.hid Q1
  have HQ2 := Lib.hid Q2
  have HQ3 := Lib.hid Q3
  have HIA : Hid (inR a ∧ inR a ∧ inR t) := by show inR _ ∧ inR _ ∧ inR _; unfold inR; omega
  clear Q1 Q2 Q3 hD w0 w1 w2 w3 hw ht ha  h1 h2
  go_enter Try.func5, Try.ntmps5
  go_wp2_with fail
  refine (examples_any w).mono ?_
  rintro e w1 ⟨rfl, hb1⟩
  have HB1 := Lib.hid hb1
  clear hb1
  go_wp2_with fail
  refine (new_ok 8 w1 (by omega) (by omega)).mono ?_
  rintro e w2 ⟨p, m, rfl, h1, h2, h3⟩
  have H2 := Lib.hid (Hw.made HB1.out h1 h2 h3)
  clear h1 h2 h3 HB1
  go_wp2_with fail
  refine (C1.out w2).mono ?_
  rintro e w3 ⟨rfl, rfl⟩
  go_wp2_with fail
  refine (C2.out w2).mono ?_
  rintro e w3 ⟨rfl, rfl⟩
  go_wp2_with fail
  refine (C3.out w2).mono ?_
  rintro e w3 ⟨rfl, rfl⟩
  go_wp2_with fail
  refine (C4.out w2).mono ?_
  rintro e w3 ⟨rfl, rfl⟩
  go_wp2_with fail
  refine (send_any p m 8 0 [] a t now one w2 H2.out.bp (by omega)).mono ?_
  rintro e w3 ⟨rfl, hm⟩
  have H3 := Lib.hid (H2.out.send hm)
  rw [HQ1.out.1]
  rw [HQ1.out.2.1, HQ1.out.2.2] at H3
  clear hm H2
  go_wp2_with fail
  refine (due_any p m 8 1 [⟨a, t, D, 1⟩] a t w3 H3.out.bp HIA.out.1 HIA.out.2.2).mono ?_
  rintro e w4 ⟨rfl, hm⟩
  have H4 := Lib.hid (H3.out.no hm)
  rw [HQ2.out]
  clear hm H3
  go_wp2_with fail
  refine (send_any p m 8 1 [⟨a, t, D, 1⟩] a t now two w4 H4.out.bp (by omega)).mono ?_
  rintro e w5 ⟨rfl, hm⟩
  have H5 := Lib.hid (H4.out.send hm)
  rw [HQ3.out.1]
  rw [HQ3.out.2.1, HQ3.out.2.2] at H5
  clear hm H4
  go_wp2_with fail
  refine (due_any p m 8 1 [⟨a, t, D, 1⟩] a t w5 H5.out.bp HIA.out.1 HIA.out.2.2).mono ?_
  rintro e w6 ⟨rfl, hm⟩
  have H6 := Lib.hid (H5.out.no hm)
  rw [p7]
  clear hm H5
  go_wp2_with fail
  refine (take_any p m 8 1 [⟨a, t, D, 1⟩] a (D - 1) w6 H6.out.bp HIA.out.1).mono ?_
  rintro e w7 ⟨v, rfl, hm⟩
  have H7 := Lib.hid (H6.out.take hm)
  rw [(p1 t a D).2] at H7
  have ho := hm.o
  rw [(p1 t a D).1] at ho
  obtain ⟨A, d, rfl, _⟩ := ho.slice
  clear hm H6 ho
  go_wp2_with fail
  refine (take_any p m 8 1 [⟨a, t, D, 1⟩] a D w7 H7.out.bp HIA.out.1).mono ?_
  rintro e w8 ⟨v, rfl, hm⟩
  have H8 := Lib.hid (H7.out.take hm)
  rw [(p2 t a D).2] at H8
  have ho := hm.o
  rw [(p2 t a D).1] at ho
  obtain ⟨B, d', rfl, _⟩ := ho.slice
  obtain ⟨g, rfl, hg, hc⟩ := ho.cell (k := 0) (by simp)
  have o0 := hc 0 (by simp)
  simp only [List.getD, List.getElem?_cons_zero, Option.getD] at o0
  clear hm H7 ho hc hg
  go_wp2_with fail
  refine (due_any p m 8 1 [] a t w8 H8.out.bp HIA.out.1 HIA.out.2.2).mono ?_
  rintro e w9 ⟨rfl, hm⟩
  have H9 := Lib.hid (H8.out.no hm)
  rw [p8]
  clear hm H8
  go_wp2
  go_ret
  exact ⟨rfl, H9.out.but⟩
set_option maxHeartbeats 4000000 in
set_option maxRecDepth 100000 in
theorem one_ne_lo (task a0 b0 now0 one two : Int) (w : World) (w0 : inR task) (w1 : inR a0) (w2 : inR b0) (w3 : inR now0) (hab : pk a0 8 ≠ pk b0 8) (h1 : one < 1) :
    Calls Try.prog 5 #[.int .i64 task, .int .i64 a0, .int .i64 b0, .int .i64 now0, .int .i64 one, .int .i64 two] w fun r w' => r = .returned (.bool true) ∧ But No w w' := by
  have ht := pk_lt task 24 (by omega)
  have ha := pk_lt a0 8 (by omega)
  have hb := pk_lt b0 8 (by omega)
  have hn := pk_lt now0 1099511627776 (by omega)
  have C1 : Hid (∀ W, Calls Try.prog 9 #[.int .i64 task, .int .i64 24] W fun r w' => r = .returned (.int .i64 (pk task 24)) ∧ W = w') := fun W => pick_any task 24 W w0 (by omega) (by omega)
  have C2 : Hid (∀ W, Calls Try.prog 9 #[.int .i64 a0, .int .i64 8] W fun r w' => r = .returned (.int .i64 (pk a0 8)) ∧ W = w') := fun W => pick_any a0 8 W w1 (by omega) (by omega)
  have C3 : Hid (∀ W, Calls Try.prog 9 #[.int .i64 b0, .int .i64 8] W fun r w' => r = .returned (.int .i64 (pk b0 8)) ∧ W = w') := fun W => pick_any b0 8 W w2 (by omega) (by omega)
  have C4 : Hid (∀ W, Calls Try.prog 9 #[.int .i64 now0, .int .i64 1099511627776] W fun r w' => r = .returned (.int .i64 (pk now0 1099511627776)) ∧ W = w') := fun W => pick_any now0 1099511627776 W w3 (by omega) (by omega)
  generalize pk task 24 = t at ht C1
  generalize pk a0 8 = a at ha C2 hab
  generalize pk b0 8 = b at hb C3 hab
  generalize pk now0 1099511627776 = now at hn C4
  have HAB : Hid (a ≠ b) := hab
  have nab : (a != b) = true := by simpa using hab
  have nab2 : (a == b) = false := by simpa using hab
  have hw := wi_rng one
  obtain ⟨D, hD⟩ : ∃ D, now + wi one = D := ⟨_, rfl⟩
  obtain ⟨E, hE⟩ : ∃ E, now + wi two = E := ⟨_, rfl⟩
  have HDB : Hid (1 ≤ D ∧ D ≤ 1099511627826) := by show _ ∧ _; omega
  have hd1 : 1 ≤ D := by omega
  have hd2 : D ≤ 1099511627826 := by omega
  have t1 : decide (D < now + 1) = false := by simp; omega
  have t2 : decide (now + 50 < D) = false := by simp; omega
  have t3 : decide (1 ≤ one) = false := by simp; omega
  have Q1 := o1 (one := one) ht ha hn
  have Q2 := o2 (t := t) (a := a) (now := now) (one := one)
  have Q3 := o4 (one := one) (two := two) ht hb hn hab
  rw [hD] at Q1 Q2; rw [hD, hE] at Q3
  have HQ1 := Lib.hid Q1
  have HQ2 := Lib.hid Q2
  have HQ3 := Lib.hid Q3
  have HIA : Hid (inR a ∧ inR b ∧ inR t) := by show inR _ ∧ inR _ ∧ inR _; unfold inR; omega
  clear Q1 Q2 Q3 hD w0 w1 w2 w3 hw ht ha hb hE hab h1
  go_enter Try.func5, Try.ntmps5
  go_wp2_with fail
  refine (examples_any w).mono ?_
  rintro e w1 ⟨rfl, hb1⟩
  have HB1 := Lib.hid hb1
  clear hb1
  go_wp2_with fail
  refine (new_ok 8 w1 (by omega) (by omega)).mono ?_
  rintro e w2 ⟨p, m, rfl, h1, h2, h3⟩
  have H2 := Lib.hid (Hw.made HB1.out h1 h2 h3)
  clear h1 h2 h3 HB1
  go_wp2_with fail
  refine (C1.out w2).mono ?_
  rintro e w3 ⟨rfl, rfl⟩
  go_wp2_with fail
  refine (C2.out w2).mono ?_
  rintro e w3 ⟨rfl, rfl⟩
  go_wp2_with fail
  refine (C3.out w2).mono ?_
  rintro e w3 ⟨rfl, rfl⟩
  go_wp2_with fail
  refine (C4.out w2).mono ?_
  rintro e w3 ⟨rfl, rfl⟩
  go_wp2_with fail
  refine (send_any p m 8 0 [] a t now one w2 H2.out.bp (by omega)).mono ?_
  rintro e w3 ⟨rfl, hm⟩
  have H3 := Lib.hid (H2.out.send hm)
  rw [HQ1.out.1]
  rw [HQ1.out.2.1, HQ1.out.2.2] at H3
  clear hm H2
  go_wp2_with fail
  refine (due_any p m 8 1 [⟨a, t, D, 1⟩] a t w3 H3.out.bp HIA.out.1 HIA.out.2.2).mono ?_
  rintro e w4 ⟨rfl, hm⟩
  have H4 := Lib.hid (H3.out.no hm)
  rw [HQ2.out]
  clear hm H3
  go_wp2_with fail
  refine (send_any p m 8 1 [⟨a, t, D, 1⟩] b t now two w4 H4.out.bp (by omega)).mono ?_
  rintro e w5 ⟨rfl, hm⟩
  have H5 := Lib.hid (H4.out.send hm)
  rw [HQ3.out.1]
  rw [HQ3.out.2.1, HQ3.out.2.2] at H5
  clear hm H4
  go_wp2_with fail
  refine (due_any p m 8 2 [⟨a, t, D, 1⟩, ⟨b, t, E, 2⟩] a t w5 H5.out.bp HIA.out.1 HIA.out.2.2).mono ?_
  rintro e w6 ⟨rfl, hm⟩
  have H6 := Lib.hid (H5.out.no hm)
  rw [p6]
  clear hm H5
  go_wp2_with fail
  refine (take_any p m 8 2 [⟨a, t, D, 1⟩, ⟨b, t, E, 2⟩] a (D - 1) w6 H6.out.bp HIA.out.1).mono ?_
  rintro e w7 ⟨v, rfl, hm⟩
  have H7 := Lib.hid (H6.out.take hm)
  rw [(p3 (t := t) (D := D) (E := E) HAB.out).2] at H7
  have ho := hm.o
  rw [(p3 (t := t) (D := D) (E := E) HAB.out).1] at ho
  obtain ⟨A, d, rfl, _⟩ := ho.slice
  clear hm H6 ho
  go_wp2_with fail
  refine (take_any p m 8 2 [⟨a, t, D, 1⟩, ⟨b, t, E, 2⟩] a D w7 H7.out.bp HIA.out.1).mono ?_
  rintro e w8 ⟨v, rfl, hm⟩
  have H8 := Lib.hid (H7.out.take hm)
  rw [(p4 (t := t) (D := D) (E := E) HAB.out).2] at H8
  have ho := hm.o
  rw [(p4 (t := t) (D := D) (E := E) HAB.out).1] at ho
  obtain ⟨B, d', rfl, _⟩ := ho.slice
  obtain ⟨g, rfl, hg, hc⟩ := ho.cell (k := 0) (by simp)
  have o0 := hc 0 (by simp)
  simp only [List.getD, List.getElem?_cons_zero, Option.getD] at o0
  clear hm H7 ho hc hg
  go_wp2_with fail
  refine (due_any p m 8 2 [⟨b, t, E, 2⟩] a t w8 H8.out.bp HIA.out.1 HIA.out.2.2).mono ?_
  rintro e w9 ⟨rfl, hm⟩
  have H9 := Lib.hid (H8.out.no hm)
  rw [(p5 (t := t) (E := E) HAB.out).1]
  clear hm H8
  go_wp2_with fail
  refine (len_any p m 8 2 [⟨b, t, E, 2⟩] b w9 H9.out.bp HIA.out.2.1).mono ?_
  rintro e w10 ⟨rfl, hm⟩
  have H10 := Lib.hid (H9.out.no hm)
  rw [(p5 (t := t) (E := E) HAB.out).2]
  clear hm H9
  go_wp2
  go_ret
  exact ⟨rfl, H10.out.but⟩
set_option maxHeartbeats 4000000 in
set_option maxRecDepth 100000 in
theorem one_ne_hi (task a0 b0 now0 one two : Int) (w : World) (w0 : inR task) (w1 : inR a0) (w2 : inR b0) (w3 : inR now0) (hab : pk a0 8 ≠ pk b0 8) (h1 : 50 < one) :
    Calls Try.prog 5 #[.int .i64 task, .int .i64 a0, .int .i64 b0, .int .i64 now0, .int .i64 one, .int .i64 two] w fun r w' => r = .returned (.bool true) ∧ But No w w' := by
  have ht := pk_lt task 24 (by omega)
  have ha := pk_lt a0 8 (by omega)
  have hb := pk_lt b0 8 (by omega)
  have hn := pk_lt now0 1099511627776 (by omega)
  have C1 : Hid (∀ W, Calls Try.prog 9 #[.int .i64 task, .int .i64 24] W fun r w' => r = .returned (.int .i64 (pk task 24)) ∧ W = w') := fun W => pick_any task 24 W w0 (by omega) (by omega)
  have C2 : Hid (∀ W, Calls Try.prog 9 #[.int .i64 a0, .int .i64 8] W fun r w' => r = .returned (.int .i64 (pk a0 8)) ∧ W = w') := fun W => pick_any a0 8 W w1 (by omega) (by omega)
  have C3 : Hid (∀ W, Calls Try.prog 9 #[.int .i64 b0, .int .i64 8] W fun r w' => r = .returned (.int .i64 (pk b0 8)) ∧ W = w') := fun W => pick_any b0 8 W w2 (by omega) (by omega)
  have C4 : Hid (∀ W, Calls Try.prog 9 #[.int .i64 now0, .int .i64 1099511627776] W fun r w' => r = .returned (.int .i64 (pk now0 1099511627776)) ∧ W = w') := fun W => pick_any now0 1099511627776 W w3 (by omega) (by omega)
  generalize pk task 24 = t at ht C1
  generalize pk a0 8 = a at ha C2 hab
  generalize pk b0 8 = b at hb C3 hab
  generalize pk now0 1099511627776 = now at hn C4
  have HAB : Hid (a ≠ b) := hab
  have nab : (a != b) = true := by simpa using hab
  have nab2 : (a == b) = false := by simpa using hab
  have hw := wi_rng one
  obtain ⟨D, hD⟩ : ∃ D, now + wi one = D := ⟨_, rfl⟩
  obtain ⟨E, hE⟩ : ∃ E, now + wi two = E := ⟨_, rfl⟩
  have HDB : Hid (1 ≤ D ∧ D ≤ 1099511627826) := by show _ ∧ _; omega
  have hd1 : 1 ≤ D := by omega
  have hd2 : D ≤ 1099511627826 := by omega
  have t1 : decide (D < now + 1) = false := by simp; omega
  have t2 : decide (now + 50 < D) = false := by simp; omega
  have t3 : decide (1 ≤ one) = true := by simp; omega
  have t4 : decide (one ≤ 50) = false := by simp; omega
  have Q1 := o1 (one := one) ht ha hn
  have Q2 := o2 (t := t) (a := a) (now := now) (one := one)
  have Q3 := o4 (one := one) (two := two) ht hb hn hab
  rw [hD] at Q1 Q2; rw [hD, hE] at Q3
  have HQ1 := Lib.hid Q1
  have HQ2 := Lib.hid Q2
  have HQ3 := Lib.hid Q3
  have HIA : Hid (inR a ∧ inR b ∧ inR t) := by show inR _ ∧ inR _ ∧ inR _; unfold inR; omega
  clear Q1 Q2 Q3 hD w0 w1 w2 w3 hw ht ha hb hE hab h1
  go_enter Try.func5, Try.ntmps5
  go_wp2_with fail
  refine (examples_any w).mono ?_
  rintro e w1 ⟨rfl, hb1⟩
  have HB1 := Lib.hid hb1
  clear hb1
  go_wp2_with fail
  refine (new_ok 8 w1 (by omega) (by omega)).mono ?_
  rintro e w2 ⟨p, m, rfl, h1, h2, h3⟩
  have H2 := Lib.hid (Hw.made HB1.out h1 h2 h3)
  clear h1 h2 h3 HB1
  go_wp2_with fail
  refine (C1.out w2).mono ?_
  rintro e w3 ⟨rfl, rfl⟩
  go_wp2_with fail
  refine (C2.out w2).mono ?_
  rintro e w3 ⟨rfl, rfl⟩
  go_wp2_with fail
  refine (C3.out w2).mono ?_
  rintro e w3 ⟨rfl, rfl⟩
  go_wp2_with fail
  refine (C4.out w2).mono ?_
  rintro e w3 ⟨rfl, rfl⟩
  go_wp2_with fail
  refine (send_any p m 8 0 [] a t now one w2 H2.out.bp (by omega)).mono ?_
  rintro e w3 ⟨rfl, hm⟩
  have H3 := Lib.hid (H2.out.send hm)
  rw [HQ1.out.1]
  rw [HQ1.out.2.1, HQ1.out.2.2] at H3
  clear hm H2
  go_wp2_with fail
  refine (due_any p m 8 1 [⟨a, t, D, 1⟩] a t w3 H3.out.bp HIA.out.1 HIA.out.2.2).mono ?_
  rintro e w4 ⟨rfl, hm⟩
  have H4 := Lib.hid (H3.out.no hm)
  rw [HQ2.out]
  clear hm H3
  go_wp2_with fail
  refine (send_any p m 8 1 [⟨a, t, D, 1⟩] b t now two w4 H4.out.bp (by omega)).mono ?_
  rintro e w5 ⟨rfl, hm⟩
  have H5 := Lib.hid (H4.out.send hm)
  rw [HQ3.out.1]
  rw [HQ3.out.2.1, HQ3.out.2.2] at H5
  clear hm H4
  go_wp2_with fail
  refine (due_any p m 8 2 [⟨a, t, D, 1⟩, ⟨b, t, E, 2⟩] a t w5 H5.out.bp HIA.out.1 HIA.out.2.2).mono ?_
  rintro e w6 ⟨rfl, hm⟩
  have H6 := Lib.hid (H5.out.no hm)
  rw [p6]
  clear hm H5
  go_wp2_with fail
  refine (take_any p m 8 2 [⟨a, t, D, 1⟩, ⟨b, t, E, 2⟩] a (D - 1) w6 H6.out.bp HIA.out.1).mono ?_
  rintro e w7 ⟨v, rfl, hm⟩
  have H7 := Lib.hid (H6.out.take hm)
  rw [(p3 (t := t) (D := D) (E := E) HAB.out).2] at H7
  have ho := hm.o
  rw [(p3 (t := t) (D := D) (E := E) HAB.out).1] at ho
  obtain ⟨A, d, rfl, _⟩ := ho.slice
  clear hm H6 ho
  go_wp2_with fail
  refine (take_any p m 8 2 [⟨a, t, D, 1⟩, ⟨b, t, E, 2⟩] a D w7 H7.out.bp HIA.out.1).mono ?_
  rintro e w8 ⟨v, rfl, hm⟩
  have H8 := Lib.hid (H7.out.take hm)
  rw [(p4 (t := t) (D := D) (E := E) HAB.out).2] at H8
  have ho := hm.o
  rw [(p4 (t := t) (D := D) (E := E) HAB.out).1] at ho
  obtain ⟨B, d', rfl, _⟩ := ho.slice
  obtain ⟨g, rfl, hg, hc⟩ := ho.cell (k := 0) (by simp)
  have o0 := hc 0 (by simp)
  simp only [List.getD, List.getElem?_cons_zero, Option.getD] at o0
  clear hm H7 ho hc hg
  go_wp2_with fail
  refine (due_any p m 8 2 [⟨b, t, E, 2⟩] a t w8 H8.out.bp HIA.out.1 HIA.out.2.2).mono ?_
  rintro e w9 ⟨rfl, hm⟩
  have H9 := Lib.hid (H8.out.no hm)
  rw [(p5 (t := t) (E := E) HAB.out).1]
  clear hm H8
  go_wp2_with fail
  refine (len_any p m 8 2 [⟨b, t, E, 2⟩] b w9 H9.out.bp HIA.out.2.1).mono ?_
  rintro e w10 ⟨rfl, hm⟩
  have H10 := Lib.hid (H9.out.no hm)
  rw [(p5 (t := t) (E := E) HAB.out).2]
  clear hm H9
  go_wp2
  go_ret
  exact ⟨rfl, H10.out.but⟩
set_option maxHeartbeats 4000000 in
set_option maxRecDepth 100000 in
theorem one_ne_in (task a0 b0 now0 one two : Int) (w : World) (w0 : inR task) (w1 : inR a0) (w2 : inR b0) (w3 : inR now0) (hab : pk a0 8 ≠ pk b0 8) (h1 : 1 ≤ one) (h2 : one ≤ 50) :
    Calls Try.prog 5 #[.int .i64 task, .int .i64 a0, .int .i64 b0, .int .i64 now0, .int .i64 one, .int .i64 two] w fun r w' => r = .returned (.bool true) ∧ But No w w' := by
  have ht := pk_lt task 24 (by omega)
  have ha := pk_lt a0 8 (by omega)
  have hb := pk_lt b0 8 (by omega)
  have hn := pk_lt now0 1099511627776 (by omega)
  have C1 : Hid (∀ W, Calls Try.prog 9 #[.int .i64 task, .int .i64 24] W fun r w' => r = .returned (.int .i64 (pk task 24)) ∧ W = w') := fun W => pick_any task 24 W w0 (by omega) (by omega)
  have C2 : Hid (∀ W, Calls Try.prog 9 #[.int .i64 a0, .int .i64 8] W fun r w' => r = .returned (.int .i64 (pk a0 8)) ∧ W = w') := fun W => pick_any a0 8 W w1 (by omega) (by omega)
  have C3 : Hid (∀ W, Calls Try.prog 9 #[.int .i64 b0, .int .i64 8] W fun r w' => r = .returned (.int .i64 (pk b0 8)) ∧ W = w') := fun W => pick_any b0 8 W w2 (by omega) (by omega)
  have C4 : Hid (∀ W, Calls Try.prog 9 #[.int .i64 now0, .int .i64 1099511627776] W fun r w' => r = .returned (.int .i64 (pk now0 1099511627776)) ∧ W = w') := fun W => pick_any now0 1099511627776 W w3 (by omega) (by omega)
  generalize pk task 24 = t at ht C1
  generalize pk a0 8 = a at ha C2 hab
  generalize pk b0 8 = b at hb C3 hab
  generalize pk now0 1099511627776 = now at hn C4
  have HAB : Hid (a ≠ b) := hab
  have nab : (a != b) = true := by simpa using hab
  have nab2 : (a == b) = false := by simpa using hab
  have hw := wi_rng one
  obtain ⟨D, hD⟩ : ∃ D, now + wi one = D := ⟨_, rfl⟩
  obtain ⟨E, hE⟩ : ∃ E, now + wi two = E := ⟨_, rfl⟩
  have HDB : Hid (1 ≤ D ∧ D ≤ 1099511627826) := by show _ ∧ _; omega
  have hd1 : 1 ≤ D := by omega
  have hd2 : D ≤ 1099511627826 := by omega
  have t1 : decide (D < now + 1) = false := by simp; omega
  have t2 : decide (now + 50 < D) = false := by simp; omega
  have t3 : decide (1 ≤ one) = true := by simp; omega
  have t4 : decide (one ≤ 50) = true := by simp; omega
  have t5 : now + one = D := by rw [wi_small h1 h2] at hD; exact hD
  have o1' : 1 ≤ one := h1
  have o2' : one ≤ 50 := h2
  have Q1 := o1 (one := one) ht ha hn
  have Q2 := o2 (t := t) (a := a) (now := now) (one := one)
  have Q3 := o4 (one := one) (two := two) ht hb hn hab
  rw [hD] at Q1 Q2; rw [hD, hE] at Q3
  have HQ1 := Lib.hid Q1
  have HQ2 := Lib.hid Q2
  have HQ3 := Lib.hid Q3
  have HIA : Hid (inR a ∧ inR b ∧ inR t) := by show inR _ ∧ inR _ ∧ inR _; unfold inR; omega
  clear Q1 Q2 Q3 hD w0 w1 w2 w3 hw ht ha hb hE hab h1 h2
  go_enter Try.func5, Try.ntmps5
  go_wp2_with fail
  refine (examples_any w).mono ?_
  rintro e w1 ⟨rfl, hb1⟩
  have HB1 := Lib.hid hb1
  clear hb1
  go_wp2_with fail
  refine (new_ok 8 w1 (by omega) (by omega)).mono ?_
  rintro e w2 ⟨p, m, rfl, h1, h2, h3⟩
  have H2 := Lib.hid (Hw.made HB1.out h1 h2 h3)
  clear h1 h2 h3 HB1
  go_wp2_with fail
  refine (C1.out w2).mono ?_
  rintro e w3 ⟨rfl, rfl⟩
  go_wp2_with fail
  refine (C2.out w2).mono ?_
  rintro e w3 ⟨rfl, rfl⟩
  go_wp2_with fail
  refine (C3.out w2).mono ?_
  rintro e w3 ⟨rfl, rfl⟩
  go_wp2_with fail
  refine (C4.out w2).mono ?_
  rintro e w3 ⟨rfl, rfl⟩
  go_wp2_with fail
  refine (send_any p m 8 0 [] a t now one w2 H2.out.bp (by omega)).mono ?_
  rintro e w3 ⟨rfl, hm⟩
  have H3 := Lib.hid (H2.out.send hm)
  rw [HQ1.out.1]
  rw [HQ1.out.2.1, HQ1.out.2.2] at H3
  clear hm H2
  go_wp2_with fail
  refine (due_any p m 8 1 [⟨a, t, D, 1⟩] a t w3 H3.out.bp HIA.out.1 HIA.out.2.2).mono ?_
  rintro e w4 ⟨rfl, hm⟩
  have H4 := Lib.hid (H3.out.no hm)
  rw [HQ2.out]
  clear hm H3
  go_wp2_with fail
  refine (send_any p m 8 1 [⟨a, t, D, 1⟩] b t now two w4 H4.out.bp (by omega)).mono ?_
  rintro e w5 ⟨rfl, hm⟩
  have H5 := Lib.hid (H4.out.send hm)
  rw [HQ3.out.1]
  rw [HQ3.out.2.1, HQ3.out.2.2] at H5
  clear hm H4
  go_wp2_with fail
  refine (due_any p m 8 2 [⟨a, t, D, 1⟩, ⟨b, t, E, 2⟩] a t w5 H5.out.bp HIA.out.1 HIA.out.2.2).mono ?_
  rintro e w6 ⟨rfl, hm⟩
  have H6 := Lib.hid (H5.out.no hm)
  rw [p6]
  clear hm H5
  go_wp2_with fail
  refine (take_any p m 8 2 [⟨a, t, D, 1⟩, ⟨b, t, E, 2⟩] a (D - 1) w6 H6.out.bp HIA.out.1).mono ?_
  rintro e w7 ⟨v, rfl, hm⟩
  have H7 := Lib.hid (H6.out.take hm)
  rw [(p3 (t := t) (D := D) (E := E) HAB.out).2] at H7
  have ho := hm.o
  rw [(p3 (t := t) (D := D) (E := E) HAB.out).1] at ho
  obtain ⟨A, d, rfl, _⟩ := ho.slice
  clear hm H6 ho
  go_wp2_with fail
  refine (take_any p m 8 2 [⟨a, t, D, 1⟩, ⟨b, t, E, 2⟩] a D w7 H7.out.bp HIA.out.1).mono ?_
  rintro e w8 ⟨v, rfl, hm⟩
  have H8 := Lib.hid (H7.out.take hm)
  rw [(p4 (t := t) (D := D) (E := E) HAB.out).2] at H8
  have ho := hm.o
  rw [(p4 (t := t) (D := D) (E := E) HAB.out).1] at ho
  obtain ⟨B, d', rfl, _⟩ := ho.slice
  obtain ⟨g, rfl, hg, hc⟩ := ho.cell (k := 0) (by simp)
  have o0 := hc 0 (by simp)
  simp only [List.getD, List.getElem?_cons_zero, Option.getD] at o0
  clear hm H7 ho hc hg
  go_wp2_with fail
  refine (due_any p m 8 2 [⟨b, t, E, 2⟩] a t w8 H8.out.bp HIA.out.1 HIA.out.2.2).mono ?_
  rintro e w9 ⟨rfl, hm⟩
  have H9 := Lib.hid (H8.out.no hm)
  rw [(p5 (t := t) (E := E) HAB.out).1]
  clear hm H8
  go_wp2_with fail
  refine (len_any p m 8 2 [⟨b, t, E, 2⟩] b w9 H9.out.bp HIA.out.2.1).mono ?_
  rintro e w10 ⟨rfl, hm⟩
  have H10 := Lib.hid (H9.out.no hm)
  rw [(p5 (t := t) (E := E) HAB.out).2]
  clear hm H9
  go_wp2
  go_ret
  exact ⟨rfl, H10.out.but⟩
theorem walk (task : Int) (w0 : (Lit.int .i64 task).wf = true) (a0 : Int) (w1 : (Lit.int .i64 a0).wf = true) (b0 : Int) (w2 : (Lit.int .i64 b0).wf = true) (now0 : Int) (w3 : (Lit.int .i64 now0).wf = true) (one : Int) (_ : (Lit.int .i64 one).wf = true) (two : Int) (_ : (Lit.int .i64 two).wf = true) (w : World) :
    Calls Try.prog 5 #[.int .i64 task, .int .i64 a0, .int .i64 b0, .int .i64 now0, .int .i64 one, .int .i64 two] w fun r w' => r = .returned (.bool true) ∧ But No w w' := by
  by_cases hab : pk a0 8 = pk b0 8
  · by_cases h1 : one < 1
    · exact one_eq_lo task a0 b0 now0 one two w (inR_of w0) (inR_of w1) (inR_of w2) (inR_of w3) hab h1
    · by_cases h2 : 50 < one
      · exact one_eq_hi task a0 b0 now0 one two w (inR_of w0) (inR_of w1) (inR_of w2) (inR_of w3) hab h2
      · exact one_eq_in task a0 b0 now0 one two w (inR_of w0) (inR_of w1) (inR_of w2) (inR_of w3) hab (by omega) (by omega)
  · by_cases h1 : one < 1
    · exact one_ne_lo task a0 b0 now0 one two w (inR_of w0) (inR_of w1) (inR_of w2) (inR_of w3) hab h1
    · by_cases h2 : 50 < one
      · exact one_ne_hi task a0 b0 now0 one two w (inR_of w0) (inR_of w1) (inR_of w2) (inR_of w3) hab h2
      · exact one_ne_in task a0 b0 now0 one two w (inR_of w0) (inR_of w1) (inR_of w2) (inR_of w3) hab (by omega) (by omega)
end Go.Proofs.Ytmfjlfemeihchaa
