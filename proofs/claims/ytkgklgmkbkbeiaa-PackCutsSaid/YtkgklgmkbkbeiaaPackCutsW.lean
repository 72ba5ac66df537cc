/- The walk of PackCuts: numbers one behind the other, and texts that are cut. -/
import Derived.Test.YtkgklgmkbkbeiaaK
import Derived.Deep.DeepCutAuto
namespace Go.Proofs.Ytkgklgmkbkbeiaa.packCuts
open Go.ChangeShapes Go.WideShapes Go.ChangeAt Go.RowKit Go.Deep
theorem parts {w0 w6 : World} {A6 : Option Addr} {n6 c6 na nb : Nat} {nsa nsb : List Nat} {za ub : List Int} (ho : Oc 3 .i64 w0 w6 (.slice A6 n6 c6) (nsa ++ nsb)) (hl : (nsa ++ nsb).length = n6) (ha : nsa.length = na) (hb : nsb.length = nb) (hofa : ofN nsa = za) (hofb : ofN nsb = ub) (h5 : na + nb ≤ 1000) :
    n6 = na + nb ∧ (∀ W, (Instr.slice 22 (.slice A6 n6 c6) none (some (.int .i64 (na : Int))) none).run Try.prog W = .ok (.slice A6 na c6) W) ∧ Rl w6 A6 na za ∧ ∃ A7 m7 c7, (∀ W, (Instr.slice 22 (.slice A6 n6 c6) (some (.int .i64 (na : Int))) none none).run Try.prog W = .ok (.slice A7 m7 c7) W) ∧ Rl w6 A7 m7 ub := by
  have hn : n6 = na + nb := by rw [← hl, List.length_append, ha, hb]
  have hcap := ho.cap
  have hR := ho.rl (by rw [hl]; omega)
  have e : ofN (nsa ++ nsb) = za ++ ub := by rw [← hofa, ← hofb]; unfold ofN; rw [List.map_append]
  have hza : za.length = na := by rw [← hofa]; unfold ofN; rw [List.length_map, ha]
  rw [e] at hR
  have h1 := hR.take (k := na) (by omega)
  have h2 := hR.drop (k := na) (c := c6) (by omega) hcap
  rw [List.take_left' hza] at h1
  rw [List.drop_left' hza] at h2
  exact ⟨hn, fun W => slice_to (by omega) W, h1, _, _, _, fun W => slice_from (by omega) W, h2⟩
theorem bitQ (cut : Int) (hct : inR cut) (z : Nat) (h0 : 0 < z) (hz : z ≤ 18000) : ∃ q : Nat, q < z ∧ ((cut < 0 ∧ -((cut + 1).tmod (z : Int)) = (q : Int)) ∨ (¬ cut < 0 ∧ cut % (z : Int) = (q : Int))) := by
  unfold inR at hct
  by_cases hneg : cut < 0
  · refine ⟨((-(cut + 1)) % (z : Int)).toNat, ?_, .inl ⟨hneg, ?_⟩⟩
    · have h1 := Int.emod_nonneg (-(cut + 1)) (show (z : Int) ≠ 0 by omega)
      have h2 := Int.emod_lt_of_pos (-(cut + 1)) (show (0 : Int) < (z : Int) by omega)
      omega
    · have h1 := Int.emod_nonneg (-(cut + 1)) (show (z : Int) ≠ 0 by omega)
      rw [← Int.neg_tmod, Int.tmod_eq_emod_of_nonneg (by omega)]
      omega
  · refine ⟨(cut % (z : Int)).toNat, ?_, .inr ⟨hneg, ?_⟩⟩
    · have h1 := Int.emod_nonneg cut (show (z : Int) ≠ 0 by omega)
      have h2 := Int.emod_lt_of_pos cut (show (0 : Int) < (z : Int) by omega)
      omega
    · have h1 := Int.emod_nonneg cut (show (z : Int) ≠ 0 by omega)
      omega
/-- What the walks below stand on. -/
structure St (A : Option Addr) (na c : Nat) (za : List Int) (B : Option Addr) (nb d : Nat) (ub : List Int) (w : World) (t1 t2 : ByteArray) (Ea Eb : Nat) : Prop where
  ca : ∀ W, But No w W → Calls Try.prog 11 #[.slice A na c] W fun e w' => e = .returned (.tuple #[.string t1, .int .i64 (Ea : Int)]) ∧ But No W w'
  cb : ∀ W, But No w W → Calls Try.prog 11 #[.slice B nb d] W fun e w' => e = .returned (.tuple #[.string t2, .int .i64 (Eb : Int)]) ∧ But No W w'
  ra : Rl w A na za
  rb : Rl w B nb ub
set_option maxRecDepth 100000 in
set_option maxHeartbeats 4000000 in
theorem walk_a (A : Option Addr) (n c : Nat) (hnc : n ≤ c) (B : Option Addr) (m d : Nat) (hmd : m ≤ d) (cut : Int) (_ : inR cut) (na nb : Nat) (hna : na = min n 500) (hnb : nb = min m 500) (hnx : n ≤ 9223372036854775807) (hmx : m ≤ 9223372036854775807) (za ub : List Int) (w : World) (t1 t2 : ByteArray) (Eb : Nat) (hst : St A na c za B nb d ub w t1 t2 1 Eb) : Calls Try.prog 7 #[.slice A n c, .slice B m d, .int .i64 cut] w fun e w' => e = .returned (.bool true) ∧ But No w w' := by
  have CE : ∀ W, Hid (Calls Try.prog 10 #[] W fun e w' => e = .returned (.bool true) ∧ But No W w') := fun W => examples_any W
  have CWa := fun W hb => Lib.hid (hst.ca W hb)
  have CWb := fun W hb => Lib.hid (hst.cb W hb)
  have HNA := Lib.hid hna
  have HNB := Lib.hid hnb
  have hna5 : na ≤ 500 := by omega
  have hnb5 : nb ≤ 500 := by omega
  clear hna hnb
  go_enter Try.func7, Try.ntmps7
  go_upto_region 2 with (first | (go_at_call 10; refine (CE _).out.mono ?_; rintro e w1 ⟨rfl, hb1⟩; have HB1 := Lib.hid hb1; clear hb1))
  go_cut [0] (fun s0 wx => s0 = .slice A na c ∧ Hid (But No w wx))
  case first =>
    go_wp2
    all_goals (go_meet; exact ⟨by have := HNA.out; congr 1; omega, HB1⟩)
  case rest =>
  obtain ⟨rfl, HB2⟩ := hcut
  go_upto_region 3 with fail
  go_cut [1] (fun s1 wx => s1 = .slice B nb d ∧ Hid (But No w wx))
  case first =>
    go_wp2
    all_goals (go_meet; exact ⟨by have := HNB.out; congr 1; omega, HB2⟩)
  case rest =>
  obtain ⟨rfl, HB3⟩ := hcut
  go_wp2_with (first | (go_at_call 11; ((with_reducible refine (CWa _ HB3.out).out.mono ?_); rintro e w4 ⟨rfl, hb4⟩; have HB4 := Lib.hid (HB3.out.trans hb4); clear hb4)) | (go_at_call 11; ((with_reducible refine (CWb _ HB4.out).out.mono ?_); rintro e w5 ⟨rfl, hb5⟩; have HB5 := Lib.hid (HB4.out.trans hb5); clear hb5)))
  go_ret
  exact ⟨rfl, HB5.out⟩
set_option maxRecDepth 100000 in
set_option maxHeartbeats 4000000 in
theorem walk_b (A : Option Addr) (n c : Nat) (hnc : n ≤ c) (B : Option Addr) (m d : Nat) (hmd : m ≤ d) (cut : Int) (_ : inR cut) (na nb : Nat) (hna : na = min n 500) (hnb : nb = min m 500) (hnx : n ≤ 9223372036854775807) (hmx : m ≤ 9223372036854775807) (za ub : List Int) (w : World) (t1 t2 : ByteArray) (hst : St A na c za B nb d ub w t1 t2 0 1) : Calls Try.prog 7 #[.slice A n c, .slice B m d, .int .i64 cut] w fun e w' => e = .returned (.bool true) ∧ But No w w' := by
  have CE : ∀ W, Hid (Calls Try.prog 10 #[] W fun e w' => e = .returned (.bool true) ∧ But No W w') := fun W => examples_any W
  have CWa := fun W hb => Lib.hid (hst.ca W hb)
  have CWb := fun W hb => Lib.hid (hst.cb W hb)
  have HNA := Lib.hid hna
  have HNB := Lib.hid hnb
  have hna5 : na ≤ 500 := by omega
  have hnb5 : nb ≤ 500 := by omega
  clear hna hnb
  go_enter Try.func7, Try.ntmps7
  go_upto_region 2 with (first | (go_at_call 10; refine (CE _).out.mono ?_; rintro e w1 ⟨rfl, hb1⟩; have HB1 := Lib.hid hb1; clear hb1))
  go_cut [0] (fun s0 wx => s0 = .slice A na c ∧ Hid (But No w wx))
  case first =>
    go_wp2
    all_goals (go_meet; exact ⟨by have := HNA.out; congr 1; omega, HB1⟩)
  case rest =>
  obtain ⟨rfl, HB2⟩ := hcut
  go_upto_region 3 with fail
  go_cut [1] (fun s1 wx => s1 = .slice B nb d ∧ Hid (But No w wx))
  case first =>
    go_wp2
    all_goals (go_meet; exact ⟨by have := HNB.out; congr 1; omega, HB2⟩)
  case rest =>
  obtain ⟨rfl, HB3⟩ := hcut
  go_wp2_with (first | (go_at_call 11; ((with_reducible refine (CWa _ HB3.out).out.mono ?_); rintro e w4 ⟨rfl, hb4⟩; have HB4 := Lib.hid (HB3.out.trans hb4); clear hb4)) | (go_at_call 11; ((with_reducible refine (CWb _ HB4.out).out.mono ?_); rintro e w5 ⟨rfl, hb5⟩; have HB5 := Lib.hid (HB4.out.trans hb5); clear hb5)))
  go_ret
  exact ⟨rfl, HB5.out⟩
set_option maxRecDepth 100000 in
set_option maxHeartbeats 4000000 in
theorem walk_e (A : Option Addr) (n c : Nat) (hnc : n ≤ c) (B : Option Addr) (m d : Nat) (hmd : m ≤ d) (cut : Int) (hct : inR cut) (na nb : Nat) (hna : na = min n 500) (hnb : nb = min m 500) (hnx : n ≤ 9223372036854775807) (hmx : m ≤ 9223372036854775807) (za ub : List Int) (w : World) (t1 t2 : ByteArray) (hst : St A na c za B nb d ub w t1 t2 0 0) (_ : t1.size ≤ 18000) (hz2 : t2.size ≤ 18000) (nsa nsb : List Nat) (hla : nsa.length = na) (hlb : nsb.length = nb) (hoa : ofN nsa = za) (hob : ofN nsb = ub) (hr : rAll (nl (t1 ++ t2)) = (nsa ++ nsb, 0)) (h0 : t1.size = 0) : Calls Try.prog 7 #[.slice A n c, .slice B m d, .int .i64 cut] w fun e w' => e = .returned (.bool true) ∧ But No w w' := by
  have CE : ∀ W, Hid (Calls Try.prog 10 #[] W fun e w' => e = .returned (.bool true) ∧ But No W w') := fun W => examples_any W
  have CWa := fun W hb => Lib.hid (hst.ca W hb)
  have CWb := fun W hb => Lib.hid (hst.cb W hb)
  have HNA := Lib.hid hna
  have HNB := Lib.hid hnb
  have hna5 : na ≤ 500 := by omega
  have hnb5 : nb ≤ 500 := by omega
  have hg : ¬ (t1.size + t2.size > 9223372036854775807) := by omega
  have hsz : (t1 ++ t2).size = t1.size + t2.size := by rw [← nl_len, nl_append, List.length_append, nl_len, nl_len]
  have CR := fun W => Lib.hid (read_to hr (by omega) W)
  have HLA := Lib.hid hla
  have HLB := Lib.hid hlb
  have HOA := Lib.hid hoa
  have HOB := Lib.hid hob
  have HZA := Lib.hid hst.ra
  have HZB := Lib.hid hst.rb
  have CN : ∀ A' n' c' B' m' d' ts W, Hid (Rl W A' n' ts → Rl W B' m' ts → Calls Try.prog 15 #[.slice A' n' c', .slice B' m' d'] W fun e w' => e = .returned (.bool true) ∧ But No W w') := fun A' n' c' B' m' d' ts W => fun h1 h2 => by
    have := numbers_any A' B' n' m' c' d' ts ts W h1 h2
    rw [decide_eq_true rfl] at this
    exact this
  unfold inR at hct
  have ht0 : ((t1.size : Int) == 0) = true := by rw [h0]; rfl
  clear h0
  clear hla hlb hoa hob hr hst hsz hna hnb
  by_cases hneg : cut < 0
  · skip
    go_enter Try.func7, Try.ntmps7
    go_upto_region 2 with (first | (go_at_call 10; refine (CE _).out.mono ?_; rintro e w1 ⟨rfl, hb1⟩; have HB1 := Lib.hid hb1; clear hb1))
    go_cut [0] (fun s0 wx => s0 = .slice A na c ∧ Hid (But No w wx))
    case first =>
      go_wp2
      all_goals (go_meet; exact ⟨by have := HNA.out; congr 1; omega, HB1⟩)
    case rest =>
    obtain ⟨rfl, HB2⟩ := hcut
    go_upto_region 3 with fail
    go_cut [1] (fun s1 wx => s1 = .slice B nb d ∧ Hid (But No w wx))
    case first =>
      go_wp2
      all_goals (go_meet; exact ⟨by have := HNB.out; congr 1; omega, HB2⟩)
    case rest =>
    obtain ⟨rfl, HB3⟩ := hcut
    go_wp2_with (first | (go_at_call 11; ((with_reducible refine (CWa _ HB3.out).out.mono ?_); rintro e w4 ⟨rfl, hb4⟩; have HB4 := Lib.hid (HB3.out.trans hb4); clear hb4)) | (go_at_call 11; ((with_reducible refine (CWb _ HB4.out).out.mono ?_); rintro e w5 ⟨rfl, hb5⟩; have HB5 := Lib.hid (HB4.out.trans hb5); clear hb5)) | (go_at_call 14; ((with_reducible refine (CR _).out.mono ?_); rintro e w6 ⟨A6, n6, c6, rfl, hl6, ho6⟩; obtain ⟨hn6, hsl1, hr61, A7, m7, c7, hsl2, hr62⟩ := parts ho6 hl6 HLA.out HLB.out HOA.out HOB.out (by omega); have hne6 : ((n6 : Int) != (na : Int) + (nb : Int)) = false := (by rw [hn6]; simp); have hn61 : na ≤ n6 := (by omega); have hn62 : n6 ≤ 1000 := (by omega); have HB6 := Lib.hid (HB5.out.trans ho6.but); have HR1 := Lib.hid hr61; have HR2 := Lib.hid hr62; clear hl6 ho6 hr61 hr62 hn6)) | (go_at_call 15; ((with_reducible refine ((CN _ _ _ _ _ _ _ _).out HR1.out (HZA.out.no HB6.out)).mono ?_); rintro e w7 ⟨rfl, hb7⟩; have HB7 := Lib.hid (HB6.out.trans hb7); have HR27 := Lib.hid (HR2.out.no hb7); clear hb7)) | (go_at_call 15; ((with_reducible refine ((CN _ _ _ _ _ _ _ _).out HR27.out (HZB.out.no HB7.out)).mono ?_); rintro e w8 ⟨rfl, hb8⟩; have HB8 := Lib.hid (HB7.out.trans hb8); clear hb8)))
    go_ret
    exact ⟨rfl, HB8.out⟩
  · skip
    go_enter Try.func7, Try.ntmps7
    go_upto_region 2 with (first | (go_at_call 10; refine (CE _).out.mono ?_; rintro e w1 ⟨rfl, hb1⟩; have HB1 := Lib.hid hb1; clear hb1))
    go_cut [0] (fun s0 wx => s0 = .slice A na c ∧ Hid (But No w wx))
    case first =>
      go_wp2
      all_goals (go_meet; exact ⟨by have := HNA.out; congr 1; omega, HB1⟩)
    case rest =>
    obtain ⟨rfl, HB2⟩ := hcut
    go_upto_region 3 with fail
    go_cut [1] (fun s1 wx => s1 = .slice B nb d ∧ Hid (But No w wx))
    case first =>
      go_wp2
      all_goals (go_meet; exact ⟨by have := HNB.out; congr 1; omega, HB2⟩)
    case rest =>
    obtain ⟨rfl, HB3⟩ := hcut
    go_wp2_with (first | (go_at_call 11; ((with_reducible refine (CWa _ HB3.out).out.mono ?_); rintro e w4 ⟨rfl, hb4⟩; have HB4 := Lib.hid (HB3.out.trans hb4); clear hb4)) | (go_at_call 11; ((with_reducible refine (CWb _ HB4.out).out.mono ?_); rintro e w5 ⟨rfl, hb5⟩; have HB5 := Lib.hid (HB4.out.trans hb5); clear hb5)) | (go_at_call 14; ((with_reducible refine (CR _).out.mono ?_); rintro e w6 ⟨A6, n6, c6, rfl, hl6, ho6⟩; obtain ⟨hn6, hsl1, hr61, A7, m7, c7, hsl2, hr62⟩ := parts ho6 hl6 HLA.out HLB.out HOA.out HOB.out (by omega); have hne6 : ((n6 : Int) != (na : Int) + (nb : Int)) = false := (by rw [hn6]; simp); have hn61 : na ≤ n6 := (by omega); have hn62 : n6 ≤ 1000 := (by omega); have HB6 := Lib.hid (HB5.out.trans ho6.but); have HR1 := Lib.hid hr61; have HR2 := Lib.hid hr62; clear hl6 ho6 hr61 hr62 hn6)) | (go_at_call 15; ((with_reducible refine ((CN _ _ _ _ _ _ _ _).out HR1.out (HZA.out.no HB6.out)).mono ?_); rintro e w7 ⟨rfl, hb7⟩; have HB7 := Lib.hid (HB6.out.trans hb7); have HR27 := Lib.hid (HR2.out.no hb7); clear hb7)) | (go_at_call 15; ((with_reducible refine ((CN _ _ _ _ _ _ _ _).out HR27.out (HZB.out.no HB7.out)).mono ?_); rintro e w8 ⟨rfl, hb8⟩; have HB8 := Lib.hid (HB7.out.trans hb8); clear hb8)))
    go_ret
    exact ⟨rfl, HB8.out⟩
set_option maxRecDepth 100000 in
set_option maxHeartbeats 4000000 in
theorem walk_0 (A : Option Addr) (n c : Nat) (hnc : n ≤ c) (B : Option Addr) (m d : Nat) (hmd : m ≤ d) (cut : Int) (hct : inR cut) (na nb : Nat) (hna : na = min n 500) (hnb : nb = min m 500) (hnx : n ≤ 9223372036854775807) (hmx : m ≤ 9223372036854775807) (za ub : List Int) (w : World) (t1 t2 : ByteArray) (hst : St A na c za B nb d ub w t1 t2 0 0) (hz1 : t1.size ≤ 18000) (hz2 : t2.size ≤ 18000) (nsa nsb : List Nat) (hla : nsa.length = na) (hlb : nsb.length = nb) (hoa : ofN nsa = za) (hob : ofN nsb = ub) (hr : rAll (nl (t1 ++ t2)) = (nsa ++ nsb, 0)) (q : Nat) (hq : q < t1.size) (hcq : (cut < 0 ∧ -((cut + 1).tmod (t1.size : Int)) = (q : Int)) ∨ (¬ cut < 0 ∧ cut % (t1.size : Int) = (q : Int))) (nsx : List Nat) (hlx : nsx.length ≤ na) (hx : rAll (nl (t1.extract 0 q)) = (nsx, 0)) (hq0 : q = 0) : Calls Try.prog 7 #[.slice A n c, .slice B m d, .int .i64 cut] w fun e w' => e = .returned (.bool true) ∧ But No w w' := by
  have CE : ∀ W, Hid (Calls Try.prog 10 #[] W fun e w' => e = .returned (.bool true) ∧ But No W w') := fun W => examples_any W
  have CWa := fun W hb => Lib.hid (hst.ca W hb)
  have CWb := fun W hb => Lib.hid (hst.cb W hb)
  have HNA := Lib.hid hna
  have HNB := Lib.hid hnb
  have hna5 : na ≤ 500 := by omega
  have hnb5 : nb ≤ 500 := by omega
  have hg : ¬ (t1.size + t2.size > 9223372036854775807) := by omega
  have hsz : (t1 ++ t2).size = t1.size + t2.size := by rw [← nl_len, nl_append, List.length_append, nl_len, nl_len]
  have CR := fun W => Lib.hid (read_to hr (by omega) W)
  have HLA := Lib.hid hla
  have HLB := Lib.hid hlb
  have HOA := Lib.hid hoa
  have HOB := Lib.hid hob
  have HZA := Lib.hid hst.ra
  have HZB := Lib.hid hst.rb
  have CN : ∀ A' n' c' B' m' d' ts W, Hid (Rl W A' n' ts → Rl W B' m' ts → Calls Try.prog 15 #[.slice A' n' c', .slice B' m' d'] W fun e w' => e = .returned (.bool true) ∧ But No W w') := fun A' n' c' B' m' d' ts W => fun h1 h2 => by
    have := numbers_any A' B' n' m' c' d' ts ts W h1 h2
    rw [decide_eq_true rfl] at this
    exact this
  unfold inR at hct
  have ht0 : ((t1.size : Int) == 0) = false := by rw [beq_eq_false_iff_ne]; omega
  have hslx := to_run t1 q (by omega)
  have HXS : Hid ((t1.extract 0 q).size = q) := by show _ = _; rw [← nl_len, nl_extract, List.length_take, List.length_drop, nl_len]; omega
  have CX := fun W => Lib.hid (read_to hx (by rw [HXS.out]; omega) W)
  have HLX := Lib.hid hlx
  clear hlx hx HXS
  generalize t1.extract 0 q = x at *
  have hqt : ((q : Int) == 0) = true := by rw [hq0]; rfl
  clear hq0
  clear hla hlb hoa hob hr hst hsz hna hnb
  rcases hcq with ⟨hneg, hcq⟩ | ⟨hneg, hcq⟩
  · skip
    go_enter Try.func7, Try.ntmps7
    go_upto_region 2 with (first | (go_at_call 10; refine (CE _).out.mono ?_; rintro e w1 ⟨rfl, hb1⟩; have HB1 := Lib.hid hb1; clear hb1))
    go_cut [0] (fun s0 wx => s0 = .slice A na c ∧ Hid (But No w wx))
    case first =>
      go_wp2
      all_goals (go_meet; exact ⟨by have := HNA.out; congr 1; omega, HB1⟩)
    case rest =>
    obtain ⟨rfl, HB2⟩ := hcut
    go_upto_region 3 with fail
    go_cut [1] (fun s1 wx => s1 = .slice B nb d ∧ Hid (But No w wx))
    case first =>
      go_wp2
      all_goals (go_meet; exact ⟨by have := HNB.out; congr 1; omega, HB2⟩)
    case rest =>
    obtain ⟨rfl, HB3⟩ := hcut
    go_wp2_with (first | (go_at_call 11; ((with_reducible refine (CWa _ HB3.out).out.mono ?_); rintro e w4 ⟨rfl, hb4⟩; have HB4 := Lib.hid (HB3.out.trans hb4); clear hb4)) | (go_at_call 11; ((with_reducible refine (CWb _ HB4.out).out.mono ?_); rintro e w5 ⟨rfl, hb5⟩; have HB5 := Lib.hid (HB4.out.trans hb5); clear hb5)) | (go_at_call 14; ((with_reducible refine (CR _).out.mono ?_); rintro e w6 ⟨A6, n6, c6, rfl, hl6, ho6⟩; obtain ⟨hn6, hsl1, hr61, A7, m7, c7, hsl2, hr62⟩ := parts ho6 hl6 HLA.out HLB.out HOA.out HOB.out (by omega); have hne6 : ((n6 : Int) != (na : Int) + (nb : Int)) = false := (by rw [hn6]; simp); have hn61 : na ≤ n6 := (by omega); have hn62 : n6 ≤ 1000 := (by omega); have HB6 := Lib.hid (HB5.out.trans ho6.but); have HR1 := Lib.hid hr61; have HR2 := Lib.hid hr62; clear hl6 ho6 hr61 hr62 hn6)) | (go_at_call 15; ((with_reducible refine ((CN _ _ _ _ _ _ _ _).out HR1.out (HZA.out.no HB6.out)).mono ?_); rintro e w7 ⟨rfl, hb7⟩; have HB7 := Lib.hid (HB6.out.trans hb7); have HR27 := Lib.hid (HR2.out.no hb7); clear hb7)) | (go_at_call 15; ((with_reducible refine ((CN _ _ _ _ _ _ _ _).out HR27.out (HZB.out.no HB7.out)).mono ?_); rintro e w8 ⟨rfl, hb8⟩; have HB8 := Lib.hid (HB7.out.trans hb8); clear hb8)) | (go_at_call 14; ((with_reducible refine (CX _).out.mono ?_); rintro e w9 ⟨A9, n9, c9, rfl, hl9, ho9⟩; have HB9 := Lib.hid (HB8.out.trans ho9.but); have hn9 : n9 ≤ na := (by have := HLX.out; omega); have hd9 : decide ((n9 : Int) ≤ (na : Int)) = true := (by simp; omega); clear hl9 ho9)))
    go_ret
    exact ⟨rfl, HB9.out⟩
  · skip
    go_enter Try.func7, Try.ntmps7
    go_upto_region 2 with (first | (go_at_call 10; refine (CE _).out.mono ?_; rintro e w1 ⟨rfl, hb1⟩; have HB1 := Lib.hid hb1; clear hb1))
    go_cut [0] (fun s0 wx => s0 = .slice A na c ∧ Hid (But No w wx))
    case first =>
      go_wp2
      all_goals (go_meet; exact ⟨by have := HNA.out; congr 1; omega, HB1⟩)
    case rest =>
    obtain ⟨rfl, HB2⟩ := hcut
    go_upto_region 3 with fail
    go_cut [1] (fun s1 wx => s1 = .slice B nb d ∧ Hid (But No w wx))
    case first =>
      go_wp2
      all_goals (go_meet; exact ⟨by have := HNB.out; congr 1; omega, HB2⟩)
    case rest =>
    obtain ⟨rfl, HB3⟩ := hcut
    go_wp2_with (first | (go_at_call 11; ((with_reducible refine (CWa _ HB3.out).out.mono ?_); rintro e w4 ⟨rfl, hb4⟩; have HB4 := Lib.hid (HB3.out.trans hb4); clear hb4)) | (go_at_call 11; ((with_reducible refine (CWb _ HB4.out).out.mono ?_); rintro e w5 ⟨rfl, hb5⟩; have HB5 := Lib.hid (HB4.out.trans hb5); clear hb5)) | (go_at_call 14; ((with_reducible refine (CR _).out.mono ?_); rintro e w6 ⟨A6, n6, c6, rfl, hl6, ho6⟩; obtain ⟨hn6, hsl1, hr61, A7, m7, c7, hsl2, hr62⟩ := parts ho6 hl6 HLA.out HLB.out HOA.out HOB.out (by omega); have hne6 : ((n6 : Int) != (na : Int) + (nb : Int)) = false := (by rw [hn6]; simp); have hn61 : na ≤ n6 := (by omega); have hn62 : n6 ≤ 1000 := (by omega); have HB6 := Lib.hid (HB5.out.trans ho6.but); have HR1 := Lib.hid hr61; have HR2 := Lib.hid hr62; clear hl6 ho6 hr61 hr62 hn6)) | (go_at_call 15; ((with_reducible refine ((CN _ _ _ _ _ _ _ _).out HR1.out (HZA.out.no HB6.out)).mono ?_); rintro e w7 ⟨rfl, hb7⟩; have HB7 := Lib.hid (HB6.out.trans hb7); have HR27 := Lib.hid (HR2.out.no hb7); clear hb7)) | (go_at_call 15; ((with_reducible refine ((CN _ _ _ _ _ _ _ _).out HR27.out (HZB.out.no HB7.out)).mono ?_); rintro e w8 ⟨rfl, hb8⟩; have HB8 := Lib.hid (HB7.out.trans hb8); clear hb8)) | (go_at_call 14; ((with_reducible refine (CX _).out.mono ?_); rintro e w9 ⟨A9, n9, c9, rfl, hl9, ho9⟩; have HB9 := Lib.hid (HB8.out.trans ho9.but); have hn9 : n9 ≤ na := (by have := HLX.out; omega); have hd9 : decide ((n9 : Int) ≤ (na : Int)) = true := (by simp; omega); clear hl9 ho9)))
    go_ret
    exact ⟨rfl, HB9.out⟩
set_option maxRecDepth 100000 in
set_option maxHeartbeats 4000000 in
theorem walk_l (A : Option Addr) (n c : Nat) (hnc : n ≤ c) (B : Option Addr) (m d : Nat) (hmd : m ≤ d) (cut : Int) (hct : inR cut) (na nb : Nat) (hna : na = min n 500) (hnb : nb = min m 500) (hnx : n ≤ 9223372036854775807) (hmx : m ≤ 9223372036854775807) (za ub : List Int) (w : World) (t1 t2 : ByteArray) (hst : St A na c za B nb d ub w t1 t2 0 0) (hz1 : t1.size ≤ 18000) (hz2 : t2.size ≤ 18000) (nsa nsb : List Nat) (hla : nsa.length = na) (hlb : nsb.length = nb) (hoa : ofN nsa = za) (hob : ofN nsb = ub) (hr : rAll (nl (t1 ++ t2)) = (nsa ++ nsb, 0)) (q : Nat) (hq : q < t1.size) (hcq : (cut < 0 ∧ -((cut + 1).tmod (t1.size : Int)) = (q : Int)) ∨ (¬ cut < 0 ∧ cut % (t1.size : Int) = (q : Int))) (nsx : List Nat) (hlx : nsx.length ≤ na) (hx : rAll (nl (t1.extract 0 q)) = (nsx, 0)) (hq0 : 0 < q) (hb : (nl t1).getD (q - 1) 0 < 128) : Calls Try.prog 7 #[.slice A n c, .slice B m d, .int .i64 cut] w fun e w' => e = .returned (.bool true) ∧ But No w w' := by
  have CE : ∀ W, Hid (Calls Try.prog 10 #[] W fun e w' => e = .returned (.bool true) ∧ But No W w') := fun W => examples_any W
  have CWa := fun W hb => Lib.hid (hst.ca W hb)
  have CWb := fun W hb => Lib.hid (hst.cb W hb)
  have HNA := Lib.hid hna
  have HNB := Lib.hid hnb
  have hna5 : na ≤ 500 := by omega
  have hnb5 : nb ≤ 500 := by omega
  have hg : ¬ (t1.size + t2.size > 9223372036854775807) := by omega
  have hsz : (t1 ++ t2).size = t1.size + t2.size := by rw [← nl_len, nl_append, List.length_append, nl_len, nl_len]
  have CR := fun W => Lib.hid (read_to hr (by omega) W)
  have HLA := Lib.hid hla
  have HLB := Lib.hid hlb
  have HOA := Lib.hid hoa
  have HOB := Lib.hid hob
  have HZA := Lib.hid hst.ra
  have HZB := Lib.hid hst.rb
  have CN : ∀ A' n' c' B' m' d' ts W, Hid (Rl W A' n' ts → Rl W B' m' ts → Calls Try.prog 15 #[.slice A' n' c', .slice B' m' d'] W fun e w' => e = .returned (.bool true) ∧ But No W w') := fun A' n' c' B' m' d' ts W => fun h1 h2 => by
    have := numbers_any A' B' n' m' c' d' ts ts W h1 h2
    rw [decide_eq_true rfl] at this
    exact this
  unfold inR at hct
  have ht0 : ((t1.size : Int) == 0) = false := by rw [beq_eq_false_iff_ne]; omega
  have hslx := to_run t1 q (by omega)
  have HXS : Hid ((t1.extract 0 q).size = q) := by show _ = _; rw [← nl_len, nl_extract, List.length_take, List.length_drop, nl_len]; omega
  have CX := fun W => Lib.hid (read_to hx (by rw [HXS.out]; omega) W)
  have HLX := Lib.hid hlx
  clear hlx hx HXS
  generalize t1.extract 0 q = x at *
  have hqt : ((q : Int) == 0) = false := by rw [beq_eq_false_iff_ne]; omega
  have hix := index_run t1 (q - 1) (by omega)
  obtain ⟨p, hp⟩ : ∃ p, q - 1 = p := ⟨_, rfl⟩
  rw [hp] at hix hb
  have hqp : (q : Int) - 1 = (p : Int) := by omega
  generalize (nl t1).getD p 0 = y at *
  have hyb : decide ((y : Int) < 128) = true := by simp; omega
  have hpl : p < t1.size := by omega
  clear hp hb
  clear hla hlb hoa hob hr hst hsz hna hnb
  rcases hcq with ⟨hneg, hcq⟩ | ⟨hneg, hcq⟩
  · skip
    go_enter Try.func7, Try.ntmps7
    go_upto_region 2 with (first | (go_at_call 10; refine (CE _).out.mono ?_; rintro e w1 ⟨rfl, hb1⟩; have HB1 := Lib.hid hb1; clear hb1))
    go_cut [0] (fun s0 wx => s0 = .slice A na c ∧ Hid (But No w wx))
    case first =>
      go_wp2
      all_goals (go_meet; exact ⟨by have := HNA.out; congr 1; omega, HB1⟩)
    case rest =>
    obtain ⟨rfl, HB2⟩ := hcut
    go_upto_region 3 with fail
    go_cut [1] (fun s1 wx => s1 = .slice B nb d ∧ Hid (But No w wx))
    case first =>
      go_wp2
      all_goals (go_meet; exact ⟨by have := HNB.out; congr 1; omega, HB2⟩)
    case rest =>
    obtain ⟨rfl, HB3⟩ := hcut
    go_wp2_with (first | (go_at_call 11; ((with_reducible refine (CWa _ HB3.out).out.mono ?_); rintro e w4 ⟨rfl, hb4⟩; have HB4 := Lib.hid (HB3.out.trans hb4); clear hb4)) | (go_at_call 11; ((with_reducible refine (CWb _ HB4.out).out.mono ?_); rintro e w5 ⟨rfl, hb5⟩; have HB5 := Lib.hid (HB4.out.trans hb5); clear hb5)) | (go_at_call 14; ((with_reducible refine (CR _).out.mono ?_); rintro e w6 ⟨A6, n6, c6, rfl, hl6, ho6⟩; obtain ⟨hn6, hsl1, hr61, A7, m7, c7, hsl2, hr62⟩ := parts ho6 hl6 HLA.out HLB.out HOA.out HOB.out (by omega); have hne6 : ((n6 : Int) != (na : Int) + (nb : Int)) = false := (by rw [hn6]; simp); have hn61 : na ≤ n6 := (by omega); have hn62 : n6 ≤ 1000 := (by omega); have HB6 := Lib.hid (HB5.out.trans ho6.but); have HR1 := Lib.hid hr61; have HR2 := Lib.hid hr62; clear hl6 ho6 hr61 hr62 hn6)) | (go_at_call 15; ((with_reducible refine ((CN _ _ _ _ _ _ _ _).out HR1.out (HZA.out.no HB6.out)).mono ?_); rintro e w7 ⟨rfl, hb7⟩; have HB7 := Lib.hid (HB6.out.trans hb7); have HR27 := Lib.hid (HR2.out.no hb7); clear hb7)) | (go_at_call 15; ((with_reducible refine ((CN _ _ _ _ _ _ _ _).out HR27.out (HZB.out.no HB7.out)).mono ?_); rintro e w8 ⟨rfl, hb8⟩; have HB8 := Lib.hid (HB7.out.trans hb8); clear hb8)) | (go_at_call 14; ((with_reducible refine (CX _).out.mono ?_); rintro e w9 ⟨A9, n9, c9, rfl, hl9, ho9⟩; have HB9 := Lib.hid (HB8.out.trans ho9.but); have hn9 : n9 ≤ na := (by have := HLX.out; omega); have hd9 : decide ((n9 : Int) ≤ (na : Int)) = true := (by simp; omega); clear hl9 ho9)))
    go_ret
    exact ⟨rfl, HB9.out⟩
  · skip
    go_enter Try.func7, Try.ntmps7
    go_upto_region 2 with (first | (go_at_call 10; refine (CE _).out.mono ?_; rintro e w1 ⟨rfl, hb1⟩; have HB1 := Lib.hid hb1; clear hb1))
    go_cut [0] (fun s0 wx => s0 = .slice A na c ∧ Hid (But No w wx))
    case first =>
      go_wp2
      all_goals (go_meet; exact ⟨by have := HNA.out; congr 1; omega, HB1⟩)
    case rest =>
    obtain ⟨rfl, HB2⟩ := hcut
    go_upto_region 3 with fail
    go_cut [1] (fun s1 wx => s1 = .slice B nb d ∧ Hid (But No w wx))
    case first =>
      go_wp2
      all_goals (go_meet; exact ⟨by have := HNB.out; congr 1; omega, HB2⟩)
    case rest =>
    obtain ⟨rfl, HB3⟩ := hcut
    go_wp2_with (first | (go_at_call 11; ((with_reducible refine (CWa _ HB3.out).out.mono ?_); rintro e w4 ⟨rfl, hb4⟩; have HB4 := Lib.hid (HB3.out.trans hb4); clear hb4)) | (go_at_call 11; ((with_reducible refine (CWb _ HB4.out).out.mono ?_); rintro e w5 ⟨rfl, hb5⟩; have HB5 := Lib.hid (HB4.out.trans hb5); clear hb5)) | (go_at_call 14; ((with_reducible refine (CR _).out.mono ?_); rintro e w6 ⟨A6, n6, c6, rfl, hl6, ho6⟩; obtain ⟨hn6, hsl1, hr61, A7, m7, c7, hsl2, hr62⟩ := parts ho6 hl6 HLA.out HLB.out HOA.out HOB.out (by omega); have hne6 : ((n6 : Int) != (na : Int) + (nb : Int)) = false := (by rw [hn6]; simp); have hn61 : na ≤ n6 := (by omega); have hn62 : n6 ≤ 1000 := (by omega); have HB6 := Lib.hid (HB5.out.trans ho6.but); have HR1 := Lib.hid hr61; have HR2 := Lib.hid hr62; clear hl6 ho6 hr61 hr62 hn6)) | (go_at_call 15; ((with_reducible refine ((CN _ _ _ _ _ _ _ _).out HR1.out (HZA.out.no HB6.out)).mono ?_); rintro e w7 ⟨rfl, hb7⟩; have HB7 := Lib.hid (HB6.out.trans hb7); have HR27 := Lib.hid (HR2.out.no hb7); clear hb7)) | (go_at_call 15; ((with_reducible refine ((CN _ _ _ _ _ _ _ _).out HR27.out (HZB.out.no HB7.out)).mono ?_); rintro e w8 ⟨rfl, hb8⟩; have HB8 := Lib.hid (HB7.out.trans hb8); clear hb8)) | (go_at_call 14; ((with_reducible refine (CX _).out.mono ?_); rintro e w9 ⟨A9, n9, c9, rfl, hl9, ho9⟩; have HB9 := Lib.hid (HB8.out.trans ho9.but); have hn9 : n9 ≤ na := (by have := HLX.out; omega); have hd9 : decide ((n9 : Int) ≤ (na : Int)) = true := (by simp; omega); clear hl9 ho9)))
    go_ret
    exact ⟨rfl, HB9.out⟩
set_option maxRecDepth 100000 in
set_option maxHeartbeats 4000000 in
theorem walk_h (A : Option Addr) (n c : Nat) (hnc : n ≤ c) (B : Option Addr) (m d : Nat) (hmd : m ≤ d) (cut : Int) (hct : inR cut) (na nb : Nat) (hna : na = min n 500) (hnb : nb = min m 500) (hnx : n ≤ 9223372036854775807) (hmx : m ≤ 9223372036854775807) (za ub : List Int) (w : World) (t1 t2 : ByteArray) (hst : St A na c za B nb d ub w t1 t2 0 0) (hz1 : t1.size ≤ 18000) (hz2 : t2.size ≤ 18000) (nsa nsb : List Nat) (hla : nsa.length = na) (hlb : nsb.length = nb) (hoa : ofN nsa = za) (hob : ofN nsb = ub) (hr : rAll (nl (t1 ++ t2)) = (nsa ++ nsb, 0)) (q : Nat) (hq : q < t1.size) (hcq : (cut < 0 ∧ -((cut + 1).tmod (t1.size : Int)) = (q : Int)) ∨ (¬ cut < 0 ∧ cut % (t1.size : Int) = (q : Int))) (nsx : List Nat) (hlx : nsx.length ≤ na) (hx : rAll (nl (t1.extract 0 q)) = (nsx, 6)) (hq0 : 0 < q) (hb : ¬ (nl t1).getD (q - 1) 0 < 128) : Calls Try.prog 7 #[.slice A n c, .slice B m d, .int .i64 cut] w fun e w' => e = .returned (.bool true) ∧ But No w w' := by
  have CE : ∀ W, Hid (Calls Try.prog 10 #[] W fun e w' => e = .returned (.bool true) ∧ But No W w') := fun W => examples_any W
  have CWa := fun W hb => Lib.hid (hst.ca W hb)
  have CWb := fun W hb => Lib.hid (hst.cb W hb)
  have HNA := Lib.hid hna
  have HNB := Lib.hid hnb
  have hna5 : na ≤ 500 := by omega
  have hnb5 : nb ≤ 500 := by omega
  have hg : ¬ (t1.size + t2.size > 9223372036854775807) := by omega
  have hsz : (t1 ++ t2).size = t1.size + t2.size := by rw [← nl_len, nl_append, List.length_append, nl_len, nl_len]
  have CR := fun W => Lib.hid (read_to hr (by omega) W)
  have HLA := Lib.hid hla
  have HLB := Lib.hid hlb
  have HOA := Lib.hid hoa
  have HOB := Lib.hid hob
  have HZA := Lib.hid hst.ra
  have HZB := Lib.hid hst.rb
  have CN : ∀ A' n' c' B' m' d' ts W, Hid (Rl W A' n' ts → Rl W B' m' ts → Calls Try.prog 15 #[.slice A' n' c', .slice B' m' d'] W fun e w' => e = .returned (.bool true) ∧ But No W w') := fun A' n' c' B' m' d' ts W => fun h1 h2 => by
    have := numbers_any A' B' n' m' c' d' ts ts W h1 h2
    rw [decide_eq_true rfl] at this
    exact this
  unfold inR at hct
  have ht0 : ((t1.size : Int) == 0) = false := by rw [beq_eq_false_iff_ne]; omega
  have hslx := to_run t1 q (by omega)
  have HXS : Hid ((t1.extract 0 q).size = q) := by show _ = _; rw [← nl_len, nl_extract, List.length_take, List.length_drop, nl_len]; omega
  have CX := fun W => Lib.hid (read_to hx (by rw [HXS.out]; omega) W)
  have HLX := Lib.hid hlx
  clear hlx hx HXS
  generalize t1.extract 0 q = x at *
  have hqt : ((q : Int) == 0) = false := by rw [beq_eq_false_iff_ne]; omega
  have hix := index_run t1 (q - 1) (by omega)
  obtain ⟨p, hp⟩ : ∃ p, q - 1 = p := ⟨_, rfl⟩
  rw [hp] at hix hb
  have hqp : (q : Int) - 1 = (p : Int) := by omega
  generalize (nl t1).getD p 0 = y at *
  have hyb : decide ((y : Int) < 128) = false := by simp; omega
  have hpl : p < t1.size := by omega
  clear hp hb
  clear hla hlb hoa hob hr hst hsz hna hnb
  rcases hcq with ⟨hneg, hcq⟩ | ⟨hneg, hcq⟩
  · skip
    go_enter Try.func7, Try.ntmps7
    go_upto_region 2 with (first | (go_at_call 10; refine (CE _).out.mono ?_; rintro e w1 ⟨rfl, hb1⟩; have HB1 := Lib.hid hb1; clear hb1))
    go_cut [0] (fun s0 wx => s0 = .slice A na c ∧ Hid (But No w wx))
    case first =>
      go_wp2
      all_goals (go_meet; exact ⟨by have := HNA.out; congr 1; omega, HB1⟩)
    case rest =>
    obtain ⟨rfl, HB2⟩ := hcut
    go_upto_region 3 with fail
    go_cut [1] (fun s1 wx => s1 = .slice B nb d ∧ Hid (But No w wx))
    case first =>
      go_wp2
      all_goals (go_meet; exact ⟨by have := HNB.out; congr 1; omega, HB2⟩)
    case rest =>
    obtain ⟨rfl, HB3⟩ := hcut
    go_wp2_with (first | (go_at_call 11; ((with_reducible refine (CWa _ HB3.out).out.mono ?_); rintro e w4 ⟨rfl, hb4⟩; have HB4 := Lib.hid (HB3.out.trans hb4); clear hb4)) | (go_at_call 11; ((with_reducible refine (CWb _ HB4.out).out.mono ?_); rintro e w5 ⟨rfl, hb5⟩; have HB5 := Lib.hid (HB4.out.trans hb5); clear hb5)) | (go_at_call 14; ((with_reducible refine (CR _).out.mono ?_); rintro e w6 ⟨A6, n6, c6, rfl, hl6, ho6⟩; obtain ⟨hn6, hsl1, hr61, A7, m7, c7, hsl2, hr62⟩ := parts ho6 hl6 HLA.out HLB.out HOA.out HOB.out (by omega); have hne6 : ((n6 : Int) != (na : Int) + (nb : Int)) = false := (by rw [hn6]; simp); have hn61 : na ≤ n6 := (by omega); have hn62 : n6 ≤ 1000 := (by omega); have HB6 := Lib.hid (HB5.out.trans ho6.but); have HR1 := Lib.hid hr61; have HR2 := Lib.hid hr62; clear hl6 ho6 hr61 hr62 hn6)) | (go_at_call 15; ((with_reducible refine ((CN _ _ _ _ _ _ _ _).out HR1.out (HZA.out.no HB6.out)).mono ?_); rintro e w7 ⟨rfl, hb7⟩; have HB7 := Lib.hid (HB6.out.trans hb7); have HR27 := Lib.hid (HR2.out.no hb7); clear hb7)) | (go_at_call 15; ((with_reducible refine ((CN _ _ _ _ _ _ _ _).out HR27.out (HZB.out.no HB7.out)).mono ?_); rintro e w8 ⟨rfl, hb8⟩; have HB8 := Lib.hid (HB7.out.trans hb8); clear hb8)) | (go_at_call 14; ((with_reducible refine (CX _).out.mono ?_); rintro e w9 ⟨A9, n9, c9, rfl, hl9, ho9⟩; have HB9 := Lib.hid (HB8.out.trans ho9.but); have hn9 : n9 ≤ na := (by have := HLX.out; omega); have hd9 : decide ((n9 : Int) ≤ (na : Int)) = true := (by simp; omega); clear hl9 ho9)))
    go_ret
    exact ⟨rfl, HB9.out⟩
  · skip
    go_enter Try.func7, Try.ntmps7
    go_upto_region 2 with (first | (go_at_call 10; refine (CE _).out.mono ?_; rintro e w1 ⟨rfl, hb1⟩; have HB1 := Lib.hid hb1; clear hb1))
    go_cut [0] (fun s0 wx => s0 = .slice A na c ∧ Hid (But No w wx))
    case first =>
      go_wp2
      all_goals (go_meet; exact ⟨by have := HNA.out; congr 1; omega, HB1⟩)
    case rest =>
    obtain ⟨rfl, HB2⟩ := hcut
    go_upto_region 3 with fail
    go_cut [1] (fun s1 wx => s1 = .slice B nb d ∧ Hid (But No w wx))
    case first =>
      go_wp2
      all_goals (go_meet; exact ⟨by have := HNB.out; congr 1; omega, HB2⟩)
    case rest =>
    obtain ⟨rfl, HB3⟩ := hcut
    go_wp2_with (first | (go_at_call 11; ((with_reducible refine (CWa _ HB3.out).out.mono ?_); rintro e w4 ⟨rfl, hb4⟩; have HB4 := Lib.hid (HB3.out.trans hb4); clear hb4)) | (go_at_call 11; ((with_reducible refine (CWb _ HB4.out).out.mono ?_); rintro e w5 ⟨rfl, hb5⟩; have HB5 := Lib.hid (HB4.out.trans hb5); clear hb5)) | (go_at_call 14; ((with_reducible refine (CR _).out.mono ?_); rintro e w6 ⟨A6, n6, c6, rfl, hl6, ho6⟩; obtain ⟨hn6, hsl1, hr61, A7, m7, c7, hsl2, hr62⟩ := parts ho6 hl6 HLA.out HLB.out HOA.out HOB.out (by omega); have hne6 : ((n6 : Int) != (na : Int) + (nb : Int)) = false := (by rw [hn6]; simp); have hn61 : na ≤ n6 := (by omega); have hn62 : n6 ≤ 1000 := (by omega); have HB6 := Lib.hid (HB5.out.trans ho6.but); have HR1 := Lib.hid hr61; have HR2 := Lib.hid hr62; clear hl6 ho6 hr61 hr62 hn6)) | (go_at_call 15; ((with_reducible refine ((CN _ _ _ _ _ _ _ _).out HR1.out (HZA.out.no HB6.out)).mono ?_); rintro e w7 ⟨rfl, hb7⟩; have HB7 := Lib.hid (HB6.out.trans hb7); have HR27 := Lib.hid (HR2.out.no hb7); clear hb7)) | (go_at_call 15; ((with_reducible refine ((CN _ _ _ _ _ _ _ _).out HR27.out (HZB.out.no HB7.out)).mono ?_); rintro e w8 ⟨rfl, hb8⟩; have HB8 := Lib.hid (HB7.out.trans hb8); clear hb8)) | (go_at_call 14; ((with_reducible refine (CX _).out.mono ?_); rintro e w9 ⟨A9, n9, c9, rfl, hl9, ho9⟩; have HB9 := Lib.hid (HB8.out.trans ho9.but); have hn9 : n9 ≤ na := (by have := HLX.out; omega); have hd9 : decide ((n9 : Int) ≤ (na : Int)) = true := (by simp; omega); clear hl9 ho9)))
    go_ret
    exact ⟨rfl, HB9.out⟩
set_option maxRecDepth 100000 in
set_option maxHeartbeats 4000000 in
theorem walk (A : Option Addr) (n c : Nat) (zs : List Int) (hnc : n ≤ c) (B : Option Addr) (m d : Nat) (us : List Int) (hmd : m ≤ d) (cut : Int) (hcw : (Lit.int .i64 cut).wf = true) (w : World) (hz : Rd w A n zs) (hu : Rd w B m us) :
    Calls Try.prog 7 #[.slice A n c, .slice B m d, .int .i64 cut] w fun e w' => e = .returned (.bool true) ∧ But No w w' := by
  have hct := inR_of hcw
  have hnx := hz.max
  have hmx := hu.max
  have hza := (show Rl w A n zs from ⟨hz.len, hz.max, hz.at_⟩).take (k := min n 500) (by omega)
  have hub := (show Rl w B m us from ⟨hu.len, hu.max, hu.at_⟩).take (k := min m 500) (by omega)
  generalize zs.take (min n 500) = za at *
  generalize us.take (min m 500) = ub at *
  have hla := hza.len
  have hlb := hub.len
  have ht1 : nl (bl (wOut za)) = wOut za := nl_bl (wOut_lt za)
  have ht2 : nl (bl (wOut ub)) = wOut ub := nl_bl (wOut_lt ub)
  have hz1 : (bl (wOut za)).size ≤ 18000 := by rw [← nl_len, ht1]; exact wOut_len za
  have hz2 : (bl (wOut ub)).size ≤ 18000 := by rw [← nl_len, ht2]; exact wOut_len ub
  have hea : wErr za = 0 ∨ wErr za = 1 := by
    unfold wErr; rw [if_neg (by omega)]; by_cases h : za.all good = true <;> simp [h]
  have heb : wErr ub = 0 ∨ wErr ub = 1 := by
    unfold wErr; rw [if_neg (by omega)]; by_cases h : ub.all good = true <;> simp [h]
  have hst : ∀ Ea Eb, wErr za = Ea → wErr ub = Eb → St A (min n 500) c za B (min m 500) d ub w (bl (wOut za)) (bl (wOut ub)) Ea Eb := fun Ea Eb ha hb => ⟨fun W h => write_to ht1 ha W (hza.no h), fun W h => write_to ht2 hb W (hub.no h), hza, hub⟩
  rcases hea with hea | hea
  · rcases heb with heb | heb
    · have hr : rAll (nl (bl (wOut za) ++ bl (wOut ub))) = (za.map Int.toNat ++ ub.map Int.toNat, 0) := by
        rw [nl_append, ht1, ht2]; exact read_both hea heb (by omega)
      have hoa := toNat_ofN (fun z h => ((wErr_zero hea).2 z h).1)
      have hob := toNat_ofN (fun z h => ((wErr_zero heb).2 z h).1)
      rcases Nat.eq_zero_or_pos (bl (wOut za)).size with h0 | h0
      · exact walk_e A n c hnc B m d hmd cut hct _ _ rfl rfl hnx hmx za ub w _ _ (hst 0 0 hea heb) hz1 hz2 _ _ (by rw [List.length_map, hla]) (by rw [List.length_map, hlb]) hoa hob hr h0
      · obtain ⟨q, hq, hcq⟩ := bitQ cut hct _ h0 hz1
        have hql : q < (wOut za).length := by rw [← ht1, nl_len]; exact hq
        obtain ⟨nsx, E, hx, hlx, hc⟩ := read_cut hea hql
        have hx' : rAll (nl ((bl (wOut za)).extract 0 q)) = (nsx, E) := by
          rw [nl_extract, ht1, List.drop_zero, Nat.sub_zero]; exact hx
        rw [hla] at hlx
        rw [← ht1] at hc
        rcases hc with ⟨hq0, rfl⟩ | ⟨hq0, hb, rfl⟩ | ⟨hq0, hb, rfl⟩
        · exact walk_0 A n c hnc B m d hmd cut hct _ _ rfl rfl hnx hmx za ub w _ _ (hst 0 0 hea heb) hz1 hz2 _ _ (by rw [List.length_map, hla]) (by rw [List.length_map, hlb]) hoa hob hr q hq hcq nsx hlx hx' hq0
        · exact walk_l A n c hnc B m d hmd cut hct _ _ rfl rfl hnx hmx za ub w _ _ (hst 0 0 hea heb) hz1 hz2 _ _ (by rw [List.length_map, hla]) (by rw [List.length_map, hlb]) hoa hob hr q hq hcq nsx hlx hx' hq0 hb
        · exact walk_h A n c hnc B m d hmd cut hct _ _ rfl rfl hnx hmx za ub w _ _ (hst 0 0 hea heb) hz1 hz2 _ _ (by rw [List.length_map, hla]) (by rw [List.length_map, hlb]) hoa hob hr q hq hcq nsx hlx hx' hq0 hb
    · exact walk_b A n c hnc B m d hmd cut hct _ _ rfl rfl hnx hmx za ub w _ _ (hst 0 1 hea heb)
  · exact walk_a A n c hnc B m d hmd cut hct _ _ rfl rfl hnx hmx za ub w _ _ _ (hst 1 _ hea rfl)
end Go.Proofs.Ytkgklgmkbkbeiaa.packCuts
