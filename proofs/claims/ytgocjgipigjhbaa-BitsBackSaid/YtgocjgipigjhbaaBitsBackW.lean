/- The list of any set makes the set; what is taken and given back leaves it as it was without: BitsBack returns true. (The walk.) -/
import Derived.Test.YtgocjgipigjhbaaK
import Derived.Test.YtgocjgipigjhbaaBitsMakesW
namespace Go.Proofs.Ytgocjgipigjhbaa.bitsBack
open Go.ChangeShapes Go.WideShapes Go.ChangeAt Go.RowKit
attribute [local go_sem] eq_in23
theorem list_lvs (s : Q) : lvs s.list = true := by
  unfold lvs
  rw [List.all_eq_true]
  intro z hz
  obtain ⟨j, h1, h2, _⟩ := lst_mem.1 hz
  rw [isLv_iff]; omega
theorem of_list {s : Q} (hs : s.ok) : Q.of s.list = s :=
  Q.ext_has (Q.of_ok _) hs (fun j hj => by
    unfold Q.of
    rw [bitsMakes.has_fold hj _ (list_lvs s), Q.has_zero]
    unfold inL
    rw [Bool.false_or]
    by_cases e : s.has j = true
    · rw [e, decide_eq_true_iff]; exact lst_mem.2 ⟨j, rfl, hj, e⟩
    · have e' : s.has j = false := by simpa using e
      rw [e', decide_eq_false_iff_not]
      intro h
      obtain ⟨k, h1, h2, h3⟩ := lst_mem.1 h
      have : k = j := by omega
      subst this
      exact e h3)
theorem with_without {s : Q} (hs : s.ok) (i : Int) : (s.withI i).withoutI i = s.withoutI i := by
  unfold Q.withI Q.withoutI
  by_cases h : 0 ≤ i ∧ i < 256
  · rw [if_pos h, if_pos h, if_pos h]
    refine Q.ext_has (Q.without_ok (Q.with_ok hs _) _) (Q.without_ok hs _) (fun j hj => ?_)
    rw [Q.has_without _ (by omega) hj, Q.has_with _ (by omega) hj, Q.has_without _ (by omega) hj]
    by_cases e : j = i.toNat <;> simp [e]
  · rw [if_neg h, if_neg h, if_neg h]
theorem without_with {s : Q} (hs : s.ok) (i : Int) : (s.withoutI i).withI i = s.withI i := by
  unfold Q.withI Q.withoutI
  by_cases h : 0 ≤ i ∧ i < 256
  · rw [if_pos h, if_pos h, if_pos h]
    refine Q.ext_has (Q.with_ok (Q.without_ok hs _) _) (Q.with_ok hs _) (fun j hj => ?_)
    rw [Q.has_with _ (by omega) hj, Q.has_without _ (by omega) hj, Q.has_with _ (by omega) hj]
    by_cases e : j = i.toNat <;> simp [e]
  · rw [if_neg h, if_neg h, if_neg h]
theorem with_with {s : Q} (hs : s.ok) (i : Int) : (s.withI i).withI i = s.withI i := by
  unfold Q.withI
  by_cases h : 0 ≤ i ∧ i < 256
  · rw [if_pos h, if_pos h]
    refine Q.ext_has (Q.with_ok (Q.with_ok hs _) _) (Q.with_ok hs _) (fun j hj => ?_)
    rw [Q.has_with _ (by omega) hj, Q.has_with _ (by omega) hj]
    by_cases e : j = i.toNat <;> simp [e]
  · rw [if_neg h, if_neg h]
set_option maxHeartbeats 8000000 in
set_option maxRecDepth 100000 in
theorem walk (s : Q) (hs : s.ok) (i : Int) (_ : (Lit.int .i64 i).wf = true) (w : World) : Calls Try.prog 6 #[sv s, .int .i64 i] w fun e w' => e = .returned (.bool true) ∧ But No w w' := by
  have CE : Hid (∀ w, Calls Try.prog 10 #[] w fun e w' => e = .returned (.bool true) ∧ But No w w') := examples_any
  have CL : Hid (∀ w, Calls Try.prog 12 #[sv s] w (ListEnd w s)) := fun w => list_any s w hs
  have CF : Hid (∀ w g, Rd w (some ⟨g, 0, none⟩) s.count s.list → Calls Try.prog 21 #[.slice (some ⟨g, 0, none⟩) s.count s.count] w fun e w' => e = .returned (.tuple #[sv s, .int .i64 0]) ∧ But No w w') := fun w g h => by
    have := of_any (some ⟨g, 0, none⟩) s.count s.count s.list w h
    unfold ofAns ofErr at this
    rw [list_lvs, if_pos rfl, if_pos rfl, of_list hs] at this
    exact this
  have CW : Hid (∀ w, Calls Try.prog 18 #[sv s, .int .i64 i] w fun e w' => e = .returned (sv (s.withI i)) ∧ But No w w') := fun w => with_any s i w hs
  have CO : Hid (∀ w, Calls Try.prog 19 #[sv s, .int .i64 i] w fun e w' => e = .returned (sv (s.withoutI i)) ∧ But No w w') := fun w => without_any s i w hs
  have COx : Hid (∀ w, Calls Try.prog 19 #[sv (s.withI i), .int .i64 i] w fun e w' => e = .returned (sv (s.withoutI i)) ∧ But No w w') := fun w => by have := without_any (s.withI i) i w (Q.withI_ok hs i); rw [with_without hs] at this; exact this
  have CWx : Hid (∀ w, Calls Try.prog 18 #[sv (s.withI i), .int .i64 i] w fun e w' => e = .returned (sv (s.withI i)) ∧ But No w w') := fun w => by have := with_any (s.withI i) i w (Q.withI_ok hs i); rw [with_with hs] at this; exact this
  have CWy : Hid (∀ w, Calls Try.prog 18 #[sv (s.withoutI i), .int .i64 i] w fun e w' => e = .returned (sv (s.withI i)) ∧ But No w w') := fun w => by have := with_any (s.withoutI i) i w (Q.withoutI_ok hs i); rw [without_with hs] at this; exact this
  generalize s.withI i = x at CW COx CWx CWy
  generalize s.withoutI i = y at CO COx CWy
  have he := eq4_self s.a s.b s.c s.d
  have hex := eq4_self x.a x.b x.c x.d
  have hey := eq4_self y.a y.b y.c y.d
  clear hs
  go_enter Try.func6, Try.ntmps6
  go_wp2_with (first
    | (go_at_call 10; (with_reducible refine (CE.out _).mono ?_); rintro e w1 ⟨rfl, hb1⟩; have HB1 := Lib.hid (((But.refl No w).alloc _).trans hb1); have HA1 := Lib.hid ((Blk.new w (cells4 s) 23).but hb1 (fun f => f)); clear hb1; have a0 := HA1.out.cell (o := 0) rfl; have a1 := HA1.out.cell (o := 1) rfl; have a2 := HA1.out.cell (o := 2) rfl; have a3 := HA1.out.cell (o := 3) rfl; have hl1 := HA1.out.lt)
    | (go_at_call 12; (with_reducible refine (CL.out _).mono ?_); rintro e w2 ⟨g, rfl, hrd, hb2, hg⟩; have HB2 := Lib.hid ((HB1.out.alloc _).trans hb2); have HRD := Lib.hid hrd; have HS2 := Lib.hid ((Blk.new w1 (cells4 s) 26).but hb2 (fun f => f)); clear hb2 hrd hg)
    | (go_at_call 21; (with_reducible refine (CF.out _ _ HRD.out).mono ?_); rintro e w3 ⟨rfl, hb3⟩; have HB3 := Lib.hid (HB2.out.trans hb3); have HS3 := Lib.hid (HS2.out.but hb3 (fun f => f)); clear hb3; have b0 := HS3.out.cell (o := 0) rfl; have b1 := HS3.out.cell (o := 1) rfl; have b2 := HS3.out.cell (o := 2) rfl; have b3 := HS3.out.cell (o := 3) rfl; have hl3 := HS3.out.lt)
    | (go_at_call 18; (with_reducible refine (CW.out _).mono ?_); rintro e w4 ⟨rfl, hb4⟩; have HB4 := Lib.hid ((HB3.out.alloc _).trans hb4); have HS4 := Lib.hid ((HS3.out.alloc _).but hb4 (fun f => f)); have HT4 := Lib.hid ((Blk.new w3 (cells4 s) 26).but hb4 (fun f => f)); clear hb4)
    | (go_at_call 19; (with_reducible refine (COx.out _).mono ?_); rintro e w5 ⟨rfl, hb5⟩; have HB5 := Lib.hid (HB4.out.trans hb5); have HS5 := Lib.hid (HS4.out.but hb5 (fun f => f)); have HT5 := Lib.hid (HT4.out.but hb5 (fun f => f)); clear hb5; have c0 := HS5.out.cell (o := 0) rfl; have c1 := HS5.out.cell (o := 1) rfl; have c2 := HS5.out.cell (o := 2) rfl; have c3 := HS5.out.cell (o := 3) rfl; have hl5 := HS5.out.lt)
    | (go_at_call 19; (with_reducible refine (CO.out _).mono ?_); rintro e w6 ⟨rfl, hb6⟩; have HB6 := Lib.hid ((HB5.out.alloc _).trans hb6); have HS6 := Lib.hid ((HS5.out.alloc _).but hb6 (fun f => f)); have HT6 := Lib.hid ((HT5.out.alloc _).but hb6 (fun f => f)); have HX6 := Lib.hid ((Blk.new w5 (cells4 y) 26).but hb6 (fun f => f)); clear hb6)
    | (go_at_call 18; (with_reducible refine (CWy.out _).mono ?_); rintro e w7 ⟨rfl, hb7⟩; have HB7 := Lib.hid (HB6.out.trans hb7); have HS7 := Lib.hid (HS6.out.but hb7 (fun f => f)); have HT7 := Lib.hid (HT6.out.but hb7 (fun f => f)); have HX7 := Lib.hid (HX6.out.but hb7 (fun f => f)); clear hb7))
  obtain ⟨w8, hw8, hb8, hq8⟩ := box_new w7 x
  rw [hw8]
  have HB8 := Lib.hid (HB7.out.trans hb8)
  have HS8 := Lib.hid (HS7.out.but hb8 (fun f => f))
  have HT8 := Lib.hid (HT7.out.but hb8 (fun f => f))
  have HX8 := Lib.hid (HX7.out.but hb8 (fun f => f))
  have HY8 := Lib.hid hq8
  clear hw8 hb8 hq8
  go_region_held3 (fun w' => (w'.cell? ⟨w1.heap.size, 0, none⟩ = some (.int .u64 s.a) ∧ w'.cell? ⟨w1.heap.size, 1, none⟩ = some (.int .u64 s.b) ∧ w'.cell? ⟨w1.heap.size, 2, none⟩ = some (.int .u64 s.c) ∧ w'.cell? ⟨w1.heap.size, 3, none⟩ = some (.int .u64 s.d)) ∧ (w'.cell? ⟨w3.heap.size, 0, none⟩ = some (.int .u64 s.a) ∧ w'.cell? ⟨w3.heap.size, 1, none⟩ = some (.int .u64 s.b) ∧ w'.cell? ⟨w3.heap.size, 2, none⟩ = some (.int .u64 s.c) ∧ w'.cell? ⟨w3.heap.size, 3, none⟩ = some (.int .u64 s.d)) ∧ (w'.cell? ⟨w5.heap.size, 0, none⟩ = some (.int .u64 y.a) ∧ w'.cell? ⟨w5.heap.size, 1, none⟩ = some (.int .u64 y.b) ∧ w'.cell? ⟨w5.heap.size, 2, none⟩ = some (.int .u64 y.c) ∧ w'.cell? ⟨w5.heap.size, 3, none⟩ = some (.int .u64 y.d)) ∧ (w'.cell? ⟨w7.heap.size, 0, none⟩ = some (.int .u64 x.a) ∧ w'.cell? ⟨w7.heap.size, 1, none⟩ = some (.int .u64 x.b) ∧ w'.cell? ⟨w7.heap.size, 2, none⟩ = some (.int .u64 x.c) ∧ w'.cell? ⟨w7.heap.size, 3, none⟩ = some (.int .u64 x.d)) ∧ But No w w')
    (first | exact ⟨HS8.out.four, HT8.out.four, HX8.out.four, HY8.out.four, HB8.out.drew⟩ | exact keepD (by assumption) hbq)
    (first | (go_at_call 19; ((with_reducible refine (CO.out _).mono ?_); rintro e wq ⟨rfl, hbq⟩)) | (go_at_call 18; ((with_reducible refine (CW.out _).mono ?_); rintro e wq ⟨rfl, hbq⟩)) | (go_at_call 18; ((with_reducible refine (CWx.out _).mono ?_); rintro e wq ⟨rfl, hbq⟩)))
  rename_i hH
  have HF := Lib.hid hH.2.2.2.2
  clear hH
  go_wp2
  go_ret
  exact ⟨rfl, HF.out⟩
end Go.Proofs.Ytgocjgipigjhbaa.bitsBack
