/- The walk of ResponseMore. -/
import Derived.Test.YtnjkgalbbhmgjaaReE
import Derived.Test.YtnjkgalbbhmgjaaReS
import Derived.Test.YtnjkgalbbhmgjaaReO
import Derived.Deep.RegionHeld3
namespace Go.Proofs.Ytnjkgalbbhmgjaa
open Go.ChangeShapes Go.WideShapes Go.ChangeAt Go.RowKit Go.Deep rsp
namespace responseMore
set_option maxRecDepth 100000 in
set_option maxHeartbeats 8000000 in
theorem walk (own : Int) (ho : (Lit.int .i64 own).wf = true) (bl : Int) (hb : (Lit.int .i64 bl).wf = true) (rl : Int) (hr : (Lit.int .i64 rl).wf = true) (A : Option Addr) (n c : Nat) (a : List Ld) (_ : n ≤ c) (hk : n * 24 ≤ 140737488351232) (x0 x1 x2 : Int) (hx0 : (Lit.int .i64 x0).wf = true) (hx1 : (Lit.int .i64 x1).wf = true) (hx2 : (Lit.int .i64 x2).wf = true) (less : Int) (hs : (Lit.int .i64 less).wf = true) (limit : Int) (hl : (Lit.int .i64 limit).wf = true) (w : World) (h : RLd w A n a) :
    Calls Try.prog 5 #[.int .i64 own, .int .i64 bl, .int .i64 rl, .slice A n c, .agg #[.int .i64 x0, .int .i64 x1, .int .i64 x2], .int .i64 less, .int .i64 limit] w fun e w' => e = .returned (.bool true) ∧ But No w w' := by
  have HN := Lib.hid h.len
  have HL := Lib.hid h
  have CX : Hid (∀ W, Calls Try.prog 9 #[] W fun e w' => e = .returned (.bool true) ∧ But No W w') := examples_ok
  have CA : Hid (∀ W, But No w W → Calls Try.prog 13 #[.int .i64 own, .int .i64 bl, .int .i64 rl, .slice A n c, .slice none 0 0, .int .i64 limit] W fun e w' => e = .returned (.tuple #[.int .i64 (bnP own bl rl a [] limit).1, .int .i64 (bnP own bl rl a [] limit).2]) ∧ But No W w') := fun W hw => bound_any A n c a none 0 0 [] own bl rl limit W (h.no hw) (RLd.nil W) (inR_of ho) (inR_of hb) (inR_of hr) (inR_of hl)
  have CM : Hid (∀ A' c' W, RLd W A' (n + 1) (a ++ [⟨x0, x1, x2⟩]) → Calls Try.prog 13 #[.int .i64 own, .int .i64 bl, .int .i64 rl, .slice A' (n + 1) c', .slice none 0 0, .int .i64 limit] W fun e w' => e = .returned (.tuple #[.int .i64 (bnP own bl rl (a ++ [⟨x0, x1, x2⟩]) [] limit).1, .int .i64 (bnP own bl rl (a ++ [⟨x0, x1, x2⟩]) [] limit).2]) ∧ But No W w') := fun A' c' W hh => bound_any A' (n + 1) c' _ none 0 0 [] own bl rl limit W hh (RLd.nil W) (inR_of ho) (inR_of hb) (inR_of hr) (inR_of hl)
  have CW : Hid (∀ o, inR o → ∀ W, But No w W → Calls Try.prog 13 #[.int .i64 o, .int .i64 bl, .int .i64 rl, .slice A n c, .slice none 0 0, .int .i64 limit] W fun e w' => e = .returned (.tuple #[.int .i64 (bnP o bl rl a [] limit).1, .int .i64 (bnP o bl rl a [] limit).2]) ∧ But No W w') := fun o ho W hw => bound_any A n c a none 0 0 [] o bl rl limit W (h.no hw) (RLd.nil W) ho (inR_of hb) (inR_of hr) (inR_of hl)
  have HX := Lib.hid (And.intro (inR_of hx0) (And.intro (inR_of hx1) (inR_of hx2)))
  have hsr := inR_of hs
  have hor := inR_of ho
  unfold inR at hsr hor
  have HR := Lib.hid (fun h0 => bn_ok (own := own) (bl := bl) (rl := rl) (a := a) (b := []) (limit := limit) h0)
  have HM := Lib.hid (fun (h0 : (bnP own bl rl (a ++ [⟨x0, x1, x2⟩]) [] limit).2 = 0) => bn_less (own' := own) (bl' := bl) (rl' := rl) (a' := a) (b' := []) (right_app (bn_ok h0).1).1 (fun m hm => wi_app hm (right_app (bn_ok h0).1).2) h0)
  have HO := Lib.hid (fun (o : Int) (h1 : 0 ≤ o) (h2 : o ≤ own) (h0 : (bnP own bl rl a [] limit).2 = 0) => bn_less (own' := o) (right_own (bn_ok h0).1 h1 h2) (fun m _ => wi_own h2) h0)
  have HE1 := Lib.hid (bn_err own bl rl a [] limit)
  have HE2 := Lib.hid (bn_err own bl rl (a ++ [⟨x0, x1, x2⟩]) [] limit)
  have HE3 := Lib.hid (fun o => bn_err o bl rl a [] limit)
  generalize (bnP own bl rl (a ++ [⟨x0, x1, x2⟩]) [] limit).1 = p at CM HM
  generalize (bnP own bl rl (a ++ [⟨x0, x1, x2⟩]) [] limit).2 = f at CM HM HE2
  generalize (bnP own bl rl a [] limit).1 = s at CA HR HM HO
  generalize (bnP own bl rl a [] limit).2 = e at CA HR HM HO HE1
  obtain ⟨i0, hi0, hz0, hz1, hz2⟩ := info_parts infoD
  have I0 : Hid (Try.prog.info? 33 = some i0 ∧ i0.zero = some (.agg #[.int .i64 0, .int .i64 0, .int .i64 0]) ∧ i0.size = 3 ∧ i0.bytes = 24) := ⟨hi0, hz0, hz1, hz2⟩
  clear h ho hb hr hl hs hx0 hx1 hx2 hi0 hz0 hz1 hz2
  go_enter Try.func5, Try.ntmps5
  go_upto_region 1 with fail
  have HBX : Hid (But No w (w.alloc (.cells #[.int .i64 x0, .int .i64 x1, .int .i64 x2] 33))) := Lib.hid ((But.refl No w).alloc _)
  have hxb := Blk.new w #[.int .i64 x0, .int .i64 x1, .int .i64 x2] 33
  generalize w.alloc (.cells #[.int .i64 x0, .int .i64 x1, .int .i64 x2] 33) = wB at HBX hxb ⊢
  generalize w.heap.size = bx at hxb ⊢
  have HXB := Lib.hid hxb
  clear hxb
  go_upto_region 3 with (first | (go_at_call 9; (with_reducible refine (CX.out _).mono ?_); rintro e w1 ⟨rfl, h1⟩; have H1 := Lib.hid h1; clear h1) | (go_at_call 13; (with_reducible refine (CA.out _ (HBX.out.trans H1.out)).mono ?_); rintro e w2 ⟨rfl, h2⟩; have H2 := Lib.hid (H1.out.trans h2); clear h2))
  have HBW2 := Lib.hid (HBX.out.trans H2.out)
  have KEEP : Hid (∀ w', But No w2 w' → (w'.cell? ⟨bx, 0, none⟩ = some (.int .i64 x0) ∧ w'.cell? ⟨bx, 1, none⟩ = some (.int .i64 x1) ∧ w'.cell? ⟨bx, 2, none⟩ = some (.int .i64 x2)) ∧ But No w2 w') := Lib.hid (fun w' hb => by
    have hx := HXB.out.but (H2.out.trans hb) (fun f => f)
    exact ⟨⟨hx.cell (o := 0) rfl, hx.cell (o := 1) rfl, hx.cell (o := 2) rfl⟩, hb⟩)
  have RD : Hid (∀ W, But No w2 W → Reads W W.heap.size 3 A n (a.flatMap ldC)) := Lib.hid (fun W hh => (HL.out.no (HBW2.out.trans hh)).reads)
  have OC := Lib.hid (all_cells a)
  clear H1 CA CX
  go_region_held3 (fun w' => (w'.cell? ⟨bx, 0, none⟩ = some (.int .i64 x0) ∧ w'.cell? ⟨bx, 1, none⟩ = some (.int .i64 x1) ∧ w'.cell? ⟨bx, 2, none⟩ = some (.int .i64 x2)) ∧ But No w2 w')
    (first | exact KEEP.out _ (But.refl No w2) | exact KEEP.out _ (But.refl No w2).drew | exact KEEP.out _ ((But.refl No w2).alloc _) | exact KEEP.out _ ((But.refl No w2).alloc _).drew | exact KEEP.out _ ((But.refl No w2).drew.alloc _) | exact KEEP.out _ HB6.out | exact KEEP.out _ HB5.out | exact KEEP.out _ (HB5.out.alloc _))
    (first | (refine step_append_sh rfl _ _ 22 rfl 33 i0 _ 3 24 Try.underlying22 I0.out.1 I0.out.2.1 I0.out.2.2.1 I0.out.2.2.2 rfl (by omega) (.slice none 0 0) 0 [] (by simp [Act.eval]) (World.ownsRow_nil _ _ _ _) w2.drew.heap.size A n c (a.flatMap ldC) (by simp [Act.eval]) (RD.out _ (But.refl No w2).drew) OC.out (by unfold maxLen; omega) (by omega) ?_; intro A5 c5 w5 hown5 hgrow5 hat5; have HB5 : Hid (But No w2 w5) := ((But.refl No w2).drew).grown hgrow5.out (fun k e => by simp [Value.ownBlock] at e)) | (refine step_append_sh rfl _ _ 22 rfl 33 i0 _ 3 24 Try.underlying22 I0.out.1 I0.out.2.1 I0.out.2.2.1 I0.out.2.2.2 rfl (by omega) (.slice A5 (0 + n) c5) (0 + n) _ (by simp [Act.eval]) (owns_but hown5.out ((But.refl No w5).alloc (.cells #[.int .i64 x0, .int .i64 x1, .int .i64 x2] 33)) (fun _ _ f => f)) (w5.heap.size + 1) (some ⟨w5.heap.size, 0, none⟩) 1 1 (ldC ⟨x0, x1, x2⟩) (by simp [Act.eval]) (ld_one_reads w5 ⟨x0, x1, x2⟩ 33) (ld_one_cell _) (by unfold maxLen; omega) (by omega) ?_; intro A6 c6 w6 hown6 hgrow6 hat6; have HB6 : Hid (But No w2 w6) := (HB5.out.alloc (.cells #[.int .i64 x0, .int .i64 x1, .int .i64 x2] 33)).grown hgrow6.out (fun j e => .inr (own_new own_none hat5.out (Nat.le_refl _) j e))) | (refine step_append_sh rfl _ _ 22 rfl 33 i0 _ 3 24 Try.underlying22 I0.out.1 I0.out.2.1 I0.out.2.2.1 I0.out.2.2.2 rfl (by omega) (.slice none 0 0) 0 [] (by simp [Act.eval]) (World.ownsRow_nil _ _ _ _) (w2.alloc (.cells #[.int .i64 x0, .int .i64 x1, .int .i64 x2] 33)).drew.heap.size A n c (a.flatMap ldC) (by simp [Act.eval]) (RD.out _ ((But.refl No w2).alloc (.cells #[.int .i64 x0, .int .i64 x1, .int .i64 x2] 33)).drew) OC.out (by unfold maxLen; omega) (by omega) ?_; intro A5 c5 w5 hown5 hgrow5 hat5; have HB5 : Hid (But No w2 w5) := (((But.refl No w2).alloc (.cells #[.int .i64 x0, .int .i64 x1, .int .i64 x2] 33)).drew).grown hgrow5.out (fun k e => by simp [Value.ownBlock] at e); have HR5 := Lib.hid (Reads.grown (ld_one_reads w2 ⟨x0, x1, x2⟩ 33).drew hgrow5.out (by first | exact Nat.le_refl _ | simp | simp [World.alloc, World.drew]) (fun g e => by simp [Value.ownBlock] at e))) | (refine step_append_sh rfl _ _ 22 rfl 33 i0 _ 3 24 Try.underlying22 I0.out.1 I0.out.2.1 I0.out.2.2.1 I0.out.2.2.2 rfl (by omega) (.slice A5 (0 + n) c5) (0 + n) _ (by simp [Act.eval]) hown5.out (w2.heap.size + 1) (some ⟨w2.heap.size, 0, none⟩) 1 1 (ldC ⟨x0, x1, x2⟩) (by simp [Act.eval]) HR5.out (ld_one_cell _) (by unfold maxLen; omega) (by omega) ?_; intro A6 c6 w6 hown6 hgrow6 hat6; have HB6 : Hid (But No w2 w6) := HB5.out.grown hgrow6.out (fun j e => .inr (own_new own_none hat5.out (by first | exact Nat.le_refl _ | simp | simp [World.alloc, World.drew]) j e))))
  all_goals
    rename_i hHeld
    clear hHeld
    have HRR : Hid (RLd w6 A6 (n + 1) (a ++ [⟨x0, x1, x2⟩])) := Lib.hid (by
      have hll : (a ++ [(⟨x0, x1, x2⟩ : Ld)]).length = 0 + n + 1 := by rw [List.length_append, HN.out]; simp
      have ho : OLd w6 33 (.slice A6 (0 + n + 1) c6) (a ++ [⟨x0, x1, x2⟩]) := by
        unfold OLd
        rw [hll, List.flatMap_append]
        simpa using hown6.out
      obtain ⟨A', c', hv, hr⟩ := ho.rd (by rw [hll]; omega) (fun z hz => by
        rcases List.mem_append.1 hz with hz | hz
        · exact HL.out.fit z hz
        · obtain rfl : z = ⟨x0, x1, x2⟩ := by simpa using hz
          exact HX.out)
      rw [hll] at hv hr
      cases hv
      rwa [show 0 + n + 1 = n + 1 by omega] at hr)
    have HB6 := Lib.hid (HBW2.out.trans HB6.out)
    clear hown5 hgrow5 hat5 hown6 hgrow6 hat6 RD OC KEEP I0 H2 HXB HBX
    by_cases he : e = 0
    · have p1 : (e != 0) = false := by simp [he]
      obtain ⟨hR, _⟩ := HR.out he
      obtain ⟨o0, o1⟩ := (right_iff.1 hR).2.2.1
      have p2 : decide (own < 0) = false := by simp; omega
      clear hR
      by_cases hf : f = 0
      · have p3 : (f != 0) = false := by simp [hf]
        have p4 : s ≤ p := by rcases HM.out hf with h9 | ⟨_, h9⟩ <;> omega
        have p5 : decide (s ≤ p) = true := by simp [p4]
        clear hf
        by_cases n0 : less < 0
        · have q5 : decide (less < 0) = true := by simp [n0]
          have h0N : 0 ≤ (-(less + 1)) := by omega
          have q0 : own + 1 ≠ 0 := by omega
          have q1 : (-(less + 1)).tmod (own + 1) = (-(less + 1)) % (own + 1) := Int.tmod_eq_emod_of_nonneg h0N
          have q2 := Int.emod_nonneg (-(less + 1)) q0
          have q3 := Int.emod_lt_of_pos (-(less + 1)) (show 0 < own + 1 by omega)
          obtain ⟨r, hr⟩ : ∃ r, (-(less + 1)) % (own + 1) = r := ⟨_, rfl⟩
          rw [hr] at q1 q2 q3
          clear hr
          have CO : Hid (∀ W, But No w W → Calls Try.prog 13 #[.int .i64 r, .int .i64 bl, .int .i64 rl, .slice A n c, .slice none 0 0, .int .i64 limit] W fun e w' => e = .returned (.tuple #[.int .i64 (bnP r bl rl a [] limit).1, .int .i64 (bnP r bl rl a [] limit).2]) ∧ But No W w') := Lib.hid (CW.out r (by unfold inR; omega))
          have HQ := Lib.hid (HO.out r (by omega) (by omega) he)
          generalize (bnP r bl rl a [] limit).1 = v at CO HQ
          generalize (bnP r bl rl a [] limit).2 = g at CO HQ
          subst he
          clear HO HM CW HE3 HR
          rcases HQ.out with hg | ⟨hg, hv⟩
          · subst hg
            go_wp2_with (first | (go_at_call 13; (with_reducible refine (CM.out _ _ _ HRR.out).mono ?_); rintro e w8 ⟨rfl, h2⟩; have H8 := Lib.hid (HB6.out.trans h2); clear h2) | (go_at_call 13; (with_reducible refine (CO.out _ H8.out).mono ?_); rintro e w9 ⟨rfl, h2⟩; have H9 := Lib.hid (H8.out.trans h2); clear h2))
            go_ret
            exact ⟨ret_bool (by simp), H9.out⟩
          · subst hg
            have q9 : decide (v ≤ s) = true := by simp [hv]
            go_wp2_with (first | (go_at_call 13; (with_reducible refine (CM.out _ _ _ HRR.out).mono ?_); rintro e w8 ⟨rfl, h2⟩; have H8 := Lib.hid (HB6.out.trans h2); clear h2) | (go_at_call 13; (with_reducible refine (CO.out _ H8.out).mono ?_); rintro e w9 ⟨rfl, h2⟩; have H9 := Lib.hid (H8.out.trans h2); clear h2))
            go_ret
            exact ⟨ret_bool (by simp), H9.out⟩
        · have q5 : decide (less < 0) = false := by simp; omega
          have h0N : 0 ≤ less := by omega
          have q0 : own + 1 ≠ 0 := by omega
          have q1 : less.tmod (own + 1) = less % (own + 1) := Int.tmod_eq_emod_of_nonneg h0N
          have q2 := Int.emod_nonneg less q0
          have q3 := Int.emod_lt_of_pos less (show 0 < own + 1 by omega)
          obtain ⟨r, hr⟩ : ∃ r, less % (own + 1) = r := ⟨_, rfl⟩
          rw [hr] at q1 q2 q3
          clear hr
          have CO : Hid (∀ W, But No w W → Calls Try.prog 13 #[.int .i64 r, .int .i64 bl, .int .i64 rl, .slice A n c, .slice none 0 0, .int .i64 limit] W fun e w' => e = .returned (.tuple #[.int .i64 (bnP r bl rl a [] limit).1, .int .i64 (bnP r bl rl a [] limit).2]) ∧ But No W w') := Lib.hid (CW.out r (by unfold inR; omega))
          have HQ := Lib.hid (HO.out r (by omega) (by omega) he)
          generalize (bnP r bl rl a [] limit).1 = v at CO HQ
          generalize (bnP r bl rl a [] limit).2 = g at CO HQ
          subst he
          clear HO HM CW HE3 HR
          rcases HQ.out with hg | ⟨hg, hv⟩
          · subst hg
            go_wp2_with (first | (go_at_call 13; (with_reducible refine (CM.out _ _ _ HRR.out).mono ?_); rintro e w8 ⟨rfl, h2⟩; have H8 := Lib.hid (HB6.out.trans h2); clear h2) | (go_at_call 13; (with_reducible refine (CO.out _ H8.out).mono ?_); rintro e w9 ⟨rfl, h2⟩; have H9 := Lib.hid (H8.out.trans h2); clear h2))
            go_ret
            exact ⟨ret_bool (by simp), H9.out⟩
          · subst hg
            have q9 : decide (v ≤ s) = true := by simp [hv]
            go_wp2_with (first | (go_at_call 13; (with_reducible refine (CM.out _ _ _ HRR.out).mono ?_); rintro e w8 ⟨rfl, h2⟩; have H8 := Lib.hid (HB6.out.trans h2); clear h2) | (go_at_call 13; (with_reducible refine (CO.out _ H8.out).mono ?_); rintro e w9 ⟨rfl, h2⟩; have H9 := Lib.hid (H8.out.trans h2); clear h2))
            go_ret
            exact ⟨ret_bool (by simp), H9.out⟩
      · have p3 : (f != 0) = true := by simp [hf]
        clear hf
        by_cases n0 : less < 0
        · have q5 : decide (less < 0) = true := by simp [n0]
          have h0N : 0 ≤ (-(less + 1)) := by omega
          have q0 : own + 1 ≠ 0 := by omega
          have q1 : (-(less + 1)).tmod (own + 1) = (-(less + 1)) % (own + 1) := Int.tmod_eq_emod_of_nonneg h0N
          have q2 := Int.emod_nonneg (-(less + 1)) q0
          have q3 := Int.emod_lt_of_pos (-(less + 1)) (show 0 < own + 1 by omega)
          obtain ⟨r, hr⟩ : ∃ r, (-(less + 1)) % (own + 1) = r := ⟨_, rfl⟩
          rw [hr] at q1 q2 q3
          clear hr
          have CO : Hid (∀ W, But No w W → Calls Try.prog 13 #[.int .i64 r, .int .i64 bl, .int .i64 rl, .slice A n c, .slice none 0 0, .int .i64 limit] W fun e w' => e = .returned (.tuple #[.int .i64 (bnP r bl rl a [] limit).1, .int .i64 (bnP r bl rl a [] limit).2]) ∧ But No W w') := Lib.hid (CW.out r (by unfold inR; omega))
          have HQ := Lib.hid (HO.out r (by omega) (by omega) he)
          generalize (bnP r bl rl a [] limit).1 = v at CO HQ
          generalize (bnP r bl rl a [] limit).2 = g at CO HQ
          subst he
          clear HO HM CW HE3 HR
          rcases HQ.out with hg | ⟨hg, hv⟩
          · subst hg
            go_wp2_with (first | (go_at_call 13; (with_reducible refine (CM.out _ _ _ HRR.out).mono ?_); rintro e w8 ⟨rfl, h2⟩; have H8 := Lib.hid (HB6.out.trans h2); clear h2) | (go_at_call 13; (with_reducible refine (CO.out _ H8.out).mono ?_); rintro e w9 ⟨rfl, h2⟩; have H9 := Lib.hid (H8.out.trans h2); clear h2))
            go_ret
            exact ⟨ret_bool (by simp), H9.out⟩
          · subst hg
            have q9 : decide (v ≤ s) = true := by simp [hv]
            go_wp2_with (first | (go_at_call 13; (with_reducible refine (CM.out _ _ _ HRR.out).mono ?_); rintro e w8 ⟨rfl, h2⟩; have H8 := Lib.hid (HB6.out.trans h2); clear h2) | (go_at_call 13; (with_reducible refine (CO.out _ H8.out).mono ?_); rintro e w9 ⟨rfl, h2⟩; have H9 := Lib.hid (H8.out.trans h2); clear h2))
            go_ret
            exact ⟨ret_bool (by simp), H9.out⟩
        · have q5 : decide (less < 0) = false := by simp; omega
          have h0N : 0 ≤ less := by omega
          have q0 : own + 1 ≠ 0 := by omega
          have q1 : less.tmod (own + 1) = less % (own + 1) := Int.tmod_eq_emod_of_nonneg h0N
          have q2 := Int.emod_nonneg less q0
          have q3 := Int.emod_lt_of_pos less (show 0 < own + 1 by omega)
          obtain ⟨r, hr⟩ : ∃ r, less % (own + 1) = r := ⟨_, rfl⟩
          rw [hr] at q1 q2 q3
          clear hr
          have CO : Hid (∀ W, But No w W → Calls Try.prog 13 #[.int .i64 r, .int .i64 bl, .int .i64 rl, .slice A n c, .slice none 0 0, .int .i64 limit] W fun e w' => e = .returned (.tuple #[.int .i64 (bnP r bl rl a [] limit).1, .int .i64 (bnP r bl rl a [] limit).2]) ∧ But No W w') := Lib.hid (CW.out r (by unfold inR; omega))
          have HQ := Lib.hid (HO.out r (by omega) (by omega) he)
          generalize (bnP r bl rl a [] limit).1 = v at CO HQ
          generalize (bnP r bl rl a [] limit).2 = g at CO HQ
          subst he
          clear HO HM CW HE3 HR
          rcases HQ.out with hg | ⟨hg, hv⟩
          · subst hg
            go_wp2_with (first | (go_at_call 13; (with_reducible refine (CM.out _ _ _ HRR.out).mono ?_); rintro e w8 ⟨rfl, h2⟩; have H8 := Lib.hid (HB6.out.trans h2); clear h2) | (go_at_call 13; (with_reducible refine (CO.out _ H8.out).mono ?_); rintro e w9 ⟨rfl, h2⟩; have H9 := Lib.hid (H8.out.trans h2); clear h2))
            go_ret
            exact ⟨ret_bool (by simp), H9.out⟩
          · subst hg
            have q9 : decide (v ≤ s) = true := by simp [hv]
            go_wp2_with (first | (go_at_call 13; (with_reducible refine (CM.out _ _ _ HRR.out).mono ?_); rintro e w8 ⟨rfl, h2⟩; have H8 := Lib.hid (HB6.out.trans h2); clear h2) | (go_at_call 13; (with_reducible refine (CO.out _ H8.out).mono ?_); rintro e w9 ⟨rfl, h2⟩; have H9 := Lib.hid (H8.out.trans h2); clear h2))
            go_ret
            exact ⟨ret_bool (by simp), H9.out⟩
    · have p1 : (e != 0) = true := by simp [he]
      by_cases hf : f = 0
      · have p3 : (f != 0) = false := by simp [hf]
        have p4 : e = 11 := by rcases HM.out hf with h9 | ⟨h9, _⟩ <;> omega
        subst p4
        clear he hf HM HO HR CW HE3
        go_wp2_with (first | (go_at_call 13; (with_reducible refine (CM.out _ _ _ HRR.out).mono ?_); rintro e w8 ⟨rfl, h2⟩; have H8 := Lib.hid (HB6.out.trans h2); clear h2))
        go_ret
        exact ⟨ret_bool (by simp), H8.out⟩
      · have p3 : (f != 0) = true := by simp [hf]
        clear he hf HM HO HR CW HE3
        go_wp2_with (first | (go_at_call 13; (with_reducible refine (CM.out _ _ _ HRR.out).mono ?_); rintro e w8 ⟨rfl, h2⟩; have H8 := Lib.hid (HB6.out.trans h2); clear h2))
        go_ret
        exact ⟨ret_bool (by simp), H8.out⟩
end responseMore
end Go.Proofs.Ytnjkgalbbhmgjaa
