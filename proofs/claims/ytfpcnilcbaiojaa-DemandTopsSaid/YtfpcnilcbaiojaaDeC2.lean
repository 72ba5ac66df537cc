/- The contracts of the program's own right, arrivals, plus (chapter 15). -/
import Derived.Test.YtfpcnilcbaiojaaDeC1
import Derived.WalkMore
import Derived.ScopeJumps
namespace Go.Proofs.Ytfpcnilcbaiojaa.dem
open Go.ChangeShapes Go.WideShapes Go.ChangeAt Go.RowKit Go.Deep
theorem all_take {l : List Wk} {i : Nat} {x : Wk} (h : l[i]? = some x) : (l.take (i + 1)).all okW = ((l.take i).all okW && okW x) := by
  rw [List.take_add_one, h, List.all_append]; simp
set_option maxHeartbeats 2000000 in
theorem right_any (A : Option Addr) (n c : Nat) (l : List Wk) (bl rl : Int) (w : World) (h : RWk w A n l) : Calls Try.prog 20 #[.agg #[.slice A n c, .int .i64 bl, .int .i64 rl]] w fun e w' => e = .returned (.bool (right l bl rl)) ∧ But No w w' := by
  have HN := Lib.hid h.len
  have hmax := h.max
  have CF : Hid (∀ W, But No w W → Calls Try.prog 32 #[.slice A n c, .bool true, .func (.func 33) #[] #[]] W fun e w' => e = .returned (.bool (l.all okW)) ∧ But No W w') := Lib.hid (fun W hb => by
    have := foldB_any A n c l (fun i => (l.take i).all okW) W (h.no hb) (fun i x W' hx => by rw [all_take hx]; exact clo_right _ x W')
    have e : (l.take n).all okW = l.all okW := by rw [List.take_of_length_le (by rw [h.len]; exact Nat.le_refl n)]
    rw [e] at this
    exact this)
  clear h
  have CB : Hid (∀ W, Calls Try.prog 31 #[.int .i64 0, .int .i64 bl] W fun e w' => e = .returned (.bool (inT 0 bl)) ∧ w' = W) := Lib.hid (fun W => inside_any 0 bl W)
  have CR : Hid (∀ W, Calls Try.prog 31 #[.int .i64 0, .int .i64 rl] W fun e w' => e = .returned (.bool (inT 0 rl)) ∧ w' = W) := Lib.hid (fun W => inside_any 0 rl W)
  have HE : Hid (∀ b0 b1 b2 : Bool, decide (n ≤ 72) = b0 → inT 0 bl = b1 → inT 0 rl = b2 → right l bl rl = (b0 && (b1 && (b2 && l.all okW)))) := Lib.hid (fun b0 b1 b2 h0 h1 h2 => by unfold right; rw [HN.out, ← h0, ← h1, ← h2])
  by_cases h1 : n ≤ 72
  · have a1 : decide (72 < n) = false := by simp; omega
    have a1' : decide ((72 : Int) < (n : Int)) = false := by simp; omega
    cases g1 : inT 0 bl <;> cases g2 : inT 0 rl <;>
    (rw [HE.out _ _ _ (decide_eq_true h1) g1 g2]
     rw [g1] at CB
     rw [g2] at CR
     clear g1 g2 HE
     try rw [Bool.true_and]
     try rw [Bool.true_and]
     try rw [Bool.true_and]
     go_enter Try.func20, Try.ntmps20
     go_wp2_with (first | (go_at_call 31; first | ((with_reducible refine (CB.out _).mono ?_); rintro e wC ⟨rfl, rfl⟩) | ((with_reducible refine (CR.out _).mono ?_); rintro e wC ⟨rfl, rfl⟩)) | (go_at_call 32; ((with_reducible refine (CF.out _ ((But.refl No w).alloc _)).mono ?_); rintro e wC ⟨rfl, hbC⟩; have HBC := Lib.hid (((But.refl No w).alloc _).trans hbC); clear hbC)))
     go_ret
     exact ⟨by first | rfl | simp, by first | exact HBC.out | exact But.refl No w | exact (But.refl No w).alloc _⟩)
  · have HV : Hid (right l bl rl = false) := Lib.hid (by rw [HE.out _ _ _ (decide_eq_false h1) rfl rfl]; rfl)
    rw [HV.out]
    have a1 : decide (72 < n) = true := by simp; omega
    have a1' : decide ((72 : Int) < (n : Int)) = true := by simp; omega
    go_enter Try.func20, Try.ntmps20
    go_wp2
    go_ret
    exact ⟨by first | rfl | simp, by first | exact But.refl No w | exact (But.refl No w).alloc _⟩
theorem cd_up {n p : Int} (hn : 1 ≤ n) (hp : 1 ≤ p) : qar.cdV n p = up n p ∧ qar.cdE n p = 0 := by
  have h2 := Int.emod_nonneg n (show p ≠ 0 by omega)
  unfold qar.cdV qar.cdE up
  have h0 : ¬ (n < 0 ∨ p ≤ 0) := by omega
  rw [if_neg h0, if_neg h0]
  refine ⟨?_, rfl⟩
  by_cases h : n % p = 0
  · rw [if_pos h, if_neg (by omega)]; omega
  · rw [if_neg h, if_pos (by omega)]
theorem arr_any (n p : Int) (hn : 1 ≤ n) (hn9 : n ≤ 9223372036854775807) (hp : 1 ≤ p) (hp9 : p ≤ 9223372036854775807) (w : World) : Calls Try.prog 37 #[.int .i64 n, .int .i64 p] w fun e w' => e = .returned (.int .i64 (up n p)) ∧ w' = w := by
  have CC : Hid (∀ W, Calls Try.prog 48 #[.int .i64 n, .int .i64 p] W fun e w' => e = .returned (.tuple #[.int .i64 (up n p), .int .i64 0]) ∧ W = w') := Lib.hid (fun W => by have := qar.ceildiv_any n p (by unfold inR; omega) (by unfold inR; omega) W; rw [(cd_up hn hp).1, (cd_up hn hp).2] at this; exact this)
  generalize up n p = u at CC ⊢
  go_enter Try.func37, Try.ntmps37
  go_wp2_with (go_at_call 48; (with_reducible refine (CC.out _).mono ?_); rintro e wC ⟨rfl, rfl⟩)
  go_ret
  exact ⟨by first | rfl | trivial, by first | rfl | trivial⟩
/-- A total and (k + m) * a. -/
def plP (s e a k m : Int) : Int × Int := if e ≠ 0 then (s, e) else if 9223372036854775807 < k + m ∨ 9223372036854775807 < s + (k + m) * a then (0, 2) else (s + (k + m) * a, 0)
theorem retT {a b c d : Int} (h : a = c) (k : b = d) : Ending.returned (.agg #[.int .i64 a, .int .i64 b]) = .returned (.agg #[.int .i64 c, .int .i64 d]) := by rw [h, k]
/-- A scope out of which the run jumps forth, once, to one label. -/
theorem wp_scope_forth {P : Program} {a : Act} {w : World} {Q : Exit → Act → World → Prop} {c rest : Code} (l : Nat) (hf : findLabel c l = some rest)
    (first : c.wp P (Exit.jump l (fun a w => rest.wp P (Exit.noGoto Q) a w) Q) a w) : (Code.scope c).wp P Q a w :=
  wp_scope_jumps l _ (fun _ _ => 0) hf first (fun _ _ h => Code.wp_mono (fun e _ _ hq => by
    cases e with
    | goto l' => exact False.elim hq
    | normal => exact hq
    | exit id => exact hq
    | ret => exact hq
    | panic ch => exact hq
    | outgrown => exact hq) h)
set_option maxRecDepth 100000 in
set_option maxHeartbeats 4000000 in
theorem plus_any (s e a k m : Int) (hs : 0 ≤ s ∧ s ≤ 9223372036854775807) (he : e = 0 ∨ e = 2) (ha : 0 ≤ a ∧ a ≤ 9223372036854775807) (hk : 0 ≤ k ∧ k ≤ 9223372036854775807) (hm : 1 ≤ m ∧ m ≤ 2) (w : World) :
    Calls Try.prog 36 #[.agg #[.int .i64 s, .int .i64 e], .int .i64 a, .int .i64 k, .int .i64 m] w fun r w' => r = .returned (.agg #[.int .i64 (plP s e a k m).1, .int .i64 (plP s e a k m).2]) ∧ But No w w' := by
  rcases he with rfl | rfl
  · have hf0 : 0 ≤ (k + m) * a := Int.mul_nonneg (by omega) ha.1
    have CA : Hid (∀ W, Calls Try.prog 46 #[.int .i64 k, .int .i64 m] W fun e w' => e = .returned (.tuple #[.int .i64 (qar.exV (k + m)), .int .i64 (qar.exE (k + m))]) ∧ W = w') := Lib.hid (fun W => qar.add_any k m (by unfold inR; omega) (by unfold inR; omega) W)
    by_cases h1 : 9223372036854775807 < k + m
    · have HE : Hid (plP s 0 a k m = (0, 2)) := Lib.hid (by unfold plP; rw [if_neg (by simp), if_pos (Or.inl h1)])
      rw [HE.out]
      rw [qar.exV_out (show ¬ inR (k + m) by unfold inR; omega), qar.exE_out (show ¬ inR (k + m) by unfold inR; omega)] at CA
      clear HE h1 hf0
      go_enter Try.func36, Try.ntmps36
      go_wp2
      refine wp_scope_forth 0 rfl ?_
      go_wp2_with (go_at_call 46; (with_reducible refine (CA.out _).mono ?_); rintro e wC ⟨rfl, rfl⟩)
      go_step3
      refine ⟨rfl, ?_⟩
      go_wp2
      rw [Exit.noGoto_ret]
      exact bodyPost_ret (v := .agg #[.int .i64 0, .int .i64 2]) (by simp [results, Try.results36, go_sem]) rfl ⟨rfl, ((But.refl No w).alloc _).alloc _⟩
    · rw [qar.exV_in (show inR (k + m) by unfold inR; omega), qar.exE_in (show inR (k + m) by unfold inR; omega)] at CA
      have CM : Hid (∀ W, Calls Try.prog 47 #[.int .i64 a, .int .i64 (k + m)] W fun e w' => e = .returned (.tuple #[.int .i64 (qar.exV ((k + m) * a)), .int .i64 (qar.exE ((k + m) * a))]) ∧ But No W w') := Lib.hid (fun W => by
        have h9 := qar.mul_any a (k + m) (by unfold inR; omega) (by unfold inR; omega) W
        rw [Int.mul_comm a (k + m)] at h9
        exact h9.mono (fun e w' ⟨h1, h2⟩ => ⟨h1, h2.butNo⟩))
      obtain ⟨f, hf⟩ : ∃ f, k + m = f := ⟨_, rfl⟩
      obtain ⟨P, hP⟩ : ∃ P, (k + m) * a = P := ⟨_, rfl⟩
      rw [hP, hf] at CM
      rw [hf] at CA
      have KEEP : Hid (∀ w3, But No ((w.alloc (.cells #[.int .i64 s, .int .i64 0] 61)).alloc (.cells #[.int .i64 0, .int .i64 0] 61)) w3 → Blk w3 w.heap.size #[.int .i64 s, .int .i64 0] 61 ∧ Blk w3 (w.heap.size + 1) #[.int .i64 0, .int .i64 0] 61 ∧ But No w w3) := Lib.hid (fun w3 hb => ⟨((Blk.new w #[.int .i64 s, .int .i64 0] 61).alloc _).but hb (fun f => f), (blk2 w _ _ _).but hb (fun f => f), (((But.refl No w).alloc _).alloc _).trans hb⟩)
      by_cases h2 : 9223372036854775807 < P
      · have HE : Hid (plP s 0 a k m = (0, 2)) := Lib.hid (by unfold plP; rw [if_neg (by simp), if_pos (Or.inr (by rw [hP]; omega))])
        rw [HE.out]
        rw [qar.exV_out (show ¬ inR P by unfold inR; omega), qar.exE_out (show ¬ inR P by unfold inR; omega)] at CM
        clear HE h1 h2 hP hf
        go_enter Try.func36, Try.ntmps36
        go_wp2
        refine wp_scope_forth 0 rfl ?_
        go_wp2_with (first | (go_at_call 46; (with_reducible refine (CA.out _).mono ?_); rintro e wC ⟨rfl, rfl⟩) | (go_at_call 47; (with_reducible refine (CM.out _).mono ?_); rintro e w3 ⟨rfl, hb3⟩; obtain ⟨k4, k8, hb⟩ := KEEP.out _ hb3; have y0 := k4.cell (o := 0) rfl; have y1 := k4.cell (o := 1) rfl; have y2 := k8.cell (o := 0) rfl; have y3 := k8.cell (o := 1) rfl; have z0 := k4.frozen 0; have z2 := k8.frozen 0; have z3 := k8.frozen 1; have HBW := Lib.hid hb; have K8 := Lib.hid k8; clear hb3 hb k4 k8))
        go_step3
        refine ⟨rfl, ?_⟩
        go_wp2
        rw [Exit.noGoto_ret]
        exact bodyPost_ret (v := .agg #[.int .i64 0, .int .i64 2]) (by have KB := (K8.out.set 0 (.int .i64 0)).set 1 (.int .i64 2); have c0 := KB.cell (o := 0) rfl; have c1 := KB.cell (o := 1) rfl; simp [results, Try.results36, go_sem, c0, c1]) rfl ⟨rfl, (HBW.out.setNew (Nat.le_succ _) _).setNew (Nat.le_succ _) _⟩
      · rw [qar.exV_in (show inR P by unfold inR; omega), qar.exE_in (show inR P by unfold inR; omega)] at CM
        have CS : Hid (∀ W, Calls Try.prog 46 #[.int .i64 s, .int .i64 P] W fun e w' => e = .returned (.tuple #[.int .i64 (qar.exV (s + P)), .int .i64 (qar.exE (s + P))]) ∧ W = w') := Lib.hid (fun W => qar.add_any s P (by unfold inR; omega) (by unfold inR; omega) W)
        by_cases h3 : 9223372036854775807 < s + P
        · have HE : Hid (plP s 0 a k m = (0, 2)) := Lib.hid (by unfold plP; rw [if_neg (by simp), if_pos (Or.inr (by rw [hP]; omega))])
          rw [HE.out]
          rw [qar.exV_out (show ¬ inR (s + P) by unfold inR; omega), qar.exE_out (show ¬ inR (s + P) by unfold inR; omega)] at CS
          clear HE h1 h2 h3 hP hf
          go_enter Try.func36, Try.ntmps36
          go_wp2
          refine wp_scope_forth 0 rfl ?_
          go_wp2_with (first | (go_at_call 46; first | ((with_reducible refine (CA.out _).mono ?_); rintro e wC ⟨rfl, rfl⟩) | ((with_reducible refine (CS.out _).mono ?_); rintro e wC ⟨rfl, rfl⟩)) | (go_at_call 47; (with_reducible refine (CM.out _).mono ?_); rintro e w3 ⟨rfl, hb3⟩; obtain ⟨k4, k8, hb⟩ := KEEP.out _ hb3; have y0 := k4.cell (o := 0) rfl; have y1 := k4.cell (o := 1) rfl; have y2 := k8.cell (o := 0) rfl; have y3 := k8.cell (o := 1) rfl; have z0 := k4.frozen 0; have z2 := k8.frozen 0; have z3 := k8.frozen 1; have HBW := Lib.hid hb; have K8 := Lib.hid k8; clear hb3 hb k4 k8))
          go_step3
          refine ⟨rfl, ?_⟩
          go_wp2
          rw [Exit.noGoto_ret]
          exact bodyPost_ret (v := .agg #[.int .i64 0, .int .i64 2]) (by have KB := ((K8.out.other (a := ⟨w.heap.size, 0, none⟩) (Nat.succ_ne_self _) (.int .i64 0)).set 0 (.int .i64 0)).set 1 (.int .i64 2); have c0 := KB.cell (o := 0) rfl; have c1 := KB.cell (o := 1) rfl; simp [results, Try.results36, go_sem, c0, c1]) rfl ⟨rfl, ((HBW.out.setNew (Nat.le_refl _) _).setNew (Nat.le_succ _) _).setNew (Nat.le_succ _) _⟩
        · have HE : Hid (plP s 0 a k m = (s + P, 0)) := Lib.hid (by unfold plP; rw [if_neg (by simp), if_neg (by rw [hP]; omega), hP])
          rw [HE.out]
          rw [qar.exV_in (show inR (s + P) by unfold inR; omega), qar.exE_in (show inR (s + P) by unfold inR; omega)] at CS
          obtain ⟨S, hS⟩ : ∃ S, s + P = S := ⟨_, rfl⟩
          rw [hS] at CS ⊢
          clear HE h1 h2 h3 hP hf hS
          go_enter Try.func36, Try.ntmps36
          go_wp2
          go_step3
          go_wp2_with (first | (go_at_call 46; first | ((with_reducible refine (CA.out _).mono ?_); rintro e wC ⟨rfl, rfl⟩) | ((with_reducible refine (CS.out _).mono ?_); rintro e wC ⟨rfl, rfl⟩)) | (go_at_call 47; (with_reducible refine (CM.out _).mono ?_); rintro e w3 ⟨rfl, hb3⟩; obtain ⟨k4, k8, hb⟩ := KEEP.out _ hb3; have y0 := k4.cell (o := 0) rfl; have y1 := k4.cell (o := 1) rfl; have y2 := k8.cell (o := 0) rfl; have y3 := k8.cell (o := 1) rfl; have z0 := k4.frozen 0; have z2 := k8.frozen 0; have z3 := k8.frozen 1; have HBW := Lib.hid hb; have K8 := Lib.hid k8; clear hb3 hb k4 k8))
          rw [Exit.noGoto_ret]
          exact bodyPost_ret (v := .agg #[.int .i64 S, .int .i64 0]) (by have KB := ((K8.out.other (a := ⟨w.heap.size, 0, none⟩) (Nat.succ_ne_self _) (.int .i64 S)).set 0 (.int .i64 S)).set 1 (.int .i64 0); have c0 := KB.cell (o := 0) rfl; have c1 := KB.cell (o := 1) rfl; simp [results, Try.results36, go_sem, c0, c1]) rfl ⟨rfl, ((HBW.out.setNew (Nat.le_refl _) _).setNew (Nat.le_succ _) _).setNew (Nat.le_succ _) _⟩
  · have HE : Hid (plP s 2 a k m = (s, 2)) := Lib.hid (by unfold plP; rw [if_pos (by simp)])
    rw [HE.out]
    go_enter Try.func36, Try.ntmps36
    go_wp2
    go_step3
    go_wp2
    rw [Exit.noGoto_ret]
    exact bodyPost_ret (v := .agg #[.int .i64 s, .int .i64 2]) (by simp [results, Try.results36, go_sem]) rfl ⟨rfl, ((But.refl No w).alloc _).alloc _⟩
end Go.Proofs.Ytfpcnilcbaiojaa.dem
