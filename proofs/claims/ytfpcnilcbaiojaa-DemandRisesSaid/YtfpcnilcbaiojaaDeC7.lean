/- The contracts of the program's own first deadline, of its shares and of whether these are too great (chapter 15). -/
import Derived.Test.YtfpcnilcbaiojaaDeC6
namespace Go.Proofs.Ytfpcnilcbaiojaa.dem
open Go.ChangeShapes Go.WideShapes Go.ChangeAt Go.RowKit Go.Deep
def fdS (f : Int) (x : Wk) : Int := if x.top = true then f else if f ≤ x.d then f else x.d
/-- The least deadline so far of those that are not Top. -/
def fdN (l : List Wk) : Nat → Int
  | 0 => 1099511627777
  | i + 1 => fdS (fdN l i) (l.getD i wk0)
theorem fd_is {l : List Wk} (hok : ∀ x ∈ l, okW x = true) : ∀ i, i ≤ l.length → (lsN l i = 0 ∧ fdN l i = 1099511627777) ∨ (1 ≤ lsN l i ∧ lsN l i ≤ 1099511627776 ∧ fdN l i = lsN l i)
  | 0, _ => .inl ⟨rfl, rfl⟩
  | i + 1, hi => by
    have hx : l[i]? = some l[i] := List.getElem?_eq_getElem (by omega)
    obtain ⟨_, _, d0, d9⟩ := okW_iff.1 (hok _ (List.mem_of_getElem? hx))
    have ih := fd_is hok i (by omega)
    rw [lsN, fdN, getD_some hx]
    unfold fdS
    generalize lsN l i = a at ih ⊢
    generalize fdN l i = b at ih ⊢
    generalize l[i].d = d at d0 d9 ⊢
    cases ht : l[i].top with
    | true => simp only [Bool.true_eq_false, false_and, ↓reduceIte]; exact ih
    | false =>
      simp only [Bool.false_eq_true, true_and, ↓reduceIte]
      split <;> split <;> omega
set_option maxHeartbeats 1000000 in
theorem clo_first (f : Int) (x : Wk) (w : World) : Calls Try.prog 43 #[.int .i64 f, wkV x] w fun e w' => e = .returned (.int .i64 (fdS f x)) ∧ But No w w' := by
  obtain ⟨x0, x1, x2, x3⟩ := x
  unfold wkV
  cases x3 with
  | true =>
    have HE : Hid (fdS f ⟨x0, x1, x2, true⟩ = f) := Lib.hid (by unfold fdS; rw [if_pos rfl])
    rw [HE.out]
    go_enter Try.func43, Try.ntmps43
    go_wp2
    go_ret
    exact ⟨rfl, (But.refl No w).alloc _⟩
  | false =>
    by_cases h : f ≤ x2
    · have HE : Hid (fdS f ⟨x0, x1, x2, false⟩ = f) := Lib.hid (by unfold fdS; rw [if_neg (by simp), if_pos h])
      rw [HE.out]
      go_enter Try.func43, Try.ntmps43
      go_wp2
      go_ret
      exact ⟨rfl, (But.refl No w).alloc _⟩
    · have HE : Hid (fdS f ⟨x0, x1, x2, false⟩ = x2) := Lib.hid (by unfold fdS; rw [if_neg (by simp), if_neg h])
      rw [HE.out]
      go_enter Try.func43, Try.ntmps43
      go_wp2
      go_ret
      exact ⟨rfl, (But.refl No w).alloc _⟩
set_option maxRecDepth 100000 in
set_option maxHeartbeats 2000000 in
/-- The fold of a number. -/
theorem foldI_any (A : Option Addr) (n c : Nat) (l : List Wk) (T : Nat → Int) (w : World) (h : RWk w A n l)
    (hF : ∀ (i : Nat) (x : Wk) (W : World), l[i]? = some x → Calls Try.prog 43 #[.int .i64 (T i), wkV x] W fun e w' => e = .returned (.int .i64 (T (i + 1))) ∧ But No W w') :
    Calls Try.prog 42 #[.slice A n c, .int .i64 (T 0), .func (.func 43) #[] #[]] w fun e w' => e = .returned (.int .i64 (T n)) ∧ But No w w' := by
  have HN := Lib.hid h.len
  have HL := Lib.hid h
  have hmax := h.max
  have HF := Lib.hid hF
  clear h hF
  go_enter Try.func42, Try.ntmps42
  go_wp2_with fail
  go_loopw [1, 11] (fun v i wr => ∃ q : Nat, v = .int .i64 (T q) ∧ i = .int .i64 (q : Int) ∧ q ≤ n ∧ Hid (But No w wr)) (fun _ i _ => n - (intOf i).toNat)
  case atStart => exact ⟨0, rfl, rfl, by omega, But.refl No w⟩
  case round =>
    obtain ⟨q, rfl, rfl, hq, HBR⟩ := hrel
    by_cases hqn : q < n
    · have hqn2 : (q : Int) < (n : Int) := by omega
      have hq0 : (0 : Int) ≤ (q : Int) := Int.natCast_nonneg q
      obtain ⟨x, hx⟩ : ∃ x, l[q]? = some x := ⟨_, List.getElem?_eq_getElem (by rw [HN.out]; exact hqn)⟩
      obtain ⟨b, off, rfl, _, e0, e1, e2, e3⟩ := (HL.out.no HBR.out).at1 hx
      have CF : Hid (∀ W, Calls Try.prog 43 #[.int .i64 (T q), wkV x] W fun e w' => e = .returned (.int .i64 (T (q + 1))) ∧ But No W w') := Lib.hid (fun W => HF.out q x W hx)
      clear hx
      obtain ⟨x0, x1, x2, x3⟩ := x
      unfold wkV at CF
      dsimp only at e0 e1 e2 e3 CF
      generalize hT : T q = tq at CF ⊢
      clear hT
      go_wp2_with (go_at_call 43; (with_reducible refine (CF.out _).mono ?_); rintro e w1 ⟨rfl, hb1⟩; have HB1 := Lib.hid (HBR.out.trans (((But.refl No wr).alloc _).trans hb1)); clear hb1)
      go_roundw
      case rel => exact ⟨q + 1, rfl, by go_num, by omega, HB1.out⟩
      case measure => simp [intOf]; omega
    · have HI : Hid (q = n) := Lib.hid (by omega)
      have b3 : decide ((q : Int) < (n : Int)) = false := by simp; omega
      go_wp2
      go_ret
      exact ⟨by rw [HI.out]; rfl, HBR.out⟩
/-- The least deadline of those that are not Top; a number greater than all where there is none. -/
def fdV (l : List Wk) : Int := if least l = 0 then 1099511627777 else least l
theorem fdV_is {l : List Wk} (hok : ∀ x ∈ l, okW x = true) : fdN l l.length = fdV l ∧ (least l = 0 ∨ 1 ≤ least l ∧ least l ≤ 1099511627776) := by
  unfold fdV least
  rcases fd_is hok l.length (Nat.le_refl _) with ⟨e1, e2⟩ | ⟨g1, g2, e2⟩
  · rw [if_pos e1]; exact ⟨e2, .inl e1⟩
  · rw [if_neg (by omega)]; exact ⟨e2, .inr ⟨g1, g2⟩⟩
theorem first_any (A : Option Addr) (n c : Nat) (l : List Wk) (bl rl : Int) (w : World) (h : RWk w A n l) (hok : ∀ x ∈ l, okW x = true) : Calls Try.prog 29 #[.agg #[.slice A n c, .int .i64 bl, .int .i64 rl]] w fun e w' => e = .returned (.int .i64 (fdV l)) ∧ But No w w' := by
  have CF : Hid (∀ W, But No w W → Calls Try.prog 42 #[.slice A n c, .int .i64 1099511627777, .func (.func 43) #[] #[]] W fun e w' => e = .returned (.int .i64 (fdV l)) ∧ But No W w') := Lib.hid (fun W hb => by
    have h9 := foldI_any A n c l (fdN l) W (h.no hb) (fun i x W' hx => by rw [fdN, getD_some hx]; exact clo_first _ x W')
    have e : fdN l n = fdV l := by rw [← h.len]; exact (fdV_is hok).1
    rw [e] at h9
    exact h9)
  clear h hok
  go_enter Try.func29, Try.ntmps29
  go_wp2_with (go_at_call 42; (with_reducible refine (CF.out _ ((But.refl No w).alloc _)).mono ?_); rintro e wC ⟨rfl, hbC⟩; have HBC := Lib.hid (((But.refl No w).alloc _).trans hbC); clear hbC)
  go_ret
  exact ⟨rfl, HBC.out⟩
theorem Ov.any {w : World} {v : Value} {zs : List Int} (h : Ov w v zs) : ∃ A n c, v = .slice A n c := by
  obtain ⟨A, c, e, _⟩ := Ov.slice h
  exact ⟨A, _, c, e⟩
/-- Two rows that grow, a box for both, and an empty result. -/
structure FS (w wr : World) (v u : Value) (zs ts : List Int) : Prop where
  two : Two w wr v u zs ts
  box : Blk wr w.heap.size #[v, u] 70
  res : Blk wr (w.heap.size + 1) #[.slice none 0 0, .slice none 0 0] 70
theorem FS.start (w : World) : FS w ((w.alloc (.cells #[.slice none 0 0, .slice none 0 0] 70)).alloc (.cells #[.slice none 0 0, .slice none 0 0] 70)) (.slice none 0 0) (.slice none 0 0) [] [] := ⟨(Two.start w).no (((But.refl No w).alloc _).alloc _), (Blk.new w _ _).alloc _, blk2 w _ _ _⟩
theorem FS.no {w wr w2 : World} {v u : Value} {zs ts : List Int} (h : FS w wr v u zs ts) (hb : But No wr w2) : FS w w2 v u zs ts := ⟨h.two.no hb, h.box.but hb (fun f => f), h.res.but hb (fun f => f)⟩
theorem FS.next {w wr w2 : World} {v u v' u' : Value} {zs ts zs' ts' : List Int} (h : FS w wr v u zs ts) (hT : Two w w2 v' u' zs' ts') (hb : But (OQ v u) wr w2) : Blk w2 w.heap.size #[v, u] 70 ∧ FS w ((w2.setCell ⟨w.heap.size, 0, none⟩ v').setCell ⟨w.heap.size, 1, none⟩ u') v' u' zs' ts' := by
  have q : ∀ {b : Nat} {cur : Array Value}, Blk wr b cur 70 → ¬ OQ v u b := fun hk f => f.elim (fun e => own_ne h.two.o1 hk (by decide) e) (fun e => own_ne h.two.o2 hk (by decide) e)
  have hx := h.box.but hb (q h.box)
  have hy := h.res.but hb (q h.res)
  exact ⟨hx, (hT.set hx (by decide) (Nat.le_refl _) 0 _).set (hx.set 0 _) (by decide) (Nat.le_refl _) 1 _, (hx.set 0 _).set 1 _, (hy.other (a := ⟨w.heap.size, 0, none⟩) (Nat.succ_ne_self _) _).other (a := ⟨w.heap.size, 1, none⟩) (Nat.succ_ne_self _) _⟩
set_option maxRecDepth 100000 in
set_option maxHeartbeats 4000000 in
/-- The fold of the shares. -/
theorem foldS_any (A : Option Addr) (n c : Nat) (l : List Wk) (rl : Int) (bc : Nat) (w : World) (h : RWk w A n l) (hn : n ≤ 72) (hc : w.cell? ⟨bc, 2, none⟩ = some (.int .i64 rl)) :
    Calls Try.prog 49 #[.slice A n c, .agg #[.slice none 0 0, .slice none 0 0], .func (.func 50) #[] #[.pointer (some ⟨bc, 0, none⟩)]] w fun e w' => ∃ v u, e = .returned (.agg #[v, u]) ∧ Two w w' v u (wz rl l) (pz l) := by
  have HN := Lib.hid h.len
  have HL := Lib.hid h
  have hmax := h.max
  have H0 := Lib.hid (FS.start w)
  have HC := Lib.hid hc
  clear h hc
  go_enter Try.func49, Try.ntmps49
  go_wp2_with fail
  go_loopw [11] (fun i wr => ∃ (q : Nat) (A1 : Option Addr) (n1 c1 : Nat) (A2 : Option Addr) (n2 c2 : Nat), i = .int .i64 (q : Int) ∧ q ≤ n ∧ Hid (FS w wr (.slice A1 n1 c1) (.slice A2 n2 c2) (wz rl (l.take q)) (pz (l.take q)))) (fun i _ => n - (intOf i).toNat)
  case atStart => exact ⟨0, none, 0, 0, none, 0, 0, rfl, by omega, H0.out⟩
  case round =>
    obtain ⟨q, A1, n1, c1, A2, n2, c2, rfl, hq, HT⟩ := hrel
    clear H0
    by_cases hqn : q < n
    · have hqn2 : (q : Int) < (n : Int) := by omega
      have hq0 : (0 : Int) ≤ (q : Int) := Int.natCast_nonneg q
      obtain ⟨x, hx⟩ : ∃ x, l[q]? = some x := ⟨_, List.getElem?_eq_getElem (by rw [HN.out]; exact hqn)⟩
      obtain ⟨b, off, rfl, _, e0, e1, e2, e3⟩ := (HL.out.no HT.out.two.but).at1 hx
      have WS := Lib.hid (wz_snoc (rl := rl) hx)
      have PS := Lib.hid (pz_snoc hx)
      have hlt : (l.take q).length = q := by rw [List.length_take]; have := HN.out; omega
      have HWL := Lib.hid (show (wz rl (l.take q)).length ≤ 1000 by rw [wz_len, hlt]; omega)
      have HPL := Lib.hid (show (pz (l.take q)).length ≤ 1000 by rw [pz_len, hlt]; omega)
      clear hx hlt
      obtain ⟨x0, x1, x2, x3⟩ := x
      dsimp only at e0 e1 e2 e3 WS PS
      have hTa := HT.out.no ((But.refl No wr).alloc (.cells #[.int .i64 x0, .int .i64 x1, .int .i64 x2, .bool x3] 38))
      have s0 := HT.out.box.cell (o := 0) rfl
      have s1 := HT.out.box.cell (o := 1) rfl
      have r0 := hTa.box.cell (o := 0) rfl
      have r1 := hTa.box.cell (o := 1) rfl
      have HTA := Lib.hid hTa
      clear hTa
      have CF : Hid (Calls Try.prog 50 #[.agg #[.slice A1 n1 c1, .slice A2 n2 c2], .agg #[.int .i64 x0, .int .i64 x1, .int .i64 x2, .bool x3], .pointer (some ⟨bc, 0, none⟩)] (wr.alloc (.cells #[.int .i64 x0, .int .i64 x1, .int .i64 x2, .bool x3] 38)) fun r w' => ∃ v' u', r = .returned (.agg #[v', u']) ∧ Two w w' v' u' (wz rl (l.take q) ++ [x0, rl]) (pz (l.take q) ++ [x1, x1]) ∧ But (OQ (.slice A1 n1 c1) (.slice A2 n2 c2)) (wr.alloc (.cells #[.int .i64 x0, .int .i64 x1, .int .i64 x2, .bool x3] 38)) w') := Lib.hid (clo_shares (.slice A1 n1 c1) (.slice A2 n2 c2) _ _ ⟨x0, x1, x2, x3⟩ bc rl w _ HTA.out.two HWL.out HPL.out HC.out)
      go_wp2_with (go_at_call 50; (with_reducible refine CF.out.mono ?_); rintro e w1 ⟨v', u', rfl, hT1, hb1⟩; obtain ⟨A3, n3, c3, hv3⟩ := Ov.any hT1.o1; obtain ⟨A4, n4, c4, hv4⟩ := Ov.any hT1.o2; subst hv3; subst hv4; obtain ⟨hx1, hS1⟩ := HTA.out.next hT1 hb1; have g0 := hx1.frozen 0; have g1 := hx1.frozen 1; have t0 := hx1.cell (o := 0) rfl; have t1 := hx1.cell (o := 1) rfl; have HS1 := Lib.hid hS1; clear hS1 hT1 hb1 hx1)
      go_roundw
      case rel => exact ⟨q + 1, A3, n3, c3, A4, n4, c4, by go_num, by omega, by rw [WS.out, PS.out]; exact HS1.out⟩
      case measure => simp [intOf]; omega
    · have HI : Hid (q = n) := Lib.hid (by omega)
      have b3 : decide ((q : Int) < (n : Int)) = false := by simp; omega
      have htk : l.take q = l := List.take_of_length_le (by rw [HN.out]; have := HI.out; omega)
      rw [htk] at HT
      have s0 := HT.out.box.cell (o := 0) rfl
      have s1 := HT.out.box.cell (o := 1) rfl
      have g0 := HT.out.res.frozen 0
      have g1 := HT.out.res.frozen 1
      have t0 := HT.out.res.cell (o := 0) rfl
      have t1 := HT.out.res.cell (o := 1) rfl
      have KF := (HT.out.res.set 0 (.slice A1 n1 c1)).set 1 (.slice A2 n2 c2)
      have f0 := KF.cell (o := 0) rfl
      have f1 := KF.cell (o := 1) rfl
      clear KF htk
      go_wp2
      exact bodyPost_ret (v := .agg #[.slice A1 n1 c1, .slice A2 n2 c2]) (by simp [results, Try.results49, go_sem, f0, f1]) rfl ⟨_, _, rfl, (HT.out.two.set HT.out.res (by decide) (Nat.le_succ _) 0 _).set (HT.out.res.set 0 _) (by decide) (Nat.le_succ _) 1 _⟩
end Go.Proofs.Ytfpcnilcbaiojaa.dem
