/- The document's own list: Add. -/
import Derived.Test.YtfejnokljddomaaR1
namespace Go.Proofs.Ytfejnokljddomaa
open Go.ChangeShapes Go.WideShapes Go.ChangeAt Go.RowKit Go.Deep
theorem info59 : (Try.prog.info? 59).map (fun i => (i.zero, i.size, i.bytes)) = some (some (.agg #[.int .i64 0, .int .i64 0]), 2, 16) := by kernel_rfl
theorem two_reads (w : World) (a n : Int) : Reads (w.alloc (.cells #[.int .i64 a, .int .i64 n] 59)) (w.heap.size + 1) 2 (some ⟨w.heap.size, 0, none⟩) 1 [.int .i64 a, .int .i64 n] :=
  ⟨rfl, fun _ => ⟨_, rfl, Nat.lt_succ_self _, World.news_of_block (cs := #[.int .i64 a, .int .i64 n]) (t := 59) (fr := (0, 0)) (Blk.new w _ _)⟩⟩
theorem two_cell (a n : Int) : ∀ u ∈ [Value.int .i64 a, Value.int .i64 n], u.oneCell' = true := by simp [Value.oneCell']
theorem radd_arg (x : Nat) (w : World) (a n : Int) (hn : n < 1 ∨ 9007199254740991 < n) :
    Calls Try.prog 12 #[.pointer (some ⟨x, 0, none⟩), .int .i64 a, .int .i64 n] w fun r w' => r = .returned (.int .i64 1) ∧ w' = w := by
  rcases hn with h | h
  · have b1 : decide (n < 1) = true := by simp; omega
    go_enter Try.func12, Try.ntmps12
    go_wp2
    go_ret
    exact ⟨rfl, rfl⟩
  · have b1 : decide (n < 1) = false := by simp; omega
    have b2 : decide ((9007199254740991 : Int) < n) = true := by simp; omega
    go_enter Try.func12, Try.ntmps12
    go_wp2
    go_ret
    exact ⟨rfl, rfl⟩
theorem radd_exists (x : Nat) (R : Int) (K : List Tm) (S : Nat → Prop) (w : World) (a n : Int) (h : RF w S x R K) (kd : Kd K) (h1 : 1 ≤ n) (h2 : n ≤ 9007199254740991) (hh : hasT K a = true) :
    Calls Try.prog 12 #[.pointer (some ⟨x, 0, none⟩), .int .i64 a, .int .i64 n] w fun r w' => r = .returned (.int .i64 4) ∧ w' = w := by
  have CP := Lib.hid (rat_any x R K S w a h kd.len)
  rw [has_idx] at hh
  generalize idx K a = k at CP hh
  have b1 : decide (n < 1) = false := by simp; omega
  have b2 : decide ((9007199254740991 : Int) < n) = false := by simp; omega
  clear h kd
  go_enter Try.func12, Try.ntmps12
  go_wp2_with (go_at_call 26; refine CP.out.mono ?_; rintro e w2 ⟨rfl, rfl⟩)
  go_ret
  exact ⟨rfl, rfl⟩
theorem radd_full (x : Nat) (R : Int) (K : List Tm) (S : Nat → Prop) (w : World) (a n : Int) (h : RF w S x R K) (kd : Kd K) (h1 : 1 ≤ n) (h2 : n ≤ 9007199254740991) (hh : hasT K a = false) (hf : R ≤ K.length) :
    Calls Try.prog 12 #[.pointer (some ⟨x, 0, none⟩), .int .i64 a, .int .i64 n] w fun r w' => r = .returned (.int .i64 3) ∧ ∃ m, w' = w.drewN m := by
  have CP := Lib.hid (rat_any x R K S w a h kd.len)
  have hl := kd.len
  rw [has_idx] at hh
  obtain ⟨A, c, g1, g2, g3, g4⟩ := h.head
  have d0 : w.cell? ⟨x, 0, none⟩ = some (.int .i64 R) := g1.cell (o := 0) rfl
  have d1 : w.cell? ⟨x, 1, none⟩ = some (.slice A K.length c) := g1.cell (o := 1) rfl
  generalize idx K a = k at CP hh
  generalize K.length = m at d1 hf hl
  have b1 : decide (n < 1) = false := by simp; omega
  have b2 : decide ((9007199254740991 : Int) < n) = false := by simp; omega
  have b3 : decide (R ≤ (m : Int)) = true := by simpa using hf
  clear h kd g1 g2 g3 g4
  go_enter Try.func12, Try.ntmps12
  go_wp2_with (go_at_call 26; refine CP.out.mono ?_; rintro e w2 ⟨rfl, rfl⟩)
  go_quiet (fail)
  go_wp2
  go_ret
  exact ⟨rfl, _, rfl⟩
set_option maxHeartbeats 4000000 in
set_option maxRecDepth 100000 in
theorem radd_ok (x : Nat) (R : Int) (K : List Tm) (S : Nat → Prop) (w : World) (a n : Int) (h : RF w S x R K) (kd : Kd K) (h1 : 1 ≤ n) (h2 : n ≤ 9007199254740991) (hh : hasT K a = false) (hf : ¬ R ≤ K.length) :
    Calls Try.prog 12 #[.pointer (some ⟨x, 0, none⟩), .int .i64 a, .int .i64 n] w fun r w' => r = .returned (.int .i64 0) ∧ Rm w S x R (K ++ [⟨a, n⟩]) w' := by
  have CP := Lib.hid (rat_any x R K S w a h kd.len)
  have hl := kd.len
  rw [has_idx] at hh
  obtain ⟨A, c, g1, g2, g3, g4⟩ := h.head
  have HG : Hid (Blk w x #[.int .i64 R, .slice A K.length c] 45 ∧ Ov2 w (.slice A K.length c) K ∧ (Value.slice A K.length c).ownBlock ≠ some x ∧ ∀ k, (k = x ∨ (Value.slice A K.length c).ownBlock = some k) → S k) := ⟨g1, g2, g3, g4⟩
  obtain ⟨m, hm⟩ : ∃ m, m = K.length := ⟨_, rfl⟩
  have d0 : w.cell? ⟨x, 0, none⟩ = some (.int .i64 R) := g1.cell (o := 0) rfl
  have d1 : w.cell? ⟨x, 1, none⟩ = some (.slice A m c) := by rw [hm]; exact g1.cell (o := 1) rfl
  rw [← hm] at hf hl HG
  have HM := Lib.hid hm
  generalize idx K a = k at CP hh
  have b1 : decide (n < 1) = false := by simp; omega
  have b2 : decide ((9007199254740991 : Int) < n) = false := by simp; omega
  have b3 : decide (R ≤ (m : Int)) = false := by simpa using hf
  obtain ⟨i0, hi0, hz0, hz1, hz2⟩ := info_parts info59
  have I0 : Hid (Try.prog.info? 59 = some i0 ∧ i0.zero = some (.agg #[.int .i64 0, .int .i64 0]) ∧ i0.size = 2 ∧ i0.bytes = 16) := ⟨hi0, hz0, hz1, hz2⟩
  clear h kd g1 g2 g3 g4 hm hi0 hz0 hz1 hz2
  go_enter Try.func12, Try.ntmps12
  go_wp2_with (go_at_call 26; refine CP.out.mono ?_; rintro e w2 ⟨rfl, rfl⟩)
  go_quiet (fail)
  have HB : Hid (But No w2 (w2.drewN nq)) := (But.refl No w2).drewN nq
  have d1' : (w2.drewN nq).cell? ⟨x, 1, none⟩ = some (.slice A m c) := d1
  generalize w2.drewN nq = wq at HB d1' ⊢
  have ROW : Hid ((wq.alloc (.cells #[.int .i64 a, .int .i64 n] 59)).ownsRow 0 59 2 (.slice A m c) m (flat K)) := by
    have := owns_but (S := No) (HG.out.2.1.but HB.out (fun _ _ f => f)) ((But.refl No wq).alloc (.cells #[.int .i64 a, .int .i64 n] 59)) (fun _ _ f => f)
    rw [← HM.out] at this; exact this
  have AFT : Hid (∀ A3 c3 w3, w3.ownsRow 0 59 2 (.slice A3 (m + 1) c3) (m + 1) (flat K ++ [.int .i64 a, .int .i64 n]) → (wq.alloc (.cells #[.int .i64 a, .int .i64 n] 59)).grownBy w3 (Value.slice A m c).ownBlock → ((Value.slice A3 (m + 1) c3).ownBlock = (Value.slice A m c).ownBlock ∨ (Value.slice A3 (m + 1) c3).ownBlock = some (wq.alloc (.cells #[.int .i64 a, .int .i64 n] 59)).heap.size) →
      Rm w2 S x R (K ++ [⟨a, n⟩]) (w3.setCell ⟨x, 1, none⟩ (.slice A3 (m + 1) c3)) ∧ w3.cell? ⟨x, 1, none⟩ = some (.slice A m c) ∧ w3.frozen? ⟨x, 1, none⟩ = false) := by
    intro A3 c3 w3 ho hg hat
    rw [size_alloc1] at hat
    obtain ⟨e1, e2, e3, e4⟩ := HG.out
    have b3 : But (fun k => (Value.slice A m c).ownBlock = some k) w2 w3 := (HB.out.no.alloc _).grown hg (fun k e => .inl e)
    have o3 : Ov2 w3 (.slice A3 (m + 1) c3) (K ++ [⟨a, n⟩]) := by
      unfold Ov2
      rw [List.length_append, flat_append, ← HM.out]; exact ho
    have hsz := HB.out.size
    obtain ⟨r1, r2⟩ := RF.put (S := S) e1 (e4 x (.inl rfl)) b3 (fun k hk => ⟨e4 k (.inr hk), fun e => e3 (e ▸ hk)⟩) o3 (fun k e => by
      rcases hat with h | h
      · rw [h] at e; exact .inl ⟨e4 k (.inr e), fun e' => e3 (e' ▸ e)⟩
      · rw [h] at e; exact .inr (by have : wq.heap.size + 1 = k := by simpa using e
                                    omega))
    exact ⟨r1, r2.cell (o := 1) rfl, r2.frozen 1⟩
  clear d0 d1
  go_wp2_with (at_builtin; refine wpList_append_sh _ rfl _ _ 43 rfl 59 i0 _ 2 16 Try.underlying43 I0.out.1 I0.out.2.1 I0.out.2.2.1 I0.out.2.2.2 rfl (by omega) (.slice A m c) m _ rfl ROW.out (wq.heap.size + 1) (some ⟨wq.heap.size, 0, none⟩) 1 1 [.int .i64 a, .int .i64 n] rfl (two_reads wq a n) (two_cell a n) (by unfold maxLen; omega) (by omega) ?_; intro A3 c3 w3 hown hgrow hat; obtain ⟨hrm, hc3, hf3⟩ := AFT.out A3 c3 w3 hown hgrow hat; have HRM := Lib.hid hrm; clear hown hgrow hat hrm)
  go_ret
  exact ⟨rfl, HRM.out⟩
theorem radd_any (x : Nat) (R : Int) (K : List Tm) (S : Nat → Prop) (w : World) (a n : Int) (h : RF w S x R K) (kd : Kd K) :
    Calls Try.prog 12 #[.pointer (some ⟨x, 0, none⟩), .int .i64 a, .int .i64 n] w fun r w' => r = .returned (.int .i64 (addE R K a n)) ∧ Rm w S x R (rAdd R K a n) w' := by
  unfold rAdd
  by_cases hn : n < 1 ∨ 9007199254740991 < n
  · have e : addE R K a n = 1 := by unfold addE; rw [if_pos hn]
    rw [e, if_neg (by omega)]
    exact (radd_arg x w a n hn).mono fun _ _ ⟨h1, h2⟩ => ⟨h1, h2 ▸ h.stay (But.refl _ _)⟩
  · cases hh : hasT K a with
    | true =>
      have e : addE R K a n = 4 := by unfold addE; rw [if_neg hn, if_pos hh]
      rw [e, if_neg (by omega)]
      exact (radd_exists x R K S w a n h kd (by omega) (by omega) hh).mono fun _ _ ⟨h1, h2⟩ => ⟨h1, h2 ▸ h.stay (But.refl _ _)⟩
    | false =>
      by_cases hf : R ≤ K.length
      · have e : addE R K a n = 3 := by unfold addE; rw [if_neg hn, if_neg (by rw [hh]; simp), if_pos hf]
        rw [e, if_neg (by omega)]
        exact (radd_full x R K S w a n h kd (by omega) (by omega) hh hf).mono fun _ _ ⟨h1, h2⟩ => ⟨h1, h.stay (drewN_but h2)⟩
      · have e : addE R K a n = 0 := by unfold addE; rw [if_neg hn, if_neg (by rw [hh]; simp), if_neg hf]
        rw [e, if_pos rfl]
        exact radd_ok x R K S w a n h kd (by omega) (by omega) hh hf
end Go.Proofs.Ytfejnokljddomaa
