/- The document's queue: ahead, at, Level. -/
import Derived.Test.YtbfmoaojimimjaaR1
namespace Go.Proofs.Ytbfmoaojimimjaa
open Go.ChangeShapes Go.WideShapes Go.ChangeAt Go.RowKit Go.Deep
theorem box8 {w w' : World} {g h : Nat} {a b c e f j : Int} {d i : Bool} (h1 : Blk w g #[.int .i64 a, .int .i64 b, .int .i64 c, .bool d] 59) (h2 : Blk w h #[.int .i64 e, .int .i64 f, .int .i64 j, .bool i] 59) (hb : But No w w') :
    w'.cell? ⟨g, 0, none⟩ = some (.int .i64 a) ∧ w'.cell? ⟨g, 1, none⟩ = some (.int .i64 b) ∧ w'.cell? ⟨g, 2, none⟩ = some (.int .i64 c) ∧ w'.cell? ⟨g, 3, none⟩ = some (.bool d) ∧
    w'.cell? ⟨h, 0, none⟩ = some (.int .i64 e) ∧ w'.cell? ⟨h, 1, none⟩ = some (.int .i64 f) ∧ w'.cell? ⟨h, 2, none⟩ = some (.int .i64 j) ∧ w'.cell? ⟨h, 3, none⟩ = some (.bool i) := by
  have k1 := h1.but hb (fun f => f)
  have k2 := h2.but hb (fun f => f)
  exact ⟨k1.cell (o := 0) rfl, k1.cell (o := 1) rfl, k1.cell (o := 2) rfl, k1.cell (o := 3) rfl, k2.cell (o := 0) rfl, k2.cell (o := 1) rfl, k2.cell (o := 2) rfl, k2.cell (o := 3) rfl⟩
set_option maxHeartbeats 4000000 in
theorem ahead_any (x y : One) (w : World) :
    Calls Try.prog 39 #[agg x, agg y] w fun r w' => r = .returned (.bool (ahB x y)) ∧ But No w w' := by
  have C1 := Lib.hid (counts_any x)
  have C2 := Lib.hid (counts_any y)
  have HA : Hid (ahB x y = if cnt x ≠ cnt y then decide (cnt x < cnt y) else if x.r ≠ y.r then x.r else decide (x.t < y.t)) := rfl
  generalize cnt x = cx at *
  generalize cnt y = cy at *
  generalize ahB x y = res at *
  obtain ⟨a, b, c, d⟩ := x
  obtain ⟨e, f, g, i⟩ := y
  unfold agg at *
  dsimp only at *
  go_enter Try.func39, Try.ntmps39
  go_wp2_with fail
  generalize hws : (w.alloc (.cells #[.int .i64 a, .int .i64 b, .int .i64 c, .bool d] 59)).alloc (.cells #[.int .i64 e, .int .i64 f, .int .i64 g, .bool i] 59) = ws
  have HBS : Hid (But No w ws) := by rw [← hws]; exact ((But.refl No w).alloc _).alloc _
  have HB1 : Hid (Blk ws w.heap.size #[.int .i64 a, .int .i64 b, .int .i64 c, .bool d] 59) := by rw [← hws]; exact (Blk.new w _ _).alloc _
  have HB2 : Hid (Blk ws (w.heap.size + 1) #[.int .i64 e, .int .i64 f, .int .i64 g, .bool i] 59) := by rw [← hws]; exact blk2 w _ _ _
  clear hws
  generalize w.heap.size = g1 at *
  refine (C1.out ws).mono ?_
  rintro e1 w2 ⟨rfl, hb2⟩
  obtain ⟨p0, p1, p2, p3, q0, q1, q2, q3⟩ := box8 HB1.out HB2.out hb2
  have HW2 := Lib.hid hb2
  clear hb2
  go_wp2_with fail
  refine (C2.out w2).mono ?_
  rintro e1 w3 ⟨rfl, hb3⟩
  clear p0 p1 p2 p3 q0 q1 q2 q3
  obtain ⟨p0, p1, p2, p3, q0, q1, q2, q3⟩ := box8 HB1.out HB2.out (HW2.out.trans hb3)
  have HW3 := Lib.hid (HBS.out.trans (HW2.out.trans hb3))
  clear hb3 C1 C2 HB1 HB2 HW2 HBS
  by_cases hc : cx = cy
  · have h1 : (cx != cy) = false := by simp [hc]
    cases d <;> cases i
    · go_wp2
      go_ret
      exact ⟨retb (by rw [HA.out]; simp [hc]), HW3.out⟩
    · go_wp2
      go_ret
      exact ⟨retb (by rw [HA.out]; simp [hc]), HW3.out⟩
    · go_wp2
      go_ret
      exact ⟨retb (by rw [HA.out]; simp [hc]), HW3.out⟩
    · go_wp2
      go_ret
      exact ⟨retb (by rw [HA.out]; simp [hc]), HW3.out⟩
  · have h1 : (cx != cy) = true := by simp [hc]
    have HE : Hid (res = decide (cx < cy)) := by show _ = _; rw [HA.out, if_pos hc]
    clear hc HA
    go_wp2
    go_ret
    exact ⟨retb HE.out.symm, HW3.out⟩
def hasR (a : Int) (R : List One) : Bool := R.any (fun o => o.t == a)
theorem hasR_false {a : Int} {L : List One} (h : hasR a L = false) : ∀ y ∈ L, y.t ≠ a := by
  intro y hy e
  have : hasR a L = true := List.any_eq_true.2 ⟨y, hy, by simpa using e⟩
  rw [h] at this; cases this
/-- The first one of this task, with what stands ahead of it and behind. -/
theorem first_split {a : Int} : ∀ {L : List One}, hasR a L = true → ∃ l1 o l2, L = l1 ++ o :: l2 ∧ o.t = a ∧ ∀ y ∈ l1, y.t ≠ a
  | [], h => by cases h
  | y :: L, h => by
    by_cases e : y.t = a
    · exact ⟨[], y, L, rfl, e, fun z hz => (List.not_mem_nil hz).elim⟩
    · have h' : hasR a L = true := by unfold hasR at h ⊢; simpa [e] using h
      obtain ⟨l1, o, l2, h1, h2, h3⟩ := first_split h'
      refine ⟨y :: l1, o, l2, by rw [h1]; rfl, h2, fun z hz => ?_⟩
      rcases List.mem_cons.1 hz with rfl | hz
      · exact e
      · exact h3 z hz
theorem getD_mid {l1 l2 : List One} {o : One} : (l1 ++ o :: l2).getD l1.length o0 = o := by simp [List.getD]
theorem getD_left {l1 l2 : List One} {j : Nat} (h : j < l1.length) : (l1 ++ l2).getD j o0 ∈ l1 := by
  have : (l1 ++ l2).getD j o0 = l1[j] := by rw [List.getD, List.getElem?_append_left h, List.getElem?_eq_getElem h]; rfl
  rw [this]; exact List.getElem_mem h
set_option maxHeartbeats 1000000 in
theorem at_out (x : Nat) (R : Int) (L : List One) (S : Nat → Prop) (w : World) (a : Int) (h : RF w S x R L) (hno : hasR a L = false) :
    Calls Try.prog 32 #[.pointer (some ⟨x, 0, none⟩), .int .i64 a] w fun r w' => r = .returned (.int .i64 (-1)) ∧ w = w' := by
  have hl := h.len
  obtain ⟨v, h1, h2, h3, h4⟩ := h.ex
  obtain ⟨A, c, rfl, hc⟩ := h2.slice
  have hcell : w.cell? ⟨x, 1, none⟩ = some (.slice A L.length c) := h1.cell (o := 1) rfl
  have H2 := Lib.hid h2
  have HNO : Hid (∀ k, k < L.length → (L.getD k o0).t ≠ a) := fun k hk => by
    have : L.getD k o0 = L[k] := by simp [List.getD, List.getElem?_eq_getElem hk]
    rw [this]; exact hasR_false hno _ (List.getElem_mem hk)
  clear h h1 h2 h3 h4 hno
  generalize hn : L.length = n at hcell hl H2 HNO hc
  have HN := Lib.hid hn
  clear hn
  go_enter Try.func32, Try.ntmps32
  go_wp2
  go_loop [5] (fun s => ∃ k : Nat, s = .int .i64 k ∧ k ≤ n) (fun s => n - (intOf s).toNat)
  case atStart => exact ⟨0, rfl, by omega⟩
  case round =>
    obtain ⟨k, rfl, hk⟩ := hrel
    by_cases hlt : k < n
    · obtain ⟨q, rfl, hq, c0, c1, c2, c3, hfz⟩ := H2.out.cells (k := k) (by rw [HN.out]; exact hlt)
      have kn : (k : Int) < (n : Int) := by omega
      have hne := HNO.out k hlt
      generalize (L.getD k o0).t = y at c0 hne
      have hne' : (y == a) = false := by simpa using hne
      clear hfz c1 c2 c3
      go_wp2
      go_round
      case rel => exact ⟨k + 1, by go_num, by omega⟩
      case measure => simp [intOf]; omega
    · go_wp2
      go_ret
      exact ⟨rfl, rfl⟩
set_option maxHeartbeats 1000000 in
theorem at_in (x : Nat) (R : Int) (l1 l2 : List One) (o : One) (S : Nat → Prop) (w : World) (h : RF w S x R (l1 ++ o :: l2)) (hno : ∀ y ∈ l1, y.t ≠ o.t) :
    Calls Try.prog 32 #[.pointer (some ⟨x, 0, none⟩), .int .i64 o.t] w fun r w' => r = .returned (.int .i64 l1.length) ∧ w = w' := by
  have hl := h.len
  obtain ⟨v, h1, h2, h3, h4⟩ := h.ex
  obtain ⟨A, c, rfl, hc⟩ := h2.slice
  have hcell : w.cell? ⟨x, 1, none⟩ = some (.slice A (l1 ++ o :: l2).length c) := h1.cell (o := 1) rfl
  have H2 := Lib.hid h2
  have HNO : Hid (∀ j, j < l1.length → ((l1 ++ o :: l2).getD j o0).t ≠ o.t) := fun j hj => hno _ (getD_left hj)
  have HAT : Hid (((l1 ++ o :: l2).getD l1.length o0).t = o.t) := by show _ = _; rw [getD_mid]
  have hk0 : l1.length < (l1 ++ o :: l2).length := by simp
  generalize l1 ++ o :: l2 = L at *
  generalize l1.length = k0 at *
  generalize o.t = a at *
  clear h h1 h2 h3 h4 hno
  generalize hn : L.length = n at hcell hl H2 hk0 hc
  have HN := Lib.hid hn
  clear hn
  go_enter Try.func32, Try.ntmps32
  go_wp2
  go_loop [5] (fun s => ∃ k : Nat, s = .int .i64 k ∧ k ≤ k0) (fun s => n - (intOf s).toNat)
  case atStart => exact ⟨0, rfl, by omega⟩
  case round =>
    obtain ⟨k, rfl, hk⟩ := hrel
    obtain ⟨q, rfl, hq, c0, c1, c2, c3, hfz⟩ := H2.out.cells (k := k) (by rw [HN.out]; omega)
    have kn : (k : Int) < (n : Int) := by omega
    clear hfz c1 c2 c3
    by_cases hlt : k < k0
    · have hne := HNO.out k hlt
      generalize (L.getD k o0).t = y at c0 hne
      have hne' : (y == a) = false := by simpa using hne
      go_wp2
      go_round
      case rel => exact ⟨k + 1, by go_num, by omega⟩
      case measure => simp [intOf]; omega
    · obtain rfl : k = k0 := by omega
      rw [HAT.out] at c0
      go_wp2
      go_ret
      exact ⟨rfl, rfl⟩
theorem rlevel_out (x : Nat) (R : Int) (L : List One) (S : Nat → Prop) (w : World) (a : Int) (h : RF w S x R L) (hno : hasR a L = false) :
    Calls Try.prog 20 #[.pointer (some ⟨x, 0, none⟩), .int .i64 a] w fun r w' => r = .returned (.tuple #[.int .i64 0, .bool false]) ∧ But No w w' := by
  have C := Lib.hid (at_out x R L S w a h hno)
  clear h hno
  go_enter Try.func20, Try.ntmps20
  go_wp2_with (go_at_call 32; ((with_reducible refine C.out.mono ?_); rintro e w1 ⟨rfl, rfl⟩))
  go_ret2
  exact ⟨rfl, But.refl _ _⟩
theorem rlevel_in (x : Nat) (R : Int) (l1 l2 : List One) (o : One) (S : Nat → Prop) (w : World) (h : RF w S x R (l1 ++ o :: l2)) (hno : ∀ y ∈ l1, y.t ≠ o.t) :
    Calls Try.prog 20 #[.pointer (some ⟨x, 0, none⟩), .int .i64 o.t] w fun r w' => r = .returned (.tuple #[.int .i64 (cnt o), .bool true]) ∧ But No w w' := by
  have C := Lib.hid (at_in x R l1 l2 o S w h hno)
  have CC := Lib.hid (counts_any o)
  obtain ⟨v, h1, h2, h3, h4⟩ := h.ex
  obtain ⟨A, c, rfl, hc⟩ := h2.slice
  have hk0 : l1.length < (l1 ++ o :: l2).length := by simp
  have hcell : w.cell? ⟨x, 1, none⟩ = some (.slice A (l1 ++ o :: l2).length c) := h1.cell (o := 1) rfl
  obtain ⟨q, rfl, hq, c0, c1, c2, c3, hfz⟩ := h2.cells (k := l1.length) hk0
  rw [getD_mid] at c0 c1 c2 c3
  have hl := h.len
  clear h h1 h2 h3 h4 hno hfz
  generalize (l1 ++ o :: l2).length = n at *
  generalize l1.length = k at *
  have kn : (k : Int) < (n : Int) := by omega
  have k0 : decide ((k : Int) < 0) = false := by simp
  unfold agg at CC
  generalize hcnt : cnt o = co at CC ⊢
  clear hcnt
  obtain ⟨oa, ob, oc, od⟩ := o
  dsimp only at *
  go_enter Try.func20, Try.ntmps20
  go_wp2_with (first | (go_at_call 32; ((with_reducible refine C.out.mono ?_); rintro e w1 ⟨rfl, rfl⟩)) | (go_at_call 37; ((with_reducible refine (CC.out _).mono ?_); rintro e w2 ⟨rfl, hb⟩; have HB := Lib.hid hb; clear hb)))
  go_ret2
  exact ⟨rfl, HB.out⟩
end Go.Proofs.Ytbfmoaojimimjaa
