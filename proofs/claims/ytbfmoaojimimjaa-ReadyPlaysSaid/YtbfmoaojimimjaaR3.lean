/- The document's queue: Add, Raise, Fall, Remove. -/
import Derived.Test.YtbfmoaojimimjaaR2
namespace Go.Proofs.Ytbfmoaojimimjaa
open Go.ChangeShapes Go.WideShapes Go.ChangeAt Go.RowKit Go.Deep
theorem info59 : (Try.prog.info? 59).map (fun i => (i.zero, i.size, i.bytes)) = some (some (.agg #[.int .i64 0, .int .i64 0, .int .i64 0, .bool false]), 4, 32) := by kernel_rfl
theorem four_reads (w : World) (x y z : Int) (b : Bool) : Reads (w.alloc (.cells #[.int .i64 x, .int .i64 y, .int .i64 z, .bool b] 59)) (w.heap.size + 1) 4 (some ⟨w.heap.size, 0, none⟩) 1 [.int .i64 x, .int .i64 y, .int .i64 z, .bool b] :=
  ⟨rfl, fun _ => ⟨_, rfl, Nat.lt_succ_self _, World.news_of_block (cs := #[.int .i64 x, .int .i64 y, .int .i64 z, .bool b]) (t := 59) (fr := (0, 0)) (Blk.new w _ _)⟩⟩
theorem four_cell (x y z : Int) (b : Bool) : ∀ u ∈ [Value.int .i64 x, .int .i64 y, .int .i64 z, .bool b], u.oneCell' = true := by simp [Value.oneCell']
theorem radd_err (x : Nat) (t l : Int) (w : World) (hb : (taskB t && levB l) = false) :
    Calls Try.prog 12 #[.pointer (some ⟨x, 0, none⟩), .int .i64 t, .int .i64 l] w fun r w' => r = .returned (.int .i64 1) ∧ w = w' := by
  have C := Lib.hid (may_any t l)
  rw [hb] at C
  clear hb
  go_enter Try.func12, Try.ntmps12
  go_wp2_with (go_at_call 31; ((with_reducible refine (C.out _).mono ?_); rintro e w1 ⟨rfl, rfl⟩))
  go_ret
  exact ⟨rfl, rfl⟩
theorem radd_has (x : Nat) (R : Int) (l1 l2 : List One) (o : One) (S : Nat → Prop) (w : World) (l : Int) (h : RF w S x R (l1 ++ o :: l2)) (hno : ∀ y ∈ l1, y.t ≠ o.t) (hb : (taskB o.t && levB l) = true) :
    Calls Try.prog 12 #[.pointer (some ⟨x, 0, none⟩), .int .i64 o.t, .int .i64 l] w fun r w' => r = .returned (.int .i64 4) ∧ w = w' := by
  have C := Lib.hid (may_any o.t l)
  rw [hb] at C
  have CA := Lib.hid (at_in x R l1 l2 o S w h hno)
  generalize o.t = t at *
  generalize l1.length = k at *
  have k0 : decide ((0 : Int) ≤ (k : Int)) = true := by simp
  clear hb h hno
  go_enter Try.func12, Try.ntmps12
  go_wp2_with (first | (go_at_call 31; ((with_reducible refine (C.out _).mono ?_); rintro e w1 ⟨rfl, rfl⟩)) | (go_at_call 32; ((with_reducible refine CA.out.mono ?_); rintro e w1 ⟨rfl, rfl⟩)))
  go_ret
  exact ⟨rfl, rfl⟩
set_option maxHeartbeats 1000000 in
theorem radd_ok (x : Nat) (R : Int) (L : List One) (S : Nat → Prop) (w : World) (t l : Int) (h : RF w S x R L) (hno : hasR t L = false) (hb : (taskB t && levB l) = true) (hlen : L.length < 24) :
    Calls Try.prog 12 #[.pointer (some ⟨x, 0, none⟩), .int .i64 t, .int .i64 l] w fun r w' => r = .returned (.int .i64 0) ∧ Rm w S x R (L ++ [⟨t, l, 0, false⟩]) w' := by
  have C := Lib.hid (may_any t l)
  rw [hb] at C
  have CA := Lib.hid (at_out x R L S w t h hno)
  have H := Lib.hid h
  obtain ⟨v, h1, h2, h3, h4⟩ := h.ex
  obtain ⟨A, c, rfl, hc⟩ := h2.slice
  have hcell : w.cell? ⟨x, 1, none⟩ = some (.slice A L.length c) := h1.cell (o := 1) rfl
  have HF : Hid (∀ A1 c1 w1, w1.ownsRow 0 59 4 (.slice A1 (L.length + 1) c1) (L.length + 1) (flat L ++ [.int .i64 t, .int .i64 l, .int .i64 0, .bool false]) → (w.alloc (.cells #[.int .i64 t, .int .i64 l, .int .i64 0, .bool false] 59)).grownBy w1 (Value.slice A L.length c).ownBlock → ((Value.slice A1 (L.length + 1) c1).ownBlock = (Value.slice A L.length c).ownBlock ∨ (Value.slice A1 (L.length + 1) c1).ownBlock = some (w.alloc (.cells #[.int .i64 t, .int .i64 l, .int .i64 0, .bool false] 59)).heap.size) →
      w1.cell? ⟨x, 1, none⟩ = some (.slice A L.length c) ∧ w1.frozen? ⟨x, 1, none⟩ = false ∧ Rm w S x R (L ++ [⟨t, l, 0, false⟩]) (w1.setCell ⟨x, 1, none⟩ (.slice A1 (L.length + 1) c1))) := by
    intro A1 c1 w1 hown hgrow hat
    have hbS : But S w w1 := ((But.refl S w).alloc _).grown hgrow (fun k e => .inl ((h4 k).2 (.inr e)))
    have hbV : But (fun k => (Value.slice A L.length c).ownBlock = some k) w w1 := ((But.refl _ w).alloc _).grown hgrow (fun k e => .inl e)
    have hbk := h1.but hbV h3
    refine ⟨hbk.cell (o := 1) rfl, hbk.frozen 1, rf_fin h hbS ⟨_, hbk⟩ (v' := .slice A1 (L.length + 1) c1) ?_ ?_ (by simp; omega) rfl⟩
    · unfold Oi
      rw [List.length_append, flat_app]; exact hown
    · intro k e
      have hxl := h1.lt
      rcases hat with g | g
      · rw [g] at e
        exact ⟨.inl ((h4 k).2 (.inr e)), fun e2 => h3 (by rw [e, e2])⟩
      · rw [g] at e
        have : k = w.heap.size + 1 := by simpa using e.symm
        exact ⟨.inr (by omega), by omega⟩
  have ROW : Hid (∀ o, (w.alloc o).ownsRow 0 59 4 (.slice A L.length c) L.length (flat L)) := fun o => h2.but (S := No) ((But.refl _ _).alloc _) (fun _ _ f => f)
  obtain ⟨i0, hi0, hz0, hz1, hz2⟩ := info_parts info59
  have I0 : Hid (Try.prog.info? 59 = some i0 ∧ i0.zero = some (.agg #[.int .i64 0, .int .i64 0, .int .i64 0, .bool false]) ∧ i0.size = 4 ∧ i0.bytes = 32) := ⟨hi0, hz0, hz1, hz2⟩
  clear hi0 hz0 hz1 hz2 h h1 h2 h3 h4 hno hb
  generalize L.length = n at *
  go_enter Try.func12, Try.ntmps12
  go_wp2_with (first | (go_at_call 31; ((with_reducible refine (C.out _).mono ?_); rintro e w1 ⟨rfl, rfl⟩)) | (go_at_call 32; ((with_reducible refine CA.out.mono ?_); rintro e w1 ⟨rfl, rfl⟩)) | (at_builtin; refine wpList_append_sh _ rfl _ _ 52 rfl 59 i0 _ 4 32 Try.underlying52 I0.out.1 I0.out.2.1 I0.out.2.2.1 I0.out.2.2.2 rfl (by omega) (.slice A n c) n _ rfl (ROW.out _) (w.heap.size + 1) (some ⟨w.heap.size, 0, none⟩) 1 1 [.int .i64 t, .int .i64 l, .int .i64 0, .bool false] rfl (four_reads w t l 0 false) (four_cell t l 0 false) (by unfold maxLen; omega) (by omega) ?_; intro A1 c1 w1 hown hgrow hat; obtain ⟨hcx, hfx, hrm⟩ := HF.out A1 c1 w1 hown hgrow hat; have HRM := Lib.hid hrm; clear hown hgrow hat hrm))
  go_ret
  exact ⟨rfl, HRM.out⟩
/-- A row with one task told otherwise. -/
theorem set_end {w w' : World} {x g n c : Nat} {R : Int} {S : Nat → Prop} {L L' : List One} (h : RF w S x R L) (hv : ∃ v, Blk w x #[.int .i64 R, .slice (some ⟨g, 0, none⟩) n c] 54 ∧ v = Value.slice (some ⟨g, 0, none⟩) n c ∧ v.ownBlock ≠ some x ∧ ∀ k, S k ↔ k = x ∨ v.ownBlock = some k) (hb : But (Just g) w w') (ho : Oi w' (.slice (some ⟨g, 0, none⟩) n c) L') (hl : L'.length = L.length) : Rm w S x R L' w' := by
  obtain ⟨v, h1, rfl, h3, h4⟩ := hv
  have hg : (Value.slice (some ⟨g, 0, none⟩) n c).ownBlock = some g := rfl
  have hgx : x ≠ g := fun e => h3 (by rw [hg, e])
  refine ⟨S, ⟨⟨.slice (some ⟨g, 0, none⟩) n c, h1.but hb hgx, ho, h3, h4⟩, by rw [hl]; exact h.len⟩, hb.mono (fun k _ e => ?_), fun k hk => .inl hk⟩
  have : k = g := e
  exact (h4 k).2 (.inr (by rw [hg, this]))
theorem set_mid {l1 l2 : List One} {o y : One} : (l1 ++ o :: l2).set l1.length y = l1 ++ y :: l2 := by simp
set_option maxHeartbeats 1000000 in
theorem rfall_in (x : Nat) (R : Int) (l1 l2 : List One) (o : One) (S : Nat → Prop) (w : World) (h : RF w S x R (l1 ++ o :: l2)) (hno : ∀ y ∈ l1, y.t ≠ o.t) :
    Calls Try.prog 16 #[.pointer (some ⟨x, 0, none⟩), .int .i64 o.t] w fun r w' => r = .returned (.int .i64 0) ∧ Rm w S x R (l1 ++ { o with r := false } :: l2) w' := by
  have CA := Lib.hid (at_in x R l1 l2 o S w h hno)
  obtain ⟨v, h1, h2, h3, h4⟩ := h.ex
  obtain ⟨A, c, rfl, hc⟩ := h2.slice
  have hk : l1.length < (l1 ++ o :: l2).length := by simp
  obtain ⟨g, rfl, hg, c0, c1, c2, c3, hfz⟩ := h2.cells (k := l1.length) hk
  have hcell : w.cell? ⟨x, 1, none⟩ = some (.slice (some ⟨g, 0, none⟩) (l1 ++ o :: l2).length c) := h1.cell (o := 1) rfl
  have HE : Hid (Rm w S x R (l1 ++ { o with r := false } :: l2) (w.setCell ⟨g, l1.length * 4 + 3, none⟩ (.bool false))) := by
    have s1 := h2.setc (j := l1.length * 4 + 3) (u := .bool false) (k := l1.length) (x := { o with r := false }) (by have := flat_set3 false hk; rw [getD_mid] at this; exact this)
    rw [set_mid] at s1
    exact set_end h ⟨_, h1, rfl, h3, h4⟩ ((But.refl _ w).setCell (p := ⟨g, _, none⟩) (just g) _) s1 (by simp)
  have hfg := hfz (l1.length * 4 + 3)
  have hl := h.len
  clear h h1 h2 h3 h4 hno hfz c0 c1 c2
  generalize hn : (l1 ++ o :: l2).length = n at *
  clear hn
  generalize l1.length = k at *
  generalize o.t = t at *
  have kn : (k : Int) < (n : Int) := by omega
  have k0 : decide ((k : Int) < 0) = false := by simp
  go_enter Try.func16, Try.ntmps16
  go_wp2_with (go_at_call 32; ((with_reducible refine CA.out.mono ?_); rintro e w1 ⟨rfl, rfl⟩))
  go_ret
  exact ⟨rfl, HE.out⟩
theorem rfall_out (x : Nat) (R : Int) (L : List One) (S : Nat → Prop) (w : World) (t : Int) (h : RF w S x R L) (hno : hasR t L = false) :
    Calls Try.prog 16 #[.pointer (some ⟨x, 0, none⟩), .int .i64 t] w fun r w' => r = .returned (.int .i64 5) ∧ w = w' := by
  have CA := Lib.hid (at_out x R L S w t h hno)
  clear h hno
  go_enter Try.func16, Try.ntmps16
  go_wp2_with (go_at_call 32; ((with_reducible refine CA.out.mono ?_); rintro e w1 ⟨rfl, rfl⟩))
  go_ret
  exact ⟨rfl, rfl⟩
theorem rrem_out (x : Nat) (R : Int) (L : List One) (S : Nat → Prop) (w : World) (t : Int) (h : RF w S x R L) (hno : hasR t L = false) :
    Calls Try.prog 18 #[.pointer (some ⟨x, 0, none⟩), .int .i64 t] w fun r w' => r = .returned (.int .i64 5) ∧ w = w' := by
  have CA := Lib.hid (at_out x R L S w t h hno)
  clear h hno
  go_enter Try.func18, Try.ntmps18
  go_wp2_with (go_at_call 32; ((with_reducible refine CA.out.mono ?_); rintro e w1 ⟨rfl, rfl⟩))
  go_ret
  exact ⟨rfl, rfl⟩
/-- The answer of at, whichever it is. -/
theorem at_any (x : Nat) (R : Int) (L : List One) (S : Nat → Prop) (w : World) (a : Int) (h : RF w S x R L) :
    ∃ k : Int, (hasR a L = false → k = -1) ∧ Calls Try.prog 32 #[.pointer (some ⟨x, 0, none⟩), .int .i64 a] w fun r w' => r = .returned (.int .i64 k) ∧ w = w' := by
  cases hh : hasR a L with
  | false => exact ⟨-1, fun _ => rfl, at_out x R L S w a h hh⟩
  | true =>
    obtain ⟨l1, o, l2, rfl, rfl, h3⟩ := first_split hh
    exact ⟨l1.length, (fun h => by cases h), at_in x R l1 l2 o S w h h3⟩
theorem rraise_err (x : Nat) (R : Int) (L : List One) (S : Nat → Prop) (w : World) (t l : Int) (h : RF w S x R L) (hb : (taskB t && levB l) = false ∨ R = 2) :
    Calls Try.prog 14 #[.pointer (some ⟨x, 0, none⟩), .int .i64 t, .int .i64 l] w fun r w' => r = .returned (.int .i64 1) ∧ w = w' := by
  obtain ⟨k, _, ca⟩ := at_any x R L S w t h
  have CA := Lib.hid ca
  have C := Lib.hid (may_any t l)
  obtain ⟨v, h1, h2, h3, h4⟩ := h.ex
  have hpol : w.cell? ⟨x, 0, none⟩ = some (.int .i64 R) := h1.cell (o := 0) rfl
  clear ca h h1 h2 h3 h4
  cases hm : (taskB t && levB l) with
  | false =>
    rw [hm] at C
    clear hb hm
    go_enter Try.func14, Try.ntmps14
    go_wp2_with (first | (go_at_call 31; ((with_reducible refine (C.out _).mono ?_); rintro e w1 ⟨rfl, rfl⟩)) | (go_at_call 32; ((with_reducible refine CA.out.mono ?_); rintro e w1 ⟨rfl, rfl⟩)))
    go_ret
    exact ⟨rfl, rfl⟩
  | true =>
    rw [hm] at C
    have hr : R = 2 := by rcases hb with hb | hb
                          · rw [hm] at hb; cases hb
                          · exact hb
    subst hr
    clear hb hm
    go_enter Try.func14, Try.ntmps14
    go_wp2_with (first | (go_at_call 31; ((with_reducible refine (C.out _).mono ?_); rintro e w1 ⟨rfl, rfl⟩)) | (go_at_call 32; ((with_reducible refine CA.out.mono ?_); rintro e w1 ⟨rfl, rfl⟩)))
    go_ret
    exact ⟨rfl, rfl⟩
theorem rraise_out (x : Nat) (R : Int) (L : List One) (S : Nat → Prop) (w : World) (t l : Int) (h : RF w S x R L) (hm : (taskB t && levB l) = true) (hR : R ≠ 2) (hno : hasR t L = false) :
    Calls Try.prog 14 #[.pointer (some ⟨x, 0, none⟩), .int .i64 t, .int .i64 l] w fun r w' => r = .returned (.int .i64 5) ∧ w = w' := by
  have CA := Lib.hid (at_out x R L S w t h hno)
  have C := Lib.hid (may_any t l)
  rw [hm] at C
  obtain ⟨v, h1, h2, h3, h4⟩ := h.ex
  have hpol : w.cell? ⟨x, 0, none⟩ = some (.int .i64 R) := h1.cell (o := 0) rfl
  have er : (R == 2) = false := by simp [hR]
  clear h h1 h2 h3 h4 hm hR hno
  go_enter Try.func14, Try.ntmps14
  go_wp2_with (first | (go_at_call 31; ((with_reducible refine (C.out _).mono ?_); rintro e w1 ⟨rfl, rfl⟩)) | (go_at_call 32; ((with_reducible refine CA.out.mono ?_); rintro e w1 ⟨rfl, rfl⟩)))
  go_ret
  exact ⟨rfl, rfl⟩
set_option maxHeartbeats 1000000 in
theorem rraise_in (x : Nat) (R : Int) (l1 l2 : List One) (o : One) (S : Nat → Prop) (w : World) (l : Int) (h : RF w S x R (l1 ++ o :: l2)) (hno : ∀ y ∈ l1, y.t ≠ o.t) (hm : (taskB o.t && levB l) = true) (hR : R ≠ 2) :
    Calls Try.prog 14 #[.pointer (some ⟨x, 0, none⟩), .int .i64 o.t, .int .i64 l] w fun r w' => r = .returned (.int .i64 0) ∧ Rm w S x R (l1 ++ { o with up := l, r := true } :: l2) w' := by
  have CA := Lib.hid (at_in x R l1 l2 o S w h hno)
  have C := Lib.hid (may_any o.t l)
  rw [hm] at C
  obtain ⟨v, h1, h2, h3, h4⟩ := h.ex
  obtain ⟨A, c, rfl, hc⟩ := h2.slice
  have hk : l1.length < (l1 ++ o :: l2).length := by simp
  obtain ⟨g, rfl, hg, c0, c1, c2, c3, hfz⟩ := h2.cells (k := l1.length) hk
  have hcell : w.cell? ⟨x, 1, none⟩ = some (.slice (some ⟨g, 0, none⟩) (l1 ++ o :: l2).length c) := h1.cell (o := 1) rfl
  have hpol : w.cell? ⟨x, 0, none⟩ = some (.int .i64 R) := h1.cell (o := 0) rfl
  have er : (R == 2) = false := by simp [hR]
  have hgx : ¬ x = g := fun e => h3 (by rw [e]; rfl)
  have hgx2 : ¬ g = x := fun e => hgx e.symm
  have HE : Hid (Rm w S x R (l1 ++ { o with up := l, r := true } :: l2) ((w.setCell ⟨g, l1.length * 4 + 2, none⟩ (.int .i64 l)).setCell ⟨g, l1.length * 4 + 3, none⟩ (.bool true))) := by
    have s1 := h2.setc (j := l1.length * 4 + 2) (u := .int .i64 l) (k := l1.length) (x := { o with up := l }) (by have := flat_set2 l hk; rw [getD_mid] at this; exact this)
    rw [set_mid] at s1
    have hk2 : l1.length < (l1 ++ { o with up := l } :: l2).length := by simp
    have s2 := s1.setc (j := l1.length * 4 + 3) (u := .bool true) (k := l1.length) (x := { o with up := l, r := true }) (by have := flat_set3 true hk2; rw [getD_mid] at this; exact this)
    rw [set_mid] at s2
    exact set_end h ⟨_, h1, rfl, h3, h4⟩ (((But.refl _ w).setCell (p := ⟨g, _, none⟩) (just g) _).setCell (p := ⟨g, _, none⟩) (just g) _) s2 (by simp)
  have hfg := hfz (l1.length * 4 + 2)
  have hfg2 := hfz (l1.length * 4 + 3)
  have hl := h.len
  clear h h1 h2 h3 h4 hno hfz c0 c1 hm hR
  generalize hn : (l1 ++ o :: l2).length = n at *
  clear hn
  generalize l1.length = k at *
  generalize o.t = t at *
  have kn : (k : Int) < (n : Int) := by omega
  have k0 : decide ((k : Int) < 0) = false := by simp
  go_enter Try.func14, Try.ntmps14
  go_wp2_with (first | (go_at_call 31; ((with_reducible refine (C.out _).mono ?_); rintro e w1 ⟨rfl, rfl⟩)) | (go_at_call 32; ((with_reducible refine CA.out.mono ?_); rintro e w1 ⟨rfl, rfl⟩)))
  go_ret
  exact ⟨rfl, HE.out⟩
end Go.Proofs.Ytbfmoaojimimjaa
