/- The document's own locks: Ask, Free. -/
import Derived.Test.YtimkdcpghhkloaaR1
namespace Go.Proofs.Ytimkdcpghhkloaa
open Go.ChangeShapes Go.WideShapes Go.ChangeAt Go.RowKit Go.Deep
open lok
theorem slice_from {A : Option Addr} {n k c : Nat} (hk : k ≤ n) (W : World) : (Instr.slice 41 (.slice A n c) (some (.int .i64 (k : Int))) none none).run Try.prog W = .ok (.slice (if c = k then A else A.map (·.add (k * 1))) (n - k) (c - k)) W := by
  obtain ⟨i0, hi0, hi1, hi2, hi3⟩ := info_parts info3
  have he : Try.prog.elem 41 = 3 := by kernel_rfl
  have ht : Try.prog.underlying 41 = some (.slice (Try.prog.elem 41)) := by rw [he]; exact Try.underlying41
  rw [run_slice_l (P := Try.prog) W 41 A n c ht .i64 (k : Int) (by omega) (by omega), he]
  simp [sizeOf, typeInfo, hi0, sliced, hi2]
section
variable {w w' w2 : World} {x b n k : Nat} {v : Nat → Value} {q : Nat → List Int} {S : Nat → Prop}
/-- A row of the document's locks turned. -/
theorem RX.put (h : RX w x b n v q) (hk : k < n) {u : Value} {zs : List Int} (hb : But (fun j => (v k).ownBlock = some j) w w2) (ho : Ov w2 u zs) (hn : ∀ j, u.ownBlock = some j → (v k).ownBlock = some j ∨ w.heap.size ≤ j) (hok : LK n (upd q k zs)) :
    RX (w2.setCell ⟨b, k, none⟩ u) x b n (updv v k u) (upd q k zs) ∧ But (Ro b n v) w (w2.setCell ⟨b, k, none⟩ u) ∧ ∀ j, Ro b n (updv v k u) j → Ro b n v j ∨ w.heap.size ≤ j := by
  obtain ⟨z1, z2, z3⟩ := h.ror.put hk hb ho hn
  refine ⟨⟨h.blk.but z2 h.xo, z1, fun e => ?_, h.n8, hok⟩, z2, z3⟩
  rcases z3 x e with c | c
  · exact h.xo c
  · have := h.blk.lt; omega
theorem RX.app (h : RX w x b n v q) (hk : k < n) {t : Int} {A' : Option Addr} {c' : Nat}
    (ho : w2.ownsRow 0 3 1 (.slice A' ((q k).length + 1) c') ((q k).length + 1) ((q k).map (Value.int .i64) ++ [.int .i64 t])) (hg : (w.alloc (.cells #[.int .i64 t] 3)).grownBy w2 (v k).ownBlock)
    (hat : (Value.slice A' ((q k).length + 1) c').ownBlock = (v k).ownBlock ∨ (Value.slice A' ((q k).length + 1) c').ownBlock = some (w.alloc (.cells #[.int .i64 t] 3)).heap.size) (hok : LK n (upd q k (q k ++ [t]))) :
    RX (w2.setCell ⟨b, k, none⟩ (.slice A' ((q k).length + 1) c')) x b n (updv v k (.slice A' ((q k).length + 1) c')) (upd q k (q k ++ [t])) ∧ But (Ro b n v) w (w2.setCell ⟨b, k, none⟩ (.slice A' ((q k).length + 1) c')) ∧ ∀ j, Ro b n (updv v k (.slice A' ((q k).length + 1) c')) j → Ro b n v j ∨ w.heap.size ≤ j := by
  refine h.put hk (((But.refl _ w).alloc _).grown hg (fun k e => .inl e)) ?_ ?_ hok
  · unfold Ov; rw [List.length_append, List.map_append]; exact ho
  · intro j hj
    rcases hat with e | e
    · exact .inl (by rw [← e]; exact hj)
    · rw [hj] at e; cases e; exact .inr (by rw [size_alloc1]; omega)
theorem RX.xmv (h : RX w' x b n v q) {v0 : Nat → Value} (hS : ∀ k, S k ↔ k = x ∨ Ro b n v0 k) (hb : But (Ro b n v0) w w') (hn : ∀ j, Ro b n v j → Ro b n v0 j ∨ w.heap.size ≤ j) : XMv w S x n q w' :=
  ⟨fun k => k = x ∨ Ro b n v k, ⟨b, v, h, fun _ => Iff.rfl⟩, hb.mono (fun k _ hk => (hS k).2 (.inr hk)), fun k hk => by
    rcases hk with rfl | hk
    · exact .inl ((hS _).2 (.inl rfl))
    · exact (hn k hk).imp (fun c => (hS k).2 (.inr c)) id⟩
end
theorem rask_bad (x n : Nat) (q : Nat → List Int) (S : Nat → Prop) (w : World) (res t : Int) (h : XP w S x n q) (hb : resB n res = false ∨ taskB t = false) :
    Calls Try.prog 11 #[.pointer (some ⟨x, 0, none⟩), .int .i64 res, .int .i64 t] w fun r w' => r = .returned (.tuple #[.int .i64 0, .int .i64 1]) ∧ But No w w' := by
  obtain ⟨b, v, hx, hS⟩ := h
  have h8 := hx.n8
  have c0 := hx.fld
  have hb' : res < 0 ∨ (n : Int) ≤ res ∨ t < 0 ∨ 24 ≤ t := by
    rcases hb with e | e
    · have := resB_not.1 e; omega
    · have := taskB_not.1 e; omega
  clear hx hS hb
  by_cases e1 : res < 0
  · go_enter Try.func11, Try.ntmps11
    go_wp2
    go_ret2
    exact ⟨rfl, But.refl _ _⟩
  · by_cases e2 : (n : Int) ≤ res
    · have f1 : decide (res < (n : Int)) = false := by simp; omega
      go_enter Try.func11, Try.ntmps11
      go_wp2
      go_ret2
      exact ⟨rfl, But.refl _ _⟩
    · by_cases e3 : t < 0
      · have f1 : res < (n : Int) := by omega
        go_enter Try.func11, Try.ntmps11
        go_wp2
        go_ret2
        exact ⟨rfl, But.refl _ _⟩
      · have f1 : res < (n : Int) := by omega
        have e4 : 24 ≤ t := by omega
        have f2 : decide (t < 24) = false := by simp; omega
        have f3 : decide (24 ≤ t) = true := by simp; omega
        go_enter Try.func11, Try.ntmps11
        go_wp2
        go_ret2
        exact ⟨rfl, But.refl _ _⟩
theorem rask_twice (x n : Nat) (q : Nat → List Int) (S : Nat → Prop) (w : World) (res t : Int) (h : XP w S x n q) (hr : resB n res = true) (ht : taskB t = true) (hw : 0 ≤ wantV n q t) :
    Calls Try.prog 11 #[.pointer (some ⟨x, 0, none⟩), .int .i64 res, .int .i64 t] w fun r w' => r = .returned (.tuple #[.int .i64 0, .int .i64 4]) ∧ But No w w' := by
  have CW := Lib.hid (fun W (hb : But No w W) => rwants_any x n q S W t (h.no hb))
  obtain ⟨b, v, hx, hS⟩ := h
  have h8 := hx.n8
  have c0 := hx.fld
  obtain ⟨r0, r1⟩ := resB_iff.1 hr
  obtain ⟨t0, t1⟩ := taskB_iff.1 ht
  generalize wantV n q t = z at CW hw
  have f1 : decide ((n : Int) ≤ res) = false := by simp; omega
  have f2 : decide (24 ≤ t) = false := by simp; omega
  have f3 : decide (0 ≤ z) = true := by simpa using hw
  clear hx hS hr ht
  go_enter Try.func11, Try.ntmps11
  go_wp2_with (go_at_call 17; ((with_reducible refine (CW.out _ (But.refl _ _)).mono ?_); rintro e w1 ⟨rfl, hb⟩; have HB := Lib.hid hb; clear hb))
  go_ret2
  exact ⟨rfl, HB.out⟩
set_option maxHeartbeats 2000000 in
theorem rask_ok (x n : Nat) (q : Nat → List Int) (S : Nat → Prop) (w : World) (k : Nat) (t : Int) (h : XP w S x n q) (he : askE n q k t = 0) :
    Calls Try.prog 11 #[.pointer (some ⟨x, 0, none⟩), .int .i64 k, .int .i64 t] w fun r w' => r = .returned (.tuple #[.int .i64 (askA n q k t), .int .i64 0]) ∧ XMv w S x n (askQ n q k t) w' := by
  obtain ⟨hr, ht, hw⟩ : resB n (k : Int) = true ∧ taskB t = true ∧ ¬ 0 ≤ wantV n q t := by
    rcases lok.ask_cases n q k t with ⟨_, e⟩ | ⟨_, _, _, e⟩ | ⟨h1, h2, h3, _⟩
    · omega
    · omega
    · exact ⟨h1, h2, h3⟩
  have CW := Lib.hid (fun W (hb : But No w W) => rwants_any x n q S W t (h.no hb))
  obtain ⟨b, v, hx, hS⟩ := h
  have h8 := hx.n8
  obtain ⟨r0, r1⟩ := resB_iff.1 hr
  obtain ⟨t0, t1⟩ := taskB_iff.1 ht
  have hk : k < n := by omega
  obtain ⟨A, c, hv, hc⟩ := hx.ror.slice hk
  have hl := hx.ok.len k
  have eQ : askQ n q k t = upd q k (q k ++ [t]) := by unfold askQ; rw [if_pos he]; rfl
  have eA : askA n q k t = (q k).length := by unfold askA; rw [if_pos he]; rfl
  have hok := hx.ok.ask k t
  rw [eQ] at hok ⊢
  rw [eA]
  have c0 := hx.fld
  have FLD : Hid (∀ W, But No w W → W.cell? ⟨x, 0, none⟩ = some (.slice (some ⟨b, 0, none⟩) n n) ∧ W.cell? ⟨b, k, none⟩ = some (.slice A (q k).length c)) := fun W hb => ⟨(hx.no hb).fld, by rw [← hv]; exact (hx.no hb).ror.cell hk⟩
  have ROW : Hid (∀ W, But No w W → W.ownsRow 0 3 1 (.slice A (q k).length c) (q k).length ((q k).map (Value.int .i64))) := fun W hb => by rw [← hv]; exact (hx.no hb).ror.own k hk
  have AFT : Hid (∀ (W W2 : World) (A' : Option Addr) (c' : Nat), But No w W → W2.ownsRow 0 3 1 (.slice A' ((q k).length + 1) c') ((q k).length + 1) ((q k).map (Value.int .i64) ++ [.int .i64 t]) → (W.alloc (.cells #[.int .i64 t] 3)).grownBy W2 (Value.slice A (q k).length c).ownBlock → ((Value.slice A' ((q k).length + 1) c').ownBlock = (Value.slice A (q k).length c).ownBlock ∨ (Value.slice A' ((q k).length + 1) c').ownBlock = some (W.alloc (.cells #[.int .i64 t] 3)).heap.size) →
      (W2.cell? ⟨x, 0, none⟩ = some (.slice (some ⟨b, 0, none⟩) n n) ∧ W2.cell? ⟨b, k, none⟩ = some (.slice A (q k).length c) ∧ W2.frozen? ⟨b, k, none⟩ = false) ∧ ((W2.setCell ⟨b, k, none⟩ (.slice A' ((q k).length + 1) c')).cell? ⟨x, 0, none⟩ = some (.slice (some ⟨b, 0, none⟩) n n) ∧ (W2.setCell ⟨b, k, none⟩ (.slice A' ((q k).length + 1) c')).cell? ⟨b, k, none⟩ = some (.slice A' ((q k).length + 1) c')) ∧
      XMv w S x n (upd q k (q k ++ [t])) (W2.setCell ⟨b, k, none⟩ (.slice A' ((q k).length + 1) c'))) := by
    intro W W2 A' c' hb ho hg hat
    rw [← hv] at hg hat
    have x1 := hx.no hb
    obtain ⟨z1, z2, z3⟩ := x1.app hk ho hg hat hok
    have hbb : But (fun j => (v k).ownBlock = some j) W W2 := ((But.refl _ W).alloc _).grown hg (fun k e => .inl e)
    have hro := x1.ror.row.but hbb (fun e => x1.ror.nb k b hk e rfl)
    have hbl := x1.blk.but hbb (fun e => x1.xo (.inr ⟨k, hk, e⟩))
    have hs := hb.size
    refine ⟨⟨hbl.cell (o := 0) rfl, by rw [← hv]; exact hro.cell hk, Vals.frozen hro k⟩, ⟨z1.fld, ?_⟩, z1.xmv hS ((hb.no (S := Ro b n v)).andThen z2 (fun k hk => .inl hk)) (fun j hj => (z3 j hj).imp id (fun e => by omega))⟩
    have := z1.ror.cell hk
    unfold updv at this
    rw [if_pos rfl] at this
    exact this
  obtain ⟨i3, hi0, hz0, hz1, hz2⟩ := info_parts info3
  have I3 : Hid (Try.prog.info? 3 = some i3 ∧ i3.zero = some (.int .i64 0) ∧ i3.size = 1 ∧ i3.bytes = 8) := ⟨hi0, hz0, hz1, hz2⟩
  have hk' : (k : Int) < (n : Int) := by omega
  have f1 : decide ((n : Int) ≤ (k : Int)) = false := by simp; omega
  have f2 : decide (24 ≤ t) = false := by simp; omega
  have ew : wantV n q t = -1 := by rcases want_any n q t with ⟨r, e, _⟩ | ⟨e, _⟩ <;> omega
  rw [ew] at CW
  have f3 : decide ((0 : Int) ≤ -1) = false := by decide
  generalize hm : (q k).length = m at *
  clear hx hS hr ht hw hv hc he eQ eA hok ew hm hi0 hz0 hz1 hz2 r0 r1
  go_enter Try.func11, Try.ntmps11
  go_wp2_with (go_at_call 17; ((with_reducible refine (CW.out _ (But.refl _ _)).mono ?_); rintro e w1 ⟨rfl, hb⟩; have HB := Lib.hid hb; clear hb))
  refine wp_region_noPanic ?_
  refine wp_region_held_drew (S := (fun w' => w'.cell? ⟨x, 0, none⟩ = some (.slice (some ⟨b, 0, none⟩) n n))) (by kernel_rfl) ((FLD.out _ HB.out.drew).1) (fun hHeld => ?_)
  refine wpAnyH_take (i := 0) (oi := { dst := some 33, op := Op.move (Operand.tmp 0), type := 28, pos := "ref.go:41", after := #[], guard := none }) (v := ?v1001) rfl (by kernel_rfl) (by kernel_rfl) (by kernel_rfl) (fun _ _ _ h => h) (Or.inl ⟨by rfl, ?hy1001⟩) (by assumption) ?rest1001
  case hy1001 => (intro w hSw; (try dsimp only at hSw); go_simp <;> with_reducible rfl)
  try simp only [Act.put, List.setIfInBounds_toArray, List.set_cons_zero, List.set_cons_succ]
  refine wpAnyH_take (i := 1) (oi := { dst := some 34, op := Op.nilCheck (Operand.tmp 33), type := 0, pos := "ref.go:41", after := #[{ on := 0, ground := Ground.data }], guard := none }) (v := ?v1002) rfl (by kernel_rfl) (by kernel_rfl) (by kernel_rfl) (fun _ _ _ h => h) (Or.inl ⟨by rfl, ?hy1002⟩) (by assumption) ?rest1002
  case hy1002 => (intro w hSw; (try dsimp only at hSw); go_simp <;> with_reducible rfl)
  try simp only [Act.put, List.setIfInBounds_toArray, List.set_cons_zero, List.set_cons_succ]
  refine wpAnyH_take (i := 2) (oi := { dst := some 35, op := Op.fieldAddr 54 (Operand.tmp 34) 0, type := 0, pos := "ref.go:41", after := #[{ on := 1, ground := Ground.data }], guard := none }) (v := ?v1003) rfl (by kernel_rfl) (by kernel_rfl) (by kernel_rfl) (fun _ _ _ h => h) (Or.inl ⟨by rfl, ?hy1003⟩) (by assumption) ?rest1003
  case hy1003 => (intro w hSw; (try dsimp only at hSw); go_simp <;> with_reducible rfl)
  try simp only [Act.put, List.setIfInBounds_toArray, List.set_cons_zero, List.set_cons_succ]
  refine wpAnyH_take (i := 3) (oi := { dst := some 36, op := Op.load 44 (Operand.tmp 35), type := 44, pos := "ref.go:41", after := #[{ on := 2, ground := Ground.data }], guard := none }) (v := ?v1004) rfl (by kernel_rfl) (by kernel_rfl) (by kernel_rfl) (fun _ _ _ h => h) (Or.inl ⟨by rfl, ?hy1004⟩) (by assumption) ?rest1004
  case hy1004 => (intro w hSw; (try dsimp only at hSw); go_simp <;> with_reducible rfl)
  try simp only [Act.put, List.setIfInBounds_toArray, List.set_cons_zero, List.set_cons_succ]
  refine wpAnyH_take (i := 4) (oi := { dst := some 37, op := Op.move (Operand.tmp 1), type := 3, pos := "ref.go:41", after := #[], guard := none }) (v := ?v1005) rfl (by kernel_rfl) (by kernel_rfl) (by kernel_rfl) (fun _ _ _ h => h) (Or.inl ⟨by rfl, ?hy1005⟩) (by assumption) ?rest1005
  case hy1005 => (intro w hSw; (try dsimp only at hSw); go_simp <;> with_reducible rfl)
  try simp only [Act.put, List.setIfInBounds_toArray, List.set_cons_zero, List.set_cons_succ]
  refine wpAnyH_take (i := 5) (oi := { dst := some 38, op := Op.move (Operand.tmp 0), type := 28, pos := "ref.go:41", after := #[], guard := none }) (v := ?v1006) rfl (by kernel_rfl) (by kernel_rfl) (by kernel_rfl) (fun _ _ _ h => h) (Or.inl ⟨by rfl, ?hy1006⟩) (by assumption) ?rest1006
  case hy1006 => (intro w hSw; (try dsimp only at hSw); go_simp <;> with_reducible rfl)
  try simp only [Act.put, List.setIfInBounds_toArray, List.set_cons_zero, List.set_cons_succ]
  refine wpAnyH_take (i := 6) (oi := { dst := some 39, op := Op.nilCheck (Operand.tmp 38), type := 0, pos := "ref.go:41", after := #[{ on := 5, ground := Ground.data }], guard := none }) (v := ?v1007) rfl (by kernel_rfl) (by kernel_rfl) (by kernel_rfl) (fun _ _ _ h => h) (Or.inl ⟨by rfl, ?hy1007⟩) (by assumption) ?rest1007
  case hy1007 => (intro w hSw; (try dsimp only at hSw); go_simp <;> with_reducible rfl)
  try simp only [Act.put, List.setIfInBounds_toArray, List.set_cons_zero, List.set_cons_succ]
  refine wpAnyH_take (i := 7) (oi := { dst := some 40, op := Op.fieldAddr 54 (Operand.tmp 39) 0, type := 0, pos := "ref.go:41", after := #[{ on := 6, ground := Ground.data }], guard := none }) (v := ?v1008) rfl (by kernel_rfl) (by kernel_rfl) (by kernel_rfl) (fun _ _ _ h => h) (Or.inl ⟨by rfl, ?hy1008⟩) (by assumption) ?rest1008
  case hy1008 => (intro w hSw; (try dsimp only at hSw); go_simp <;> with_reducible rfl)
  try simp only [Act.put, List.setIfInBounds_toArray, List.set_cons_zero, List.set_cons_succ]
  refine wpAnyH_take (i := 8) (oi := { dst := some 41, op := Op.load 44 (Operand.tmp 40), type := 44, pos := "ref.go:41", after := #[{ on := 7, ground := Ground.data }], guard := none }) (v := ?v1009) rfl (by kernel_rfl) (by kernel_rfl) (by kernel_rfl) (fun _ _ _ h => h) (Or.inl ⟨by rfl, ?hy1009⟩) (by assumption) ?rest1009
  case hy1009 => (intro w hSw; (try dsimp only at hSw); go_simp <;> with_reducible rfl)
  try simp only [Act.put, List.setIfInBounds_toArray, List.set_cons_zero, List.set_cons_succ]
  refine wpAnyH_take (i := 9) (oi := { dst := some 42, op := Op.move (Operand.tmp 1), type := 3, pos := "ref.go:41", after := #[], guard := none }) (v := ?v1010) rfl (by kernel_rfl) (by kernel_rfl) (by kernel_rfl) (fun _ _ _ h => h) (Or.inl ⟨by rfl, ?hy1010⟩) (by assumption) ?rest1010
  case hy1010 => (intro w hSw; (try dsimp only at hSw); go_simp <;> with_reducible rfl)
  try simp only [Act.put, List.setIfInBounds_toArray, List.set_cons_zero, List.set_cons_succ]
  refine wpAnyH_take (i := 10) (oi := { dst := some 43, op := Op.indexAddr 44 (Operand.tmp 41) (Operand.tmp 42), type := 0, pos := "ref.go:41", after := #[{ on := 8, ground := Ground.data }, { on := 9, ground := Ground.data }], guard := none }) (v := ?v1011) rfl (by kernel_rfl) (by kernel_rfl) (by kernel_rfl) (fun _ _ _ h => h) (Or.inl ⟨by rfl, ?hy1011⟩) (by assumption) ?rest1011
  case hy1011 => (intro w hSw; (try dsimp only at hSw); go_simp <;> with_reducible rfl)
  try simp only [Act.put, List.setIfInBounds_toArray, List.set_cons_zero, List.set_cons_succ]
  refine wpAnyH_take (i := 12) (oi := { dst := some 45, op := Op.move (Operand.tmp 2), type := 3, pos := "ref.go:41", after := #[], guard := none }) (v := ?v1012) rfl (by kernel_rfl) (by kernel_rfl) (by kernel_rfl) (fun _ _ _ h => h) (Or.inl ⟨by rfl, ?hy1012⟩) (by assumption) ?rest1012
  case hy1012 => (intro w hSw; (try dsimp only at hSw); go_simp <;> with_reducible rfl)
  try simp only [Act.put, List.setIfInBounds_toArray, List.set_cons_zero, List.set_cons_succ]
  have d1 := (FLD.out _ HB.out.drew).2
  have d2 := (FLD.out _ ((HB.out.alloc (.cells #[.int .i64 t] 3)).drew)).2
  refine wpAnyH_ready (rs := [11, 13]) (by kernel_rfl) (by simp) ?_
  refine AllReadyH.cons (o := { dst := some 44, op := Op.load 41 (Operand.tmp 43), type := 41, pos := "ref.go:41", after := #[{ on := 10, ground := Ground.data }], guard := none }) rfl (fun K hK => ?_) ?_
  · skip
    go_simp
    refine hK.out _ _ ((FLD.out _ HB.out.drew).1) (fun hHeld => ?_)
    clear hK K
    try simp only [Act.put, List.setIfInBounds_toArray, List.set_cons_zero, List.set_cons_succ]
    refine wpAnyH_ready (rs := [13]) (by kernel_rfl) (by simp) ?_
    refine AllReadyH.cons (o := { dst := some 46, op := Op.buildSlice 41 1 #[(0, Operand.tmp 45)], type := 41, pos := "ref.go:41", after := #[{ on := 12, ground := Ground.data }], guard := none }) rfl (fun K hK => ?_) AllReadyH.nil
    go_simp
    refine hK.out _ _ ((FLD.out _ (HB.out.drew.alloc _)).1) (fun hHeld => ?_)
    clear hK K
    try simp only [Act.put, List.setIfInBounds_toArray, List.set_cons_zero, List.set_cons_succ]
    refine wpAnyH_ready (rs := [14]) (by kernel_rfl) (by simp) ?_
    refine AllReadyH.cons (o := { dst := some 47, op := Op.call { callee := Callee.builtin Builtin.append, args := #[Operand.tmp 44, Operand.tmp 46], argTypes := #[41, 41] }, type := 41, pos := "ref.go:41", after := #[{ on := 11, ground := Ground.data }, { on := 13, ground := Ground.data }], guard := none }) rfl (fun K hK => ?_) AllReadyH.nil
    refine step_append_sh rfl (.tmp 44) (.tmp 46) 41 rfl 3 i3 _ 1 8 Try.underlying41 I3.out.1 I3.out.2.1 I3.out.2.2.1 I3.out.2.2.2 rfl (by omega) (.slice A m c) m _ rfl (ROW.out _ (HB.out.drew.alloc _)) _ _ 1 1 [.int .i64 t] rfl (one_reads _ t) (one_cell t) (by unfold maxLen; omega) (by omega) ?_
    intro A3 c3 w3 hown hgrow hat
    have HP := Lib.hid (AFT.out _ w3 A3 c3 HB.out.drew hown.out hgrow.out hat.out)
    have hcell := HP.out.1.2.1
    have hfz := HP.out.1.2.2
    clear hown hgrow hat d1 d2
    skip
    refine hK.out _ _ (HP.out.1.1) (fun hHeld => ?_)
    clear hK K
    try simp only [Act.put, List.setIfInBounds_toArray, List.set_cons_zero, List.set_cons_succ]
    refine wpAnyH_take (i := 15) (oi := { dst := some 48, op := Op.indexAddr 44 (Operand.tmp 36) (Operand.tmp 37), type := 0, pos := "ref.go:41", after := #[{ on := 3, ground := Ground.data }, { on := 4, ground := Ground.data }, { on := 0, ground := Ground.phase }, { on := 1, ground := Ground.phase }, { on := 2, ground := Ground.phase }, { on := 3, ground := Ground.phase }, { on := 4, ground := Ground.phase }, { on := 5, ground := Ground.phase }, { on := 6, ground := Ground.phase }, { on := 7, ground := Ground.phase }, { on := 8, ground := Ground.phase }, { on := 9, ground := Ground.phase }, { on := 10, ground := Ground.phase }, { on := 11, ground := Ground.phase }, { on := 12, ground := Ground.phase }, { on := 13, ground := Ground.phase }, { on := 14, ground := Ground.phase }], guard := none }) (v := ?v1013) rfl (by kernel_rfl) (by kernel_rfl) (by kernel_rfl) (fun _ _ _ h => h) (Or.inl ⟨by rfl, ?hy1013⟩) (by assumption) ?rest1013
    case hy1013 => (intro w hSw; (try dsimp only at hSw); go_simp <;> with_reducible rfl)
    try simp only [Act.put, List.setIfInBounds_toArray, List.set_cons_zero, List.set_cons_succ]
    refine wpAnyH_ready (rs := [16]) (by kernel_rfl) (by simp) ?_
    refine AllReadyH.cons (o := { dst := none, op := Op.store 41 (Operand.tmp 48) (Operand.tmp 47), type := 0, pos := "ref.go:41", after := #[{ on := 15, ground := Ground.data }, { on := 14, ground := Ground.data }, { on := 14, ground := Ground.chain }, { on := 0, ground := Ground.phase }, { on := 1, ground := Ground.phase }, { on := 2, ground := Ground.phase }, { on := 3, ground := Ground.phase }, { on := 4, ground := Ground.phase }, { on := 5, ground := Ground.phase }, { on := 6, ground := Ground.phase }, { on := 7, ground := Ground.phase }, { on := 8, ground := Ground.phase }, { on := 9, ground := Ground.phase }, { on := 10, ground := Ground.phase }, { on := 11, ground := Ground.phase }, { on := 12, ground := Ground.phase }, { on := 13, ground := Ground.phase }, { on := 14, ground := Ground.phase }], guard := none }) rfl (fun K hK => ?_) AllReadyH.nil
    go_simp
    refine hK.out _ _ (HP.out.2.1.1) (fun hHeld => ?_)
    clear hK K
    try simp only [Act.put, List.setIfInBounds_toArray, List.set_cons_zero, List.set_cons_succ]
    refine wpAnyH_done (by kernel_rfl) ?_ _
    refine NoPanic.normal ?_
    clear hcell hfz
    have d3 := HP.out.2.1.1
    have d4 := HP.out.2.1.2
    have e9 : ((m + 1 : Nat) : Int) - 1 = (m : Int) := by omega
    go_wp2
    go_ret2
    exact ⟨by first | rfl | (rw [e9]; rfl) | (simp), HP.out.2.2⟩
  · skip
    refine AllReadyH.cons (o := { dst := some 46, op := Op.buildSlice 41 1 #[(0, Operand.tmp 45)], type := 41, pos := "ref.go:41", after := #[{ on := 12, ground := Ground.data }], guard := none }) rfl (fun K hK => ?_) AllReadyH.nil
    go_simp
    refine hK.out _ _ ((FLD.out _ (HB.out.drew.alloc _)).1) (fun hHeld => ?_)
    clear hK K
    try simp only [Act.put, List.setIfInBounds_toArray, List.set_cons_zero, List.set_cons_succ]
    refine wpAnyH_ready (rs := [11]) (by kernel_rfl) (by simp) ?_
    refine AllReadyH.cons (o := { dst := some 44, op := Op.load 41 (Operand.tmp 43), type := 41, pos := "ref.go:41", after := #[{ on := 10, ground := Ground.data }], guard := none }) rfl (fun K hK => ?_) AllReadyH.nil
    go_simp
    refine hK.out _ _ ((FLD.out _ (HB.out.drew.alloc _)).1) (fun hHeld => ?_)
    clear hK K
    try simp only [Act.put, List.setIfInBounds_toArray, List.set_cons_zero, List.set_cons_succ]
    refine wpAnyH_ready (rs := [14]) (by kernel_rfl) (by simp) ?_
    refine AllReadyH.cons (o := { dst := some 47, op := Op.call { callee := Callee.builtin Builtin.append, args := #[Operand.tmp 44, Operand.tmp 46], argTypes := #[41, 41] }, type := 41, pos := "ref.go:41", after := #[{ on := 11, ground := Ground.data }, { on := 13, ground := Ground.data }], guard := none }) rfl (fun K hK => ?_) AllReadyH.nil
    refine step_append_sh rfl (.tmp 44) (.tmp 46) 41 rfl 3 i3 _ 1 8 Try.underlying41 I3.out.1 I3.out.2.1 I3.out.2.2.1 I3.out.2.2.2 rfl (by omega) (.slice A m c) m _ rfl (ROW.out _ (HB.out.drew.alloc _)) _ _ 1 1 [.int .i64 t] rfl (one_reads _ t) (one_cell t) (by unfold maxLen; omega) (by omega) ?_
    intro A3 c3 w3 hown hgrow hat
    have HP := Lib.hid (AFT.out _ w3 A3 c3 HB.out.drew hown.out hgrow.out hat.out)
    have hcell := HP.out.1.2.1
    have hfz := HP.out.1.2.2
    clear hown hgrow hat d1 d2
    skip
    refine hK.out _ _ (HP.out.1.1) (fun hHeld => ?_)
    clear hK K
    try simp only [Act.put, List.setIfInBounds_toArray, List.set_cons_zero, List.set_cons_succ]
    refine wpAnyH_take (i := 15) (oi := { dst := some 48, op := Op.indexAddr 44 (Operand.tmp 36) (Operand.tmp 37), type := 0, pos := "ref.go:41", after := #[{ on := 3, ground := Ground.data }, { on := 4, ground := Ground.data }, { on := 0, ground := Ground.phase }, { on := 1, ground := Ground.phase }, { on := 2, ground := Ground.phase }, { on := 3, ground := Ground.phase }, { on := 4, ground := Ground.phase }, { on := 5, ground := Ground.phase }, { on := 6, ground := Ground.phase }, { on := 7, ground := Ground.phase }, { on := 8, ground := Ground.phase }, { on := 9, ground := Ground.phase }, { on := 10, ground := Ground.phase }, { on := 11, ground := Ground.phase }, { on := 12, ground := Ground.phase }, { on := 13, ground := Ground.phase }, { on := 14, ground := Ground.phase }], guard := none }) (v := ?v1014) rfl (by kernel_rfl) (by kernel_rfl) (by kernel_rfl) (fun _ _ _ h => h) (Or.inl ⟨by rfl, ?hy1014⟩) (by assumption) ?rest1014
    case hy1014 => (intro w hSw; (try dsimp only at hSw); go_simp <;> with_reducible rfl)
    try simp only [Act.put, List.setIfInBounds_toArray, List.set_cons_zero, List.set_cons_succ]
    refine wpAnyH_ready (rs := [16]) (by kernel_rfl) (by simp) ?_
    refine AllReadyH.cons (o := { dst := none, op := Op.store 41 (Operand.tmp 48) (Operand.tmp 47), type := 0, pos := "ref.go:41", after := #[{ on := 15, ground := Ground.data }, { on := 14, ground := Ground.data }, { on := 14, ground := Ground.chain }, { on := 0, ground := Ground.phase }, { on := 1, ground := Ground.phase }, { on := 2, ground := Ground.phase }, { on := 3, ground := Ground.phase }, { on := 4, ground := Ground.phase }, { on := 5, ground := Ground.phase }, { on := 6, ground := Ground.phase }, { on := 7, ground := Ground.phase }, { on := 8, ground := Ground.phase }, { on := 9, ground := Ground.phase }, { on := 10, ground := Ground.phase }, { on := 11, ground := Ground.phase }, { on := 12, ground := Ground.phase }, { on := 13, ground := Ground.phase }, { on := 14, ground := Ground.phase }], guard := none }) rfl (fun K hK => ?_) AllReadyH.nil
    go_simp
    refine hK.out _ _ (HP.out.2.1.1) (fun hHeld => ?_)
    clear hK K
    try simp only [Act.put, List.setIfInBounds_toArray, List.set_cons_zero, List.set_cons_succ]
    refine wpAnyH_done (by kernel_rfl) ?_ _
    refine NoPanic.normal ?_
    clear hcell hfz
    have d3 := HP.out.2.1.1
    have d4 := HP.out.2.1.2
    have e9 : ((m + 1 : Nat) : Int) - 1 = (m : Int) := by omega
    go_wp2
    go_ret2
    exact ⟨by first | rfl | (rw [e9]; rfl) | (simp), HP.out.2.2⟩
theorem rfree_not (x n : Nat) (q : Nat → List Int) (S : Nat → Prop) (w : World) (t : Int) (h : XP w S x n q) (hh : hasV n q t = false) :
    Calls Try.prog 13 #[.pointer (some ⟨x, 0, none⟩), .int .i64 t] w fun r w' => r = .returned (.tuple #[.int .i64 0, .int .i64 5]) ∧ But No w w' := by
  have C1 := Lib.hid (fun W (hb : But No w W) => rhas_any x n q S W t (h.no hb))
  clear h
  go_enter Try.func13, Try.ntmps13
  go_wp2_with (go_at_call 19; ((with_reducible refine (C1.out _ (But.refl _ _)).mono ?_); rintro e w1 ⟨rfl, hz⟩; rw [hh]; have HZ := Lib.hid hz; clear hz))
  go_ret2
  exact ⟨rfl, HZ.out⟩
set_option maxHeartbeats 2000000 in
theorem rfree_ok (x n : Nat) (q : Nat → List Int) (S : Nat → Prop) (w : World) (t : Int) (h : XP w S x n q) (hh : hasV n q t = true) :
    Calls Try.prog 13 #[.pointer (some ⟨x, 0, none⟩), .int .i64 t] w fun r w' => r = .returned (.tuple #[.int .i64 (freA n q t), .int .i64 0]) ∧ XMv w S x n (freQ n q t) w' := by
  have C1 := Lib.hid (fun W (hb : But No w W) => rhas_any x n q S W t (h.no hb))
  rw [hh] at C1
  have C2 := Lib.hid (fun W (hb : But No w W) => rwants_any x n q S W t (h.no hb))
  obtain ⟨b, v, hx, hS⟩ := h
  have h8 := hx.n8
  have hlk := hx.ok.free t
  obtain ⟨k, l, hk, hq, hw, hfA, hfQ⟩ : ∃ (k : Nat) (l : List Int), k < n ∧ q k = t :: l ∧ wantV n q t = k ∧ freA n q t = hd l ∧ freQ n q t = upd q k l := by
    rcases has_cases hx.ok t with ⟨r, l, hr, hq, hw, _, _⟩ | ⟨e, _⟩
    · exact ⟨r, l, hr, hq, hw, by unfold freA; rw [if_pos hh, hw]; simp [hq], by unfold freQ; rw [if_pos hh, hw]; simp [hq]⟩
    · rw [hh] at e; cases e
  rw [hw] at C2
  rw [hfQ] at hlk ⊢
  rw [hfA]
  have CH := Lib.hid (fun W S' (hb : XP W S' x n (upd q k l)) => rholder_any x n (upd q k l) S' W k hb)
  have eH : holdV n (upd q k l) k = hd l := by unfold holdV; rw [qi_nat hk, upd_same]
  rw [eH] at CH
  obtain ⟨A, c, hv, hc⟩ := hx.ror.slice hk
  have hl := hx.ok.len k
  have hml : (q k).length = l.length + 1 := by rw [hq]; rfl
  have FLD : Hid (∀ W, But No w W → W.cell? ⟨x, 0, none⟩ = some (.slice (some ⟨b, 0, none⟩) n n) ∧ W.cell? ⟨b, k, none⟩ = some (.slice A (l.length + 1) c)) := fun W hb => ⟨(hx.no hb).fld, by rw [← hml, ← hv]; exact (hx.no hb).ror.cell hk⟩
  obtain ⟨A1, hA1⟩ : ∃ A1, (if c = 1 then A else A.map (·.add (1 * 1))) = A1 := ⟨_, rfl⟩
  have SL : ∀ W, (Instr.slice 41 (.slice A (l.length + 1) c) (some (.int .i64 1)) none none).run Try.prog W = .ok (.slice A1 l.length (c - 1)) W := fun W => by
    have := slice_from (A := A) (n := l.length + 1) (k := 1) (c := c) (by omega) W
    rw [hA1] at this
    exact this
  have RD : Hid (∀ W, But No w W → Reads W W.heap.size 1 A1 l.length (l.map (Value.int .i64))) := by
    intro W hb
    have h1 := (hx.no hb).ror.own k hk
    rw [hv] at h1
    have h2 := (Reads.of_own h1).cut (k := 1) (cap := c) (by omega) hc
    rw [hA1, hq] at h2
    exact h2
  have ONE : Hid (∀ u ∈ l.map (Value.int .i64), u.oneCell' = true) := by
    intro u hu
    obtain ⟨z, _, rfl⟩ := List.mem_map.1 hu
    rfl
  have AFT : Hid (∀ (W W2 : World) (A' : Option Addr) (c' : Nat), But No w W → W2.ownsRow 0 3 1 (.slice A' l.length c') l.length (l.map (Value.int .i64)) → W.grownBy W2 (Value.slice none 0 0).ownBlock → ((Value.slice A' l.length c').ownBlock = (Value.slice none 0 0).ownBlock ∨ (Value.slice A' l.length c').ownBlock = some W.heap.size) →
      (W2.cell? ⟨x, 0, none⟩ = some (.slice (some ⟨b, 0, none⟩) n n) ∧ W2.cell? ⟨b, k, none⟩ = some (.slice A (l.length + 1) c) ∧ W2.frozen? ⟨b, k, none⟩ = false) ∧ (W2.setCell ⟨b, k, none⟩ (.slice A' l.length c')).cell? ⟨x, 0, none⟩ = some (.slice (some ⟨b, 0, none⟩) n n) ∧
      XMv w S x n (upd q k l) (W2.setCell ⟨b, k, none⟩ (.slice A' l.length c'))) := by
    intro W W2 A' c' hb ho hg hat
    have x1 := hx.no hb
    have hbb : But No W W2 := (But.refl No W).grown hg (fun k e => by simp [Value.ownBlock] at e)
    obtain ⟨z1, z2, z3⟩ := x1.put hk hbb.no ho (fun j hj => .inr (own_new own_none hat (Nat.le_refl _) j hj)) hlk
    have x2 := x1.no hbb
    have hs := hb.size
    exact ⟨⟨x2.fld, by rw [← hml, ← hv]; exact x2.ror.cell hk, x2.ror.frozen k⟩, z1.fld, z1.xmv hS ((hb.no (S := Ro b n v)).andThen z2 (fun k hk => .inl hk)) (fun j hj => (z3 j hj).imp id (fun e => by omega))⟩
  obtain ⟨i3, hi0, hz0, hz1, hz2⟩ := info_parts info3
  have I3 : Hid (Try.prog.info? 3 = some i3 ∧ i3.zero = some (.int .i64 0) ∧ i3.size = 1 ∧ i3.bytes = 8) := ⟨hi0, hz0, hz1, hz2⟩
  have hk' : (k : Int) < (n : Int) := by omega
  have hm24 : l.length ≤ 24 := by omega
  generalize hm : l.length = m at *
  generalize hd l = y at *
  clear hx hS hh hv hc hlk hq hw hfA hfQ eH hl hml hA1 hm hi0 hz0 hz1 hz2
  go_enter Try.func13, Try.ntmps13
  go_wp2_with (first
    | (go_at_call 19; ((with_reducible refine (C1.out _ (But.refl _ _)).mono ?_); rintro e w1 ⟨rfl, hb⟩; have HB1 := Lib.hid hb; clear hb))
    | (go_at_call 17; ((with_reducible refine (C2.out _ HB1.out).mono ?_); rintro e w2 ⟨rfl, hb⟩; have HB := Lib.hid (HB1.out.trans hb); clear hb)))
  refine wp_region_noPanic ?_
  refine wp_region_held_drew (S := (fun w' => w'.cell? ⟨x, 0, none⟩ = some (.slice (some ⟨b, 0, none⟩) n n))) (by kernel_rfl) ((FLD.out _ HB.out.drew).1) (fun hHeld => ?_)
  refine wpAnyH_take (i := 0) (oi := { dst := some 17, op := Op.move (Operand.tmp 0), type := 28, pos := "ref.go:65", after := #[], guard := none }) (v := ?v1015) rfl (by kernel_rfl) (by kernel_rfl) (by kernel_rfl) (fun _ _ _ h => h) (Or.inl ⟨by rfl, ?hy1015⟩) (by assumption) ?rest1015
  case hy1015 => (intro w hSw; (try dsimp only at hSw); go_simp <;> with_reducible rfl)
  try simp only [Act.put, List.setIfInBounds_toArray, List.set_cons_zero, List.set_cons_succ]
  refine wpAnyH_take (i := 1) (oi := { dst := some 18, op := Op.nilCheck (Operand.tmp 17), type := 0, pos := "ref.go:65", after := #[{ on := 0, ground := Ground.data }], guard := none }) (v := ?v1016) rfl (by kernel_rfl) (by kernel_rfl) (by kernel_rfl) (fun _ _ _ h => h) (Or.inl ⟨by rfl, ?hy1016⟩) (by assumption) ?rest1016
  case hy1016 => (intro w hSw; (try dsimp only at hSw); go_simp <;> with_reducible rfl)
  try simp only [Act.put, List.setIfInBounds_toArray, List.set_cons_zero, List.set_cons_succ]
  refine wpAnyH_take (i := 2) (oi := { dst := some 19, op := Op.fieldAddr 54 (Operand.tmp 18) 0, type := 0, pos := "ref.go:65", after := #[{ on := 1, ground := Ground.data }], guard := none }) (v := ?v1017) rfl (by kernel_rfl) (by kernel_rfl) (by kernel_rfl) (fun _ _ _ h => h) (Or.inl ⟨by rfl, ?hy1017⟩) (by assumption) ?rest1017
  case hy1017 => (intro w hSw; (try dsimp only at hSw); go_simp <;> with_reducible rfl)
  try simp only [Act.put, List.setIfInBounds_toArray, List.set_cons_zero, List.set_cons_succ]
  refine wpAnyH_take (i := 3) (oi := { dst := some 20, op := Op.load 44 (Operand.tmp 19), type := 44, pos := "ref.go:65", after := #[{ on := 2, ground := Ground.data }], guard := none }) (v := ?v1018) rfl (by kernel_rfl) (by kernel_rfl) (by kernel_rfl) (fun _ _ _ h => h) (Or.inl ⟨by rfl, ?hy1018⟩) (by assumption) ?rest1018
  case hy1018 => (intro w hSw; (try dsimp only at hSw); go_simp <;> with_reducible rfl)
  try simp only [Act.put, List.setIfInBounds_toArray, List.set_cons_zero, List.set_cons_succ]
  refine wpAnyH_take (i := 4) (oi := { dst := some 21, op := Op.move (Operand.tmp 7), type := 3, pos := "ref.go:65", after := #[], guard := none }) (v := ?v1019) rfl (by kernel_rfl) (by kernel_rfl) (by kernel_rfl) (fun _ _ _ h => h) (Or.inl ⟨by rfl, ?hy1019⟩) (by assumption) ?rest1019
  case hy1019 => (intro w hSw; (try dsimp only at hSw); go_simp <;> with_reducible rfl)
  try simp only [Act.put, List.setIfInBounds_toArray, List.set_cons_zero, List.set_cons_succ]
  refine wpAnyH_take (i := 5) (oi := { dst := some 22, op := Op.move (Operand.tmp 8), type := 41, pos := "ref.go:65", after := #[], guard := none }) (v := ?v1020) rfl (by kernel_rfl) (by kernel_rfl) (by kernel_rfl) (fun _ _ _ h => h) (Or.inl ⟨by rfl, ?hy1020⟩) (by assumption) ?rest1020
  case hy1020 => (intro w hSw; (try dsimp only at hSw); go_simp <;> with_reducible rfl)
  try simp only [Act.put, List.setIfInBounds_toArray, List.set_cons_zero, List.set_cons_succ]
  refine wpAnyH_take (i := 6) (oi := { dst := some 23, op := Op.move (Operand.tmp 0), type := 28, pos := "ref.go:65", after := #[], guard := none }) (v := ?v1021) rfl (by kernel_rfl) (by kernel_rfl) (by kernel_rfl) (fun _ _ _ h => h) (Or.inl ⟨by rfl, ?hy1021⟩) (by assumption) ?rest1021
  case hy1021 => (intro w hSw; (try dsimp only at hSw); go_simp <;> with_reducible rfl)
  try simp only [Act.put, List.setIfInBounds_toArray, List.set_cons_zero, List.set_cons_succ]
  refine wpAnyH_take (i := 7) (oi := { dst := some 24, op := Op.nilCheck (Operand.tmp 23), type := 0, pos := "ref.go:65", after := #[{ on := 6, ground := Ground.data }], guard := none }) (v := ?v1022) rfl (by kernel_rfl) (by kernel_rfl) (by kernel_rfl) (fun _ _ _ h => h) (Or.inl ⟨by rfl, ?hy1022⟩) (by assumption) ?rest1022
  case hy1022 => (intro w hSw; (try dsimp only at hSw); go_simp <;> with_reducible rfl)
  try simp only [Act.put, List.setIfInBounds_toArray, List.set_cons_zero, List.set_cons_succ]
  refine wpAnyH_take (i := 8) (oi := { dst := some 25, op := Op.fieldAddr 54 (Operand.tmp 24) 0, type := 0, pos := "ref.go:65", after := #[{ on := 7, ground := Ground.data }], guard := none }) (v := ?v1023) rfl (by kernel_rfl) (by kernel_rfl) (by kernel_rfl) (fun _ _ _ h => h) (Or.inl ⟨by rfl, ?hy1023⟩) (by assumption) ?rest1023
  case hy1023 => (intro w hSw; (try dsimp only at hSw); go_simp <;> with_reducible rfl)
  try simp only [Act.put, List.setIfInBounds_toArray, List.set_cons_zero, List.set_cons_succ]
  refine wpAnyH_take (i := 9) (oi := { dst := some 26, op := Op.load 44 (Operand.tmp 25), type := 44, pos := "ref.go:65", after := #[{ on := 8, ground := Ground.data }], guard := none }) (v := ?v1024) rfl (by kernel_rfl) (by kernel_rfl) (by kernel_rfl) (fun _ _ _ h => h) (Or.inl ⟨by rfl, ?hy1024⟩) (by assumption) ?rest1024
  case hy1024 => (intro w hSw; (try dsimp only at hSw); go_simp <;> with_reducible rfl)
  try simp only [Act.put, List.setIfInBounds_toArray, List.set_cons_zero, List.set_cons_succ]
  refine wpAnyH_take (i := 10) (oi := { dst := some 27, op := Op.move (Operand.tmp 7), type := 3, pos := "ref.go:65", after := #[], guard := none }) (v := ?v1025) rfl (by kernel_rfl) (by kernel_rfl) (by kernel_rfl) (fun _ _ _ h => h) (Or.inl ⟨by rfl, ?hy1025⟩) (by assumption) ?rest1025
  case hy1025 => (intro w hSw; (try dsimp only at hSw); go_simp <;> with_reducible rfl)
  try simp only [Act.put, List.setIfInBounds_toArray, List.set_cons_zero, List.set_cons_succ]
  refine wpAnyH_take (i := 11) (oi := { dst := some 28, op := Op.indexAddr 44 (Operand.tmp 26) (Operand.tmp 27), type := 0, pos := "ref.go:65", after := #[{ on := 9, ground := Ground.data }, { on := 10, ground := Ground.data }], guard := none }) (v := ?v1026) rfl (by kernel_rfl) (by kernel_rfl) (by kernel_rfl) (fun _ _ _ h => h) (Or.inl ⟨by rfl, ?hy1026⟩) (by assumption) ?rest1026
  case hy1026 => (intro w hSw; (try dsimp only at hSw); go_simp <;> with_reducible rfl)
  try simp only [Act.put, List.setIfInBounds_toArray, List.set_cons_zero, List.set_cons_succ]
  have d1 := (FLD.out _ HB.out.drew).2
  refine wpAnyH_ready (rs := [12]) (by kernel_rfl) (by simp) ?_
  refine AllReadyH.cons (o := { dst := some 29, op := Op.load 41 (Operand.tmp 28), type := 41, pos := "ref.go:65", after := #[{ on := 11, ground := Ground.data }], guard := none }) rfl (fun K hK => ?_) AllReadyH.nil
  go_simp
  refine hK.out _ _ ((FLD.out _ HB.out.drew).1) (fun hHeld => ?_)
  clear hK K
  try simp only [Act.put, List.setIfInBounds_toArray, List.set_cons_zero, List.set_cons_succ]
  refine wpAnyH_take (i := 13) (oi := { dst := some 30, op := Op.slice 41 (Operand.tmp 29) (some (Operand.const (Value.int IntKind.i64 1))) none none, type := 41, pos := "ref.go:65", after := #[{ on := 12, ground := Ground.data }], guard := none }) (v := ?v1027) rfl (by kernel_rfl) (by kernel_rfl) (by kernel_rfl) (fun _ _ _ h => h) (Or.inl ⟨by rfl, ?hy1027⟩) (by assumption) ?rest1027
  case hy1027 => (intro w hSw; (try dsimp only at hSw); go_simp <;> with_reducible rfl)
  try simp only [Act.put, List.setIfInBounds_toArray, List.set_cons_zero, List.set_cons_succ]
  refine wpAnyH_ready (rs := [14]) (by kernel_rfl) (by simp) ?_
  refine AllReadyH.cons (o := { dst := some 31, op := Op.call { callee := Callee.builtin Builtin.append, args := #[Operand.tmp 22, Operand.tmp 30], argTypes := #[41, 41] }, type := 41, pos := "ref.go:65", after := #[{ on := 5, ground := Ground.data }, { on := 13, ground := Ground.data }], guard := none }) rfl (fun K hK => ?_) AllReadyH.nil
  refine step_append_sh rfl (.tmp 22) (.tmp 30) 41 rfl 3 i3 _ 1 8 Try.underlying41 I3.out.1 I3.out.2.1 I3.out.2.2.1 I3.out.2.2.2 rfl (by omega) (.slice none 0 0) 0 [] rfl (World.ownsRow_nil _ _ _ _) _ A1 m (c - 1) (l.map (Value.int .i64)) rfl (RD.out _ HB.out.drew) ONE.out (by unfold maxLen; omega) (by omega) ?_
  intro A3 c3 w3 hown hgrow hat
  simp only [Nat.zero_add, List.nil_append] at hown hat ⊢
  have HP := Lib.hid (AFT.out _ w3 A3 c3 HB.out.drew hown.out hgrow.out hat.out)
  have hcell := HP.out.1.2.1
  have hfz := HP.out.1.2.2
  clear hown hgrow hat d1
  skip
  refine hK.out _ _ (HP.out.1.1) (fun hHeld => ?_)
  clear hK K
  try simp only [Act.put, List.setIfInBounds_toArray, List.set_cons_zero, List.set_cons_succ]
  refine wpAnyH_take (i := 15) (oi := { dst := some 32, op := Op.indexAddr 44 (Operand.tmp 20) (Operand.tmp 21), type := 0, pos := "ref.go:65", after := #[{ on := 3, ground := Ground.data }, { on := 4, ground := Ground.data }, { on := 0, ground := Ground.phase }, { on := 1, ground := Ground.phase }, { on := 2, ground := Ground.phase }, { on := 3, ground := Ground.phase }, { on := 4, ground := Ground.phase }, { on := 5, ground := Ground.phase }, { on := 6, ground := Ground.phase }, { on := 7, ground := Ground.phase }, { on := 8, ground := Ground.phase }, { on := 9, ground := Ground.phase }, { on := 10, ground := Ground.phase }, { on := 11, ground := Ground.phase }, { on := 12, ground := Ground.phase }, { on := 13, ground := Ground.phase }, { on := 14, ground := Ground.phase }], guard := none }) (v := ?v1028) rfl (by kernel_rfl) (by kernel_rfl) (by kernel_rfl) (fun _ _ _ h => h) (Or.inl ⟨by rfl, ?hy1028⟩) (by assumption) ?rest1028
  case hy1028 => (intro w hSw; (try dsimp only at hSw); go_simp <;> with_reducible rfl)
  try simp only [Act.put, List.setIfInBounds_toArray, List.set_cons_zero, List.set_cons_succ]
  refine wpAnyH_ready (rs := [16]) (by kernel_rfl) (by simp) ?_
  refine AllReadyH.cons (o := { dst := none, op := Op.store 41 (Operand.tmp 32) (Operand.tmp 31), type := 0, pos := "ref.go:65", after := #[{ on := 15, ground := Ground.data }, { on := 14, ground := Ground.data }, { on := 14, ground := Ground.chain }, { on := 0, ground := Ground.phase }, { on := 1, ground := Ground.phase }, { on := 2, ground := Ground.phase }, { on := 3, ground := Ground.phase }, { on := 4, ground := Ground.phase }, { on := 5, ground := Ground.phase }, { on := 6, ground := Ground.phase }, { on := 7, ground := Ground.phase }, { on := 8, ground := Ground.phase }, { on := 9, ground := Ground.phase }, { on := 10, ground := Ground.phase }, { on := 11, ground := Ground.phase }, { on := 12, ground := Ground.phase }, { on := 13, ground := Ground.phase }, { on := 14, ground := Ground.phase }], guard := none }) rfl (fun K hK => ?_) AllReadyH.nil
  go_simp
  refine hK.out _ _ (HP.out.2.1) (fun hHeld => ?_)
  clear hK K
  try simp only [Act.put, List.setIfInBounds_toArray, List.set_cons_zero, List.set_cons_succ]
  refine wpAnyH_done (by kernel_rfl) ?_ _
  refine NoPanic.normal ?_
  clear hcell hfz
  obtain ⟨S', xp, hbS, hnS⟩ := HP.out.2.2
  have HXP := Lib.hid xp
  have HBN : Hid (But S w (w3.setCell ⟨b, k, none⟩ (.slice A3 m c3)) ∧ ∀ j, S' j → S j ∨ w.heap.size ≤ j) := ⟨hbS, hnS⟩
  clear xp hbS hnS HP
  go_wp2_with (go_at_call 15; ((with_reducible refine (CH.out _ _ HXP.out).mono ?_); rintro e w4 ⟨rfl, hz⟩; have HZ := Lib.hid hz; clear hz))
  go_ret2
  exact ⟨rfl, S', HXP.out.no HZ.out, HBN.out.1.trans HZ.out.no, HBN.out.2⟩
theorem rask_any (x n : Nat) (q : Nat → List Int) (S : Nat → Prop) (w : World) (res t : Int) (h : XP w S x n q) :
    Calls Try.prog 11 #[.pointer (some ⟨x, 0, none⟩), .int .i64 res, .int .i64 t] w fun r w' => r = .returned (.tuple #[.int .i64 (askA n q res t), .int .i64 (askE n q res t)]) ∧ XMv w S x n (askQ n q res t) w' := by
  have stay : askE n q res t ≠ 0 → ∀ w', But No w w' → XMv w S x n (askQ n q res t) w' := fun e w' hb => by
    unfold askQ; rw [if_neg e]; exact h.stay hb
  rcases lok.ask_cases n q res t with ⟨hb, e⟩ | ⟨h1, h2, h3, e⟩ | ⟨h1, _, _, e⟩
  · refine (rask_bad x n q S w res t h hb).mono fun r w' ⟨k1, k2⟩ => ⟨?_, stay (by omega) w' k2⟩
    rw [k1]; exact ret2i (by unfold askA; rw [if_neg (by omega)]) e.symm
  · refine (rask_twice x n q S w res t h h1 h2 h3).mono fun r w' ⟨k1, k2⟩ => ⟨?_, stay (by omega) w' k2⟩
    rw [k1]; exact ret2i (by unfold askA; rw [if_neg (by omega)]) e.symm
  · have := (resB_iff.1 h1).1
    obtain ⟨k, rfl⟩ : ∃ k : Nat, res = k := ⟨res.toNat, by omega⟩
    refine (rask_ok x n q S w k t h e).mono fun r w' ⟨k1, k2⟩ => ⟨?_, k2⟩
    rw [k1, e]
theorem rfree_any (x n : Nat) (q : Nat → List Int) (S : Nat → Prop) (w : World) (t : Int) (h : XP w S x n q) :
    Calls Try.prog 13 #[.pointer (some ⟨x, 0, none⟩), .int .i64 t] w fun r w' => r = .returned (.tuple #[.int .i64 (freA n q t), .int .i64 (freE n q t)]) ∧ XMv w S x n (freQ n q t) w' := by
  cases hh : hasV n q t with
  | true =>
    refine (rfree_ok x n q S w t h hh).mono fun r w' ⟨k1, k2⟩ => ⟨?_, k2⟩
    rw [k1]; exact ret2i rfl (by unfold freE; rw [hh]; rfl)
  | false =>
    refine (rfree_not x n q S w t h hh).mono fun r w' ⟨k1, k2⟩ => ⟨?_, ?_⟩
    · rw [k1]; exact ret2i (by unfold freA; rw [hh]; rfl) (by unfold freE; rw [hh]; rfl)
    · have e : freQ n q t = q := by unfold freQ; rw [hh]; rfl
      rw [e]; exact h.stay k2
end Go.Proofs.Ytimkdcpghhkloaa
