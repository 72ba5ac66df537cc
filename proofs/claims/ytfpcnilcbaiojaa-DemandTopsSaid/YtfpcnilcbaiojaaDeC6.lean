/- The contracts of the program's own shares (chapter 15): two rows that grow side by side. -/
import Derived.Test.YtfpcnilcbaiojaaDeC5
namespace Go.Proofs.Ytfpcnilcbaiojaa.dem
open Go.ChangeShapes Go.WideShapes Go.ChangeAt Go.RowKit Go.Deep
/-- What holds all along in the closure's region. -/
def OQ (v u : Value) : Nat → Prop := fun k => v.ownBlock = some k ∨ u.ownBlock = some k
def SS (w : World) (v u : Value) (x0 x1 rl : Int) (bc b3 : Nat) (w' : World) : Prop :=
  w'.cell? ⟨b3, 0, none⟩ = some v ∧ w'.cell? ⟨b3, 1, none⟩ = some u ∧ w'.cell? ⟨b3 + 1, 0, none⟩ = some (.int .i64 x0) ∧ w'.cell? ⟨b3 + 1, 1, none⟩ = some (.int .i64 x1) ∧ w'.cell? ⟨bc, 2, none⟩ = some (.int .i64 rl) ∧ But (OQ v u) w w' ∧ ∃ y0 y1, Blk w' (b3 + 1 + 1) #[y0, y1] 70
theorem cell_but {Q : Nat → Prop} {w1 w2 : World} {b o : Nat} {v : Value} (h : w1.cell? ⟨b, o, none⟩ = some v) (hb : But Q w1 w2) (hq : ¬ Q b) : w2.cell? ⟨b, o, none⟩ = some v := by
  rw [hb.cell (World.block_lt_of_cell? w1 _ h) hq]; exact h
theorem SS.but {w : World} {Q : Nat → Prop} {v u : Value} {x0 x1 rl : Int} {bc b3 : Nat} {w1 w2 : World} (h : SS w v u x0 x1 rl bc b3 w1) (hb : But Q w1 w2) (hq : ∀ k, Q k → k ≠ bc ∧ k < b3 ∧ OQ v u k) : SS w v u x0 x1 rl bc b3 w2 := by
  obtain ⟨h0, h1, h2, h3, h4, h6, y0, y1, h5⟩ := h
  have q0 : ¬ Q b3 := fun h => by have := hq _ h; omega
  have q1 : ¬ Q (b3 + 1) := fun h => by have := hq _ h; omega
  have q2 : ¬ Q (b3 + 1 + 1) := fun h => by have := hq _ h; omega
  exact ⟨cell_but h0 hb q0, cell_but h1 hb q0, cell_but h2 hb q1, cell_but h3 hb q1, cell_but h4 hb (fun h => (hq _ h).1 rfl), h6.trans (hb.mono (fun k _ h => (hq k h).2.2)), y0, y1, h5.but hb q2⟩
theorem SS.set {w : World} {v u : Value} {x0 x1 rl : Int} {bc b3 : Nat} {w1 : World} (a b : Value) (h : SS w v u x0 x1 rl bc b3 w1) (hc : bc < b3) (hw : w.heap.size ≤ b3) : SS w v u x0 x1 rl bc b3 ((w1.setCell ⟨b3 + 1 + 1, 0, none⟩ a).setCell ⟨b3 + 1 + 1, 1, none⟩ b) := by
  obtain ⟨h0, h1, h2, h3, h4, h6, y0, y1, h5⟩ := h
  have k : ∀ (c o : Nat) (z : Value), c ≠ b3 + 1 + 1 → w1.cell? ⟨c, o, none⟩ = some z → ((w1.setCell ⟨b3 + 1 + 1, 0, none⟩ a).setCell ⟨b3 + 1 + 1, 1, none⟩ b).cell? ⟨c, o, none⟩ = some z := fun c o z hb h => by
    rw [World.cell?_setCell_other _ _ _ _ (by intro h9; simp only [Addr.mk.injEq] at h9; omega), World.cell?_setCell_other _ _ _ _ (by intro h9; simp only [Addr.mk.injEq] at h9; omega)]; exact h
  exact ⟨k _ _ _ (by omega) h0, k _ _ _ (by omega) h1, k _ _ _ (by omega) h2, k _ _ _ (by omega) h3, k _ _ _ (by omega) h4, (h6.setNew (by show w.heap.size ≤ b3 + 1 + 1; omega) _).setNew (by show w.heap.size ≤ b3 + 1 + 1; omega) _, a, b, (h5.set 0 a).set 1 b⟩
theorem own_ne {w : World} {v : Value} {zs : List Int} {b : Nat} {cur : Array Value} {e : TypeId} (h : Ov w v zs) (hb : Blk w b cur e) (he : e ≠ 3) : v.ownBlock ≠ some b := fun f => by
  obtain ⟨_, h2⟩ := h
  rcases h2 with ⟨rfl, _⟩ | ⟨g, cap, cur', rfl, _, hh, _⟩
  · simp [Value.ownBlock] at f
  · have : g = b := by simpa [Value.ownBlock] using f
    subst this
    unfold Blk at hb
    rw [hh] at hb
    simp only [Option.some.injEq, Obj.cells.injEq] at hb
    exact he hb.2.1.symm
theorem Two.set {w wr : World} {v u : Value} {zs ts : List Int} {b : Nat} {cur : Array Value} {e : TypeId} (h : Two w wr v u zs ts) (hb : Blk wr b cur e) (he : e ≠ 3) (hw : w.heap.size ≤ b) (o : Nat) (z : Value) : Two w (wr.setCell ⟨b, o, none⟩ z) v u zs ts :=
  ⟨h.but.setNew hw _, h.o1.but (S := Just b) ((But.refl _ wr).setCell (just b) z) (fun k e1 e2 => own_ne h.o1 hb he (by rw [e1, e2])), h.o2.but (S := Just b) ((But.refl _ wr).setCell (just b) z) (fun k e1 e2 => own_ne h.o2 hb he (by rw [e1, e2])), h.n1, h.n2, h.ap⟩
theorem blk_reads {w : World} {k : Nat} {p q : Int} (h : Blk w k #[.int .i64 p, .int .i64 q] 3) : Reads w (k + 1) 1 (some ⟨k, 0, none⟩) 2 [.int .i64 p, .int .i64 q] :=
  ⟨rfl, fun _ => ⟨⟨k, 0, none⟩, rfl, by simp, World.news_of_block (cs := #[.int .i64 p, .int .i64 q]) (t := 3) (fr := (0, 0)) h⟩⟩
/-- One of the two rows grows by two numbers. -/
theorem step_two {ops : Array Oper} {o : Oper} {a : Act} {w : World} {K : Act → World → Prop} {Q : Exit → Act → World → Prop} {E : Prop} (hgd : o.guard = none) (s x : Operand)
    (ho : o.op = .call { callee := .builtin .append, args := #[s, x], argTypes := #[52, 52] }) (w0 : World) (v u : Value) (zs ts : List Int) (hs : a.eval s = v) (k : Nat) (p q : Int) (hx : a.eval x = .slice (some ⟨k, 0, none⟩) 2 2)
    (hT : Two w0 w v u zs ts) (hB : Blk w k #[.int .i64 p, .int .i64 q] 3) (hz : zs.length ≤ 1000)
    (h : ∀ A' c' w', Hid (Two w0 w' (.slice A' (zs.length + 2) c') u (zs ++ [p, q]) ts) → Hid (But (fun k => v.ownBlock = some k) w w') → K (a.put o.dst (.slice A' (zs.length + 2) c')) w') :
    if Region.wanted o (yielded ops a.tmps) = true then Oper.wp Try.prog o a w K Q else E := by
  obtain ⟨i3, hi0, hz0, hz1, hz2⟩ := info_parts info3
  refine step_append_sh hgd s x 52 ho 3 i3 _ 1 8 Try.underlying52 hi0 hz0 hz1 hz2 rfl (by omega) v zs.length (zs.map (Value.int .i64)) hs hT.o1 (k + 1) (some ⟨k, 0, none⟩) 2 2 [.int .i64 p, .int .i64 q] hx (blk_reads hB) (two_cell p q) (by unfold maxLen; omega) (by omega) (fun A' c' w' h1 h2 h3 => h A' c' w' (Lib.hid (hT.app (ns := [p, q]) rfl h1.out h2.out h3.out)) (Lib.hid ((But.refl _ w).grown h2.out (fun k e => .inl e))))
set_option maxRecDepth 100000 in
set_option maxHeartbeats 8000000 in
theorem clo_shares (v u : Value) (zs ts : List Int) (x : Wk) (bc : Nat) (rl : Int) (w0 w : World) (h : Two w0 w v u zs ts) (hz : zs.length ≤ 1000) (ht : ts.length ≤ 1000) (hc : w0.cell? ⟨bc, 2, none⟩ = some (.int .i64 rl)) :
    Calls Try.prog 50 #[.agg #[v, u], wkV x, .pointer (some ⟨bc, 0, none⟩)] w fun r w' => ∃ v' u', r = .returned (.agg #[v', u']) ∧ Two w0 w' v' u' (zs ++ [x.w, rl]) (ts ++ [x.p, x.p]) ∧ But (OQ v u) w w' := by
  obtain ⟨x0, x1, x2, x3⟩ := x
  have hbc0 : bc < w0.heap.size := World.block_lt_of_cell? w0 _ hc
  have hbw := h.but
  have hsz := hbw.size
  have hbc : bc < w.heap.size := by omega
  have hbA : But No w (((w.alloc (.cells #[v, u] 70)).alloc (.cells #[.int .i64 x0, .int .i64 x1, .int .i64 x2, .bool x3] 38)).alloc (.cells #[.slice none 0 0, .slice none 0 0] 70)) := (((But.refl No w).alloc _).alloc _).alloc _
  have h3 : Blk (((w.alloc (.cells #[v, u] 70)).alloc (.cells #[.int .i64 x0, .int .i64 x1, .int .i64 x2, .bool x3] 38)).alloc (.cells #[.slice none 0 0, .slice none 0 0] 70)) w.heap.size #[v, u] 70 := ((Blk.new w _ _).alloc _).alloc _
  have h4 : Blk (((w.alloc (.cells #[v, u] 70)).alloc (.cells #[.int .i64 x0, .int .i64 x1, .int .i64 x2, .bool x3] 38)).alloc (.cells #[.slice none 0 0, .slice none 0 0] 70)) (w.heap.size + 1) #[.int .i64 x0, .int .i64 x1, .int .i64 x2, .bool x3] 38 := (blk2 w _ _ _).alloc _
  have h5 : Blk (((w.alloc (.cells #[v, u] 70)).alloc (.cells #[.int .i64 x0, .int .i64 x1, .int .i64 x2, .bool x3] 38)).alloc (.cells #[.slice none 0 0, .slice none 0 0] 70)) (w.heap.size + 1 + 1) #[.slice none 0 0, .slice none 0 0] 70 := by
    have := blk2 (w.alloc (.cells #[v, u] 70)) (.cells #[.int .i64 x0, .int .i64 x1, .int .i64 x2, .bool x3] 38) #[.slice none 0 0, .slice none 0 0] 70
    rw [size_alloc1] at this; exact this
  have HS : Hid (SS w v u x0 x1 rl bc w.heap.size (((w.alloc (.cells #[v, u] 70)).alloc (.cells #[.int .i64 x0, .int .i64 x1, .int .i64 x2, .bool x3] 38)).alloc (.cells #[.slice none 0 0, .slice none 0 0] 70))) := Lib.hid ⟨h3.cell rfl, h3.cell rfl, h4.cell rfl, h4.cell rfl, cell_keep hc (hbw.trans hbA), hbA.no, _, _, h5⟩
  have HTA : Hid (Two w0 (((w.alloc (.cells #[v, u] 70)).alloc (.cells #[.int .i64 x0, .int .i64 x1, .int .i64 x2, .bool x3] 38)).alloc (.cells #[.slice none 0 0, .slice none 0 0] 70)) v u zs ts) := Lib.hid (h.no hbA)
  have HQ1 : Hid (∀ k, v.ownBlock = some k → k ≠ bc ∧ k < w.heap.size ∧ OQ v u k) := Lib.hid (fun k e => ⟨by have := h.n1 k e; omega, own_lt h.o1 e, Or.inl e⟩)
  have HQ2 : Hid (∀ k, u.ownBlock = some k → k ≠ bc ∧ k < w.heap.size ∧ OQ v u k) := Lib.hid (fun k e => ⟨by have := h.n2 k e; omega, own_lt h.o2 e, Or.inr e⟩)
  have HW : Hid (w0.heap.size ≤ w.heap.size) := Lib.hid hsz
  have HBC := Lib.hid hbc
  have hsW : w.heap.size + 3 = (((w.alloc (.cells #[v, u] 70)).alloc (.cells #[.int .i64 x0, .int .i64 x1, .int .i64 x2, .bool x3] 38)).alloc (.cells #[.slice none 0 0, .slice none 0 0] 70)).heap.size := by simp
  have HZ := Lib.hid hz
  have HZT := Lib.hid ht
  obtain ⟨i3, hi0, hz0, hz1, hz2⟩ := info_parts info3
  have I3 : Hid (Try.prog.info? 3 = some i3 ∧ i3.zero = some (.int .i64 0) ∧ i3.size = 1 ∧ i3.bytes = 8) := ⟨hi0, hz0, hz1, hz2⟩
  unfold wkV
  dsimp only
  clear h hz ht hc hbc0 hbw hsz hbc hbA h3 h4 h5 hi0 hz0 hz1 hz2
  go_enter Try.func50, Try.ntmps50
  go_upto_region 1 with fail
  generalize (((w.alloc (.cells #[v, u] 70)).alloc (.cells #[.int .i64 x0, .int .i64 x1, .int .i64 x2, .bool x3] 38)).alloc (.cells #[.slice none 0 0, .slice none 0 0] 70)) = W0 at HS HTA hsW ⊢
  go_region_held3 (fun w' => w'.cell? ⟨w.heap.size, 0, none⟩ = some v ∧ w'.cell? ⟨w.heap.size, 1, none⟩ = some u ∧ w'.cell? ⟨w.heap.size + 1, 0, none⟩ = some (.int .i64 x0) ∧ w'.cell? ⟨w.heap.size + 1, 1, none⟩ = some (.int .i64 x1) ∧ w'.cell? ⟨bc, 2, none⟩ = some (.int .i64 rl) ∧ But (OQ v u) w w' ∧ ∃ y0 y1, Blk w' (w.heap.size + 1 + 1) #[y0, y1] 70)
    (first | assumption | exact SS.but HS.out (But.refl No W0).drew (fun _ f => False.elim f) | exact SS.set _ _ (by assumption) HBC.out (Nat.le_refl _) | exact SS.but (by assumption) HGF.out HQF.out | exact SS.but (by assumption) HG3.out HQ1.out | exact SS.but (by assumption) HG3.out HQ2.out | exact SS.but (by assumption) ((But.refl No _).alloc _) (fun _ f => False.elim f))
    (first | (refine step_two rfl _ _ rfl w0 v u zs ts (by simp [Act.eval]) W0.drew.heap.size x0 rl (by simp [Act.eval]) (HTA.out.no (((But.refl No W0).drew).alloc _)) (Blk.new W0.drew _ _) HZ.out ?_; intro A3 c3 w3 HT3 HG3) | (refine step_two rfl _ _ rfl w0 v u zs ts (by simp [Act.eval]) W0.drew.heap.size x0 rl (by simp [Act.eval]) (HTA.out.no ((((But.refl No W0).drew).alloc _).alloc _)) ((Blk.new W0.drew _ _).alloc _) HZ.out ?_; intro A3 c3 w3 HT3 HG3) | (refine step_two rfl _ _ rfl w0 v u zs ts (by simp [Act.eval]) (W0.drew.alloc (.cells #[.int .i64 x1, .int .i64 x1] 3)).heap.size x0 rl (by simp [Act.eval]) (HTA.out.no ((((But.refl No W0).drew).alloc _).alloc _)) (Blk.new (W0.drew.alloc (.cells #[.int .i64 x1, .int .i64 x1] 3)) _ _) HZ.out ?_; intro A3 c3 w3 HT3 HG3) | (refine step_two rfl _ _ rfl w0 u (.slice A3 (zs.length + 2) c3) ts (zs ++ [x0, rl]) (by simp [Act.eval]) w3.heap.size x1 x1 (by simp [Act.eval]) (HT3.out.no ((But.refl No w3).alloc _)).swap (Blk.new w3 _ _) HZT.out ?_; intro A5 c5 wF HTF0 HGF; have HTF := Lib.hid HTF0.out.swap; have HQF := Lib.hid HQ2.out; obtain ⟨y0, y1, kB⟩ := (SS.but (by assumption) HGF.out HQF.out).2.2.2.2.2.2; have z0 := kB.frozen 0; have z1 := kB.frozen 1; have v0 := kB.cell (o := 0) rfl; have v1 := kB.cell (o := 1) rfl) | (refine step_two rfl _ _ rfl w0 u (.slice A3 (zs.length + 2) c3) ts (zs ++ [x0, rl]) (by simp [Act.eval]) (W0.drew.alloc (.cells #[.int .i64 x0, .int .i64 rl] 3)).heap.size x1 x1 (by simp [Act.eval]) (HT3.out).swap ((Blk.new (W0.drew.alloc (.cells #[.int .i64 x0, .int .i64 rl] 3)) _ _).but HG3.out (fun e => by have := (HQ1.out _ e).2.1; simp at this; omega)) HZT.out ?_; intro A5 c5 wF HTF0 HGF; have HTF := Lib.hid HTF0.out.swap; have HQF := Lib.hid HQ2.out; obtain ⟨y0, y1, kB⟩ := (SS.but (by assumption) HGF.out HQF.out).2.2.2.2.2.2; have z0 := kB.frozen 0; have z1 := kB.frozen 1; have v0 := kB.cell (o := 0) rfl; have v1 := kB.cell (o := 1) rfl) | (refine step_two rfl _ _ rfl w0 u (.slice A3 (zs.length + 2) c3) ts (zs ++ [x0, rl]) (by simp [Act.eval]) W0.drew.heap.size x1 x1 (by simp [Act.eval]) (HT3.out).swap (((Blk.new W0.drew _ _).alloc _).but HG3.out (fun e => by have := (HQ1.out _ e).2.1; simp at this; omega)) HZT.out ?_; intro A5 c5 wF HTF0 HGF; have HTF := Lib.hid HTF0.out.swap; have HQF := Lib.hid HQ2.out; obtain ⟨y0, y1, kB⟩ := (SS.but (by assumption) HGF.out HQF.out).2.2.2.2.2.2; have z0 := kB.frozen 0; have z1 := kB.frozen 1; have v0 := kB.cell (o := 0) rfl; have v1 := kB.cell (o := 1) rfl))
  all_goals
    rename_i hHeld
    have KF := (kB.set 0 (.slice A3 (zs.length + 2) c3)).set 1 (.slice A5 (ts.length + 2) c5)
    have f0 := KF.cell (o := 0) rfl
    have f1 := KF.cell (o := 1) rfl
    clear KF
    have HW0 : Hid (w0.heap.size ≤ w.heap.size + 1 + 1) := Lib.hid (by have h1 := HTA.out.but.size; have h2 := HW.out; omega)
    go_wp2
    exact bodyPost_ret (v := .agg #[.slice A3 (zs.length + 2) c3, .slice A5 (ts.length + 2) c5]) (by simp [results, Try.results50, go_sem, f0, f1]) rfl ⟨_, _, rfl, (HTF.out.set kB (by decide) HW0.out 0 _).set (kB.set 0 _) (by decide) HW0.out 1 _, hHeld.2.2.2.2.2.1⟩
end Go.Proofs.Ytfpcnilcbaiojaa.dem
