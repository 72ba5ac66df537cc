/- Contracts of Push where there is room, and of Change. -/
import Derived.Test.YtbfmoaojimimjaaHeP3
namespace Go.Proofs.Ytbfmoaojimimjaa.hea
open Go.ChangeShapes Go.WideShapes Go.ChangeAt Go.RowKit
theorem infoT59 : (Try.prog.info? 67).map (fun i => (i.zero, i.size, i.bytes)) = some (some (.agg #[.int .i64 0, .int .i64 0, .int .i64 0]), 3, 24) := by kernel_rfl
def c3 (x : It) : Array Value := #[.int .i64 x.id, .int .i64 x.key, .int .i64 x.turn]
/-- Ahead of the append: the turn is given, the item lies in a block of its own. -/
def pushW (w : World) (p : Nat) (x : It) : World := ((w.setCell ⟨p, 1, none⟩ (.int .i64 x.turn)).alloc (.cells (c3 x) 67)).drew
theorem push_blk {w w1 : World} {p m : Nat} {v : Value} {n : Nat} {R T : Int} {f : Nat → It} {D : DataW Unit} {x : It} (hx : Hx w p m v n R T f D) (hg : (pushW w p x).grownBy w1 v.ownBlock) :
    Blk w1 p #[.int .i64 R, .int .i64 x.turn, v, .map (some m)] 65 := by
  have h1 : Blk (w.setCell ⟨p, 1, none⟩ (.int .i64 x.turn)) p #[.int .i64 R, .int .i64 x.turn, v, .map (some m)] 65 := hx.hp.set 1 _
  have hb : But No (w.setCell ⟨p, 1, none⟩ (.int .i64 x.turn)) (pushW w p x) := ((But.refl No _).alloc _).drew
  have h2 := h1.but hb (fun f => f)
  have h3 : But (fun k => v.ownBlock = some k) (pushW w p x) w1 := (But.refl _ _).grown hg (fun k e => .inl e)
  exact h2.but h3 hx.pv
theorem push_owns {w : World} {p m : Nat} {v : Value} {n : Nat} {R T : Int} {f : Nat → It} {D : DataW Unit} {x : It} {xs : List Value} (hx : Hx w p m v n R T f D) (ho : w.ownsRow 0 67 3 v n xs) : (pushW w p x).ownsRow 0 67 3 v n xs := by
  have hb : But (Just p) w (pushW w p x) := (((But.refl _ w).setCell (p := ⟨p, 1, none⟩) (just p) _).alloc _).drew
  exact owns_but ho hb (fun k e ek => hx.pv (by rw [e, ek]))
theorem push_end {w w1 : World} {p m g cap : Nat} {v : Value} {n : Nat} {R T : Int} {f : Nat → It} {D : DataW Unit} {x : It} {xs : List Value} (hx : Hx w p m v n R T f D) (hX : Xs xs n f) (hl : xs.length = n * 3)
    (ho : w1.ownsRow 0 67 3 (.slice (some ⟨g, 0, none⟩) (n + 1) cap) (n + 1) (xs ++ [.int .i64 x.id, .int .i64 x.key, .int .i64 x.turn])) (hg : (pushW w p x).grownBy w1 v.ownBlock) (hat : v.ownBlock = some g ∨ g = w.heap.size + 1) :
    Hm (w1.setCell ⟨p, 2, none⟩ (.slice (some ⟨g, 0, none⟩) (n + 1) cap)) p g m cap (n + 1) R x.turn (upd f n x) D ∧ But (OwnV p m v) w (w1.setCell ⟨p, 2, none⟩ (.slice (some ⟨g, 0, none⟩) (n + 1) cap)) ∧ (∀ k, Own p g m k → OwnV p m v k ∨ w.heap.size ≤ k) := by
  have hp1 := push_blk hx hg
  have hB0 : But (OwnV p m v) w (pushW w p x) := (((But.refl _ w).setCell (p := ⟨p, 1, none⟩) (.inl rfl) _).alloc _).drew
  have hB1 : But (OwnV p m v) w w1 := hB0.grown hg (fun k e => .inl (.inr (.inl e)))
  have hlt := hx.lt
  have hpl := hlt p (.inl rfl)
  have hml := hlt m (.inr (.inr rfl))
  have pg : p ≠ g := by
    rcases hat with e | e
    · exact fun e' => hx.pv (by rw [e, e'])
    · omega
  have gm : g ≠ m := by
    rcases hat with e | e
    · exact fun e' => hx.mv (by rw [e, e'])
    · omega
  have hom : OM w1 m (Maps.size D) D := by
    have b0 : But (Just p) w (pushW w p x) := (((But.refl _ w).setCell (p := ⟨p, 1, none⟩) (just p) _).alloc _).drew
    have b1 : But (fun k => v.ownBlock = some k) (pushW w p x) w1 := (But.refl _ _).grown hg (fun k e => .inl e)
    exact (hx.own.but b0 (fun e => hx.pm e.symm)).but b1 hx.mv
  have hR : Rw w1 g cap (n + 1) (upd f n x) := by
    refine RowV.rw ⟨_, ho, fun i hi => ?_⟩
    by_cases e : i = n
    · subst e
      rw [upd_same, List.getElem?_append_right (by omega), List.getElem?_append_right (by omega), List.getElem?_append_right (by omega), hl]
      rw [show i * 3 - i * 3 = 0 by omega, show i * 3 + 1 - i * 3 = 1 by omega, show i * 3 + 2 - i * 3 = 2 by omega]
      exact ⟨rfl, rfl, rfl⟩
    · rw [upd_other _ _ e, List.getElem?_append_left (by omega), List.getElem?_append_left (by omega), List.getElem?_append_left (by omega)]
      exact hX i (by omega)
  have hb : But (Just p) w1 (w1.setCell ⟨p, 2, none⟩ (.slice (some ⟨g, 0, none⟩) (n + 1) cap)) := (But.refl _ w1).setCell (p := ⟨p, 2, none⟩) (just p) _
  refine ⟨⟨pg, hx.pm, gm, hp1.set 2 _, hR.but hb (fun e => pg e.symm), hom.but hb (fun e => hx.pm e.symm)⟩, hB1.setCell (p := ⟨p, 2, none⟩) (.inl rfl) _, ?_⟩
  rintro k (rfl | rfl | rfl)
  · exact .inl (.inl rfl)
  · rcases hat with e | e
    · exact .inl (.inr (.inl e))
    · exact .inr (by omega)
  · exact .inl (.inr (.inr rfl))
theorem push_fin {w wq w2 w3 w4 : World} {S : Nat → Prop} {p m g cap n : Nat} {v : Value} {R T : Int} {L : List It} {f : Nat → It} {x : It} (h : HP w S p R T L) (hS : ∀ k, S k ↔ OwnV p m v k) (hbq : But No w wq) (hb2 : But (OwnV p m v) wq w2)
    (hs2 : ∀ k, Own p g m k → OwnV p m v k ∨ wq.heap.size ≤ k) (hb3 : But (Just m) w2 w3) (he : RiseEnd w3 p g m cap (n + 1) R (T + 1) (upd f n x) n w4) (inv : Inv n f L) (ho : HeapOK n f) (ht : x.turn = T + 1) (hr : inR x.id) (hi : ∀ y ∈ L, y.id ≠ x.id) (hf : (L.length : Int) < R) :
    Mv w S p R (T + 1) (ins x L) w4 := by
  obtain ⟨f', E, st, hor⟩ := he
  have hq := hbq.size
  have hB : But (OwnV p m v) w w3 := (hbq.no.trans hb2).trans (hb3.mono (fun k _ e => .inr (.inr e)))
  have hinv := (inv.push (x := x) (fun y hy => by have := h.turn y hy; omega) hi).same st.same
  have hoK : HeapOK (n + 1) f' := by
    rcases hor with ⟨rfl, hd⟩ | h'
    · exact (ho.push x).done hd
    · exact h'
  have h2 := h.t0
  refine ⟨Own p g m, ⟨⟨m, _, n + 1, f', E, st.hm.hx, st.mi, hoK, hinv, fun k => own_eq.symm⟩, fun y hy => ?_, fun y hy => ?_, by omega, h.r0, h.r1, by rw [length_ins]; omega⟩, ?_, fun k hk => ?_⟩
  · rcases mem_ins.1 hy with rfl | hy
    · omega
    · have := h.turn y hy; omega
  · rcases mem_ins.1 hy with rfl | hy
    · exact hr
    · exact h.rng y hy
  · have := hB.andThen st.but (fun k hk => (hs2 k hk).imp id (fun h => by omega))
    exact this.mono (fun k _ hk => (hS k).2 hk)
  · exact (hs2 k hk).imp (fun h => (hS k).2 h) (fun h => by omega)
theorem push_news (w : World) (p : Nat) (x : It) : ∀ j u, [Value.int .i64 x.id, .int .i64 x.key, .int .i64 x.turn][j]? = some u → (pushW w p x).cell? ((⟨w.heap.size, 0, none⟩ : Addr).add j) = some u := by
  have h := Blk.new (w.setCell ⟨p, 1, none⟩ (.int .i64 x.turn)) (c3 x) 67
  rw [show (w.setCell ⟨p, 1, none⟩ (.int .i64 x.turn)).heap.size = w.heap.size by simp [World.setCell]] at h
  have h' : Blk (pushW w p x) w.heap.size (c3 x) 67 := h
  exact World.news_of_block (cs := c3 x) (t := 67) (fr := (0, 0)) h'
theorem push_size (w : World) (p : Nat) (x : It) : (pushW w p x).heap.size = w.heap.size + 1 := by simp [pushW, World.setCell, World.alloc, World.drew]
set_option maxHeartbeats 4000000 in
set_option maxRecDepth 100000 in
theorem push_ok (p : Nat) (R T : Int) (L : List It) (S : Nat → Prop) (w : World) (a b : Int) (ha : inR a) (h0 : 0 ≤ a) (h : HP w S p R T L) (hT : T < 1000000) (hxL : ∀ y ∈ L, y.id ≠ a) (hf : L.length < R) :
    Calls Try.prog 29 #[.pointer (some ⟨p, 0, none⟩), .int .i64 a, .int .i64 b] w fun r w' => r = .returned (.int .i64 0) ∧ Mv w S p R (T + 1) (ins ⟨a, b, T + 1⟩ L) w' := by
  have H := Lib.hid h
  have HR := Lib.hid ha
  have hT0 := h.t0
  have hr1 := h.r1
  obtain ⟨m, v, n, f, D, hx, mi, ho, inv, hS⟩ := h.ex
  have hln := inv.len
  have hhas := look_out mi inv hxL
  have HX := Lib.hid hx
  obtain ⟨A, c, hv, hc⟩ := hx.row.slice
  have OWN := Lib.hid hx.own
  have h3 : w.cell? ⟨p, 3, none⟩ = some (.map (some m)) := hx.hp.cell (o := 3) rfl
  have h2 : w.cell? ⟨p, 2, none⟩ = some (.slice A n c) := by rw [← hv]; exact hx.hp.cell (o := 2) rfl
  have hc0 : w.cell? ⟨p, 0, none⟩ = some (.int .i64 R) := hx.hp.cell (o := 0) rfl
  have b1 : decide (a < 0) = false := by simp; omega
  have b2 : decide (R ≤ (n : Int)) = false := by simp; omega
  have b3 : ¬ R ≤ (n : Int) := by omega
  have n3 : n < 256 := by omega
  have HV := Lib.hid hv
  obtain ⟨i0, hi0, hz0, hz1, hz2⟩ := info_parts infoT59
  have I0 : Hid (Try.prog.info? 67 = some i0 ∧ i0.zero = some (.agg #[.int .i64 0, .int .i64 0, .int .i64 0]) ∧ i0.size = 3 ∧ i0.bytes = 24) := ⟨hi0, hz0, hz1, hz2⟩
  clear hi0 hz0 hz1 hz2
  have MI := Lib.hid mi
  have HO := Lib.hid ho
  have INV := Lib.hid inv
  have HS := Lib.hid hS
  have HXL := Lib.hid hxL
  have HF := Lib.hid hf
  clear hx mi ho inv hS h hxL ha hf hv hln
  go_enter Try.func29, Try.ntmps29
  go_wp2_with (at_lookup; refine wpList_lookup_own_ok_int (H := Unit) _ rfl _ _ 49 rfl 3 3 .i64 keyed Try.underlying49 Try.underlying3 (zero3 _) m (Maps.size D) D rfl OWN.out _ (ky a) rfl (Maps.keyOf_int_mk Try.underlying3 (wf_of HR.out)) ?_; intro cc hcc hwc; clear hcc hwc)
  go_quiet (fail)
  go_wp2_with fail
  generalize hwq : w.drewN nq = wq
  have HBQ : Hid (But No w wq) := by rw [← hwq]; exact (But.refl No w).drewN nq
  have HXq := Lib.hid (HX.out.but HBQ.out (fun _ _ f => f))
  clear hwq h2 h3 hc0 OWN
  obtain ⟨xs, hown, hXs⟩ := HXq.out.row
  have ROW := Lib.hid (push_owns (x := ⟨a, b, T + 1⟩) HXq.out hown)
  have HXS : Hid (Xs xs n f ∧ xs.length = n * 3) := ⟨hXs, hown.1⟩
  clear hown hXs
  have h2 : wq.cell? ⟨p, 2, none⟩ = some (.slice A n c) := by rw [← HV.out]; exact HXq.out.hp.cell (o := 2) rfl
  have HC1 : Hid (wq.cell? ⟨p, 1, none⟩ = some (.int .i64 T)) := HXq.out.hp.cell (o := 1) rfl
  have HF1 : Hid (wq.frozen? ⟨p, 1, none⟩ = false) := HXq.out.hp.frozen 1
  have HBL : Hid (∀ w1, (pushW wq p ⟨a, b, T + 1⟩).grownBy w1 v.ownBlock → w1.cell? ⟨p, 2, none⟩ = some v ∧ w1.frozen? ⟨p, 2, none⟩ = false) := fun w1 hg => ⟨(push_blk HXq.out hg).cell (o := 2) rfl, (push_blk HXq.out hg).frozen 2⟩
  have h2W : ((wq.setCell ⟨p, 1, none⟩ (.int .i64 (T + 1))).alloc (.cells #[.int .i64 a, .int .i64 b, .int .i64 (T + 1)] 67)).cell? ⟨p, 2, none⟩ = some (.slice A n c) := by
    have hg : (pushW wq p ⟨a, b, T + 1⟩).grownBy (pushW wq p ⟨a, b, T + 1⟩) v.ownBlock := ⟨rfl, rfl, rfl, Nat.le_refl _, fun _ _ _ => rfl⟩
    rw [← HV.out]; exact (HBL.out _ hg).1
  go_region_law (first
    | (refine step_append_lies _ (by rfl) _ _ _ (by rfl) 0 67 i0 _ 3 24 Try.underlying63 I0.out.1 I0.out.2.1 I0.out.2.2.1 I0.out.2.2.2 rfl (by omega) v n xs (by exact HV.out.symm) (by exact ROW.out)
        ⟨wq.heap.size, 0, none⟩ 1 1 [.int .i64 a, .int .i64 b, .int .i64 (T + 1)] (by rfl) (by rfl) (by exact push_news wq p ⟨a, b, T + 1⟩) (by simp [Value.oneCell'])
        (by omega) (by unfold maxLen; omega) (by omega) (by omega) (wq.heap.size + 1) (by exact push_size wq p ⟨a, b, T + 1⟩) ?_; intro gg cap w1 hown1 hgrow hat hlt; have hcf := HBL.out w1 hgrow; have HOWN1 := Lib.hid hown1; have HGROW := Lib.hid hgrow; have HAT := Lib.hid hat; clear hown1 hgrow hat; obtain ⟨hc2, hf2⟩ := hcf)
    | (go_simp; go_at_call 41; refine (nextTurn_w p T _ (by exact HC1.out) (by exact HF1.out) hT0 hT).mono ?_; rintro e w' ⟨rfl, rfl⟩))
  all_goals
    obtain ⟨hm2, hb2, hs2⟩ := push_end (x := ⟨a, b, T + 1⟩) HXq.out HXS.out.1 HXS.out.2 HOWN1.out HGROW.out HAT.out
    clear hc2 hf2 HOWN1 HGROW HAT h2 h2W
    generalize World.setCell w1 _ _ = w2 at hm2 hb2 ⊢
    have H2 := Lib.hid hm2
    have HB2 := Lib.hid hb2
    have HS2 := Lib.hid hs2
    clear hm2 hb2 hs2
    have h3 : w2.cell? ⟨p, 3, none⟩ = some (.map (some m)) := H2.out.hp.cell (o := 3) rfl
    have M3 : Hid (MapIs (n + 1) (upd f n ⟨a, b, T + 1⟩) (D.put (ky a) (vl n))) := MI.out.push (x := ⟨a, b, T + 1⟩) (fun i hi => HXL.out _ ((INV.out.mem _).2 ⟨i, hi, rfl⟩)) HR.out
    have hsz : Maps.size D < 257 := by rw [MI.out.sz]; omega
    go_wp2_with (first
      | (at_mapUpdate; refine wpList_mapUpdate_in (H := Unit) _ rfl _ _ _ 49 rfl 3 3 keyed Try.underlying49 (plainElem Try.prog 3) m (Maps.size D) D rfl H2.out.own (by unfold maxLen; omega) _ _ (ky a) rfl rfl (Maps.keyOf_int_mk Try.underlying3 (wf_of HR.out)) (vl n) [] (plainElem_int Try.underlying3 (wf_of (by unfold inR; omega))) ?_; intro w3 hown3 ht3; have H3 := Lib.hid (H2.out.turnedH ht3 hown3); have HB3 : Hid (But (Just m) w2 w3) := (But.refl _ w2).turnedH ht3 (just m); clear hown3 ht3)
      | (go_at_call 42; ((with_reducible refine (rise_any p gg m cap (n + 1) R (T + 1) (upd f n ⟨a, b, T + 1⟩) (D.put (ky a) (vl n)) n _ H3.out M3.out (by omega) (by omega) (HO.out.push _).almost).mono ?_); rintro e w4 ⟨rfl, hd⟩; have HD := Lib.hid hd; clear hd)))
    go_ret
    exact ⟨rfl, push_fin H.out HS.out HBQ.out HB2.out HS2.out HB3.out HD.out INV.out HO.out rfl HR.out HXL.out HF.out⟩
set_option maxHeartbeats 4000000 in
set_option maxRecDepth 100000 in
theorem change_in (p : Nat) (R T : Int) (L : List It) (S : Nat → Prop) (w : World) (x : It) (b : Int) (h : HP w S p R T L) (hT : T < 1000000) (hxL : x ∈ L) :
    Calls Try.prog 33 #[.pointer (some ⟨p, 0, none⟩), .int .i64 x.id, .int .i64 b] w fun r w' => r = .returned (.int .i64 0) ∧ Mv w S p R (T + 1) (ins ⟨x.id, b, T + 1⟩ (rmv x.id L)) w' := by
  have H := Lib.hid h
  have hr1 := h.r1
  have hlen := h.len
  have hT0 := h.t0
  have HR : Hid (inR x.id) := h.rng x hxL
  obtain ⟨m, v, n, f, D, hx, mi, ho, inv, hS⟩ := h.ex
  obtain ⟨i, hi, hfi, hhas, hat⟩ := look_in mi inv hxL
  have AT := Lib.hid hat
  obtain ⟨q, c, rfl, hm⟩ := hx.hm (by omega)
  have OWN := Lib.hid hm.own
  have h2 : w.cell? ⟨p, 2, none⟩ = some (.slice (some ⟨q, 0, none⟩) n c) := hm.hp.cell (o := 2) rfl
  have h3 : w.cell? ⟨p, 3, none⟩ = some (.map (some m)) := hm.hp.cell (o := 3) rfl
  have HC1 : Hid (w.cell? ⟨p, 1, none⟩ = some (.int .i64 T)) := hm.hp.cell (o := 1) rfl
  have HF1 : Hid (w.frozen? ⟨p, 1, none⟩ = false) := hm.hp.frozen 1
  obtain ⟨a0, a1, a2⟩ := hm.hq.cells (i := i) hi
  have f0 := hm.hq.frozen (i * 3)
  have f1 := hm.hq.frozen (i * 3 + 1)
  have f2 := hm.hq.frozen (i * 3 + 2)
  have n3 : n ≤ 256 := by have := inv.len; omega
  have hi' : (i : Int) < (n : Int) := by omega
  have hpq : ¬ p = q := hm.pq
  have hqp : ¬ q = p := fun e => hm.pq e.symm
  obtain ⟨xa, xb, xc⟩ := x
  rw [hfi] at a0 a1 a2
  dsimp only at *
  have H1 : Hid (Hm ((put3 (w.setCell ⟨p, 1, none⟩ (.int .i64 (T + 1))) q i ⟨xa, b, T + 1⟩).drew) p q m c n R (T + 1) (upd f i ⟨xa, b, T + 1⟩) D) := ((hm.turn (T + 1)).put hi _).drew
  have B1 : Hid (But (Own p q m) w ((put3 (w.setCell ⟨p, 1, none⟩ (.int .i64 (T + 1))) q i ⟨xa, b, T + 1⟩).drew)) := (((But.refl _ w).setCell (p := ⟨p, 1, none⟩) (.inl rfl) _).put3H (.inr (.inl rfl)) i _).drew
  have M1 : Hid (MapIs n (upd f i ⟨xa, b, T + 1⟩) D) := mi.turn (by rw [hfi])
  have AL : Hid (Almost n (upd f i ⟨xa, b, T + 1⟩) i) := ho.turn hi _
  have I1 : Hid (Inv n (upd f i ⟨xa, b, T + 1⟩) (ins ⟨xa, b, T + 1⟩ (rmv xa L))) := inv.change (x := ⟨xa, b, T + 1⟩) hi (by rw [hfi]) (fun y hy => by have := h.turn y hy; show y.turn < T + 1; omega) (fun k hk e => mi.inj k i hk hi (by rw [e, hfi]))
  have HS := Lib.hid hS
  have HL : Hid ((rmv xa L).length + 1 = L.length) := length_rmv ⟨_, hxL, rfl⟩
  clear hx mi ho inv hS h hm hlen hr1 hat hfi hxL
  go_enter Try.func33, Try.ntmps33
  go_wp2_with (at_lookup; refine wpList_lookup_own_ok_int (H := Unit) _ rfl _ _ 49 rfl 3 3 .i64 keyed Try.underlying49 Try.underlying3 (zero3 _) m (Maps.size D) D rfl OWN.out _ (ky xa) rfl (Maps.keyOf_int_mk Try.underlying3 (wf_of HR.out)) ?_; intro cc hcc hwc; obtain rfl := at_eq hcc AT.out; clear hcc hwc)
  go_region_law (first
    | (go_simp; go_at_call 41; refine (nextTurn_w p T _ (by exact HC1.out) (by exact HF1.out) hT0 hT).mono ?_; rintro e w' ⟨rfl, rfl⟩))
  all_goals
    generalize hw1 : World.drew _ = w1
    have H1' : Hid (Hm w1 p q m c n R (T + 1) (upd f i ⟨xa, b, T + 1⟩) D) := by rw [← hw1]; exact H1
    have B1' : Hid (But (Own p q m) w w1) := by rw [← hw1]; exact B1
    clear hw1 H1 B1 a0 a1 a2 f0 f1 f2 h2 h3
    go_wp2_with (go_at_call 43; ((with_reducible refine (settle_any p q m c n R (T + 1) (upd f i ⟨xa, b, T + 1⟩) D i w1 H1'.out M1.out hi n3 AL.out).mono ?_); rintro e w2 ⟨rfl, hd⟩; have HD := Lib.hid hd; clear hd))
    go_ret
    refine ⟨rfl, ?_⟩
    obtain ⟨f', E, st, hok⟩ := HD.out
    refine ⟨S, ⟨⟨m, _, n, f', E, st.hm.hx, st.mi, hok, I1.out.same st.same, HS.out⟩, fun y hy => ?_, fun y hy => ?_, by omega, H.out.r0, H.out.r1, by rw [length_ins, HL.out]; exact H.out.len⟩, (B1'.out.trans st.but).mono (fun k _ hk => (HS.out k).2 (own_eq.2 hk)), fun _ hk => .inl hk⟩
    · rcases mem_ins.1 hy with rfl | hy
      · exact Int.le_refl _
      · have := H.out.turn y ((rmv_sub _ _).subset hy); omega
    · rcases mem_ins.1 hy with rfl | hy
      · exact HR.out
      · exact H.out.rng y ((rmv_sub _ _).subset hy)
end Go.Proofs.Ytbfmoaojimimjaa.hea
