/- A heap's state as a list in its order; rows and what owns them; removeAt. -/
import Derived.Test.YtbfmoaojimimjaaHeC3
import Derived.Deep.AppendLies
import Derived.Deep.RegionLaw
namespace Go.Proofs.Ytbfmoaojimimjaa.hea
open Go.ChangeShapes Go.WideShapes Go.ChangeAt Go.RowKit
theorem owns_but {w w' : World} {e : TypeId} {sz n : Nat} {v : Value} {xs : List Value} {S : Nat → Prop} (h : w.ownsRow 0 e sz v n xs) (hb : But S w w') (hs : ∀ k, v.ownBlock = some k → ¬ S k) : w'.ownsRow 0 e sz v n xs := by
  have hl := h.lt
  obtain ⟨h1, h2⟩ := h
  refine ⟨h1, ?_⟩
  rcases h2 with h2 | ⟨g, cap, cur, hv, hg, hh, r⟩
  · exact .inl h2
  · refine .inr ⟨g, cap, cur, hv, hg, ?_, r⟩
    have hk : v.ownBlock = some g := by rw [hv]; rfl
    rw [hb.block g (hl g hk).2 (hs g hk)]; exact hh
/-- The flat cells of n items. -/
def Xs (xs : List Value) (n : Nat) (f : Nat → It) : Prop := ∀ i, i < n → xs[i * 3]? = some (.int .i64 (f i).id) ∧ xs[i * 3 + 1]? = some (.int .i64 (f i).key) ∧ xs[i * 3 + 2]? = some (.int .i64 (f i).turn)
def RowV (w : World) (v : Value) (n : Nat) (f : Nat → It) : Prop := ∃ xs, w.ownsRow 0 67 3 v n xs ∧ Xs xs n f
theorem Rw.rowV {w : World} {q c n : Nat} {f : Nat → It} (h : Rw w q c n f) : RowV w (.slice (some ⟨q, 0, none⟩) n c) n f := by
  obtain ⟨cur, h1, h2, h3, h4, h5⟩ := h
  refine ⟨cur.toList.take (n * 3), ⟨?_, .inr ⟨q, c, cur, rfl, Nat.zero_le _, h1, h3, h4, h2, rfl⟩⟩, fun i hi => ?_⟩
  · rw [List.length_take, Array.length_toList, h2]
    have := Nat.mul_le_mul_right 3 h3
    omega
  · obtain ⟨a, b, d⟩ := h5 i hi
    simp only [List.getElem?_take, Array.getElem?_toList]
    rw [if_pos (by omega), if_pos (by omega), if_pos (by omega)]
    exact ⟨a, b, d⟩
theorem RowV.rw {w : World} {q c n : Nat} {f : Nat → It} (h : RowV w (.slice (some ⟨q, 0, none⟩) n c) n f) : Rw w q c n f := by
  obtain ⟨xs, ⟨h1, h2⟩, hx⟩ := h
  rcases h2 with ⟨h2, _⟩ | ⟨g, cap, cur, hv, _, hh, hn, hc, hs, ht⟩
  · cases h2
  · cases hv
    refine ⟨cur, hh, hs, hn, hc, fun i hi => ?_⟩
    obtain ⟨a, b, d⟩ := hx i hi
    rw [← ht] at a b d
    simp only [List.getElem?_take, Array.getElem?_toList] at a b d
    rw [if_pos (by omega)] at a b d
    exact ⟨a, b, d⟩
theorem RowV.but {w w' : World} {v : Value} {n : Nat} {f : Nat → It} {S : Nat → Prop} (h : RowV w v n f) (hb : But S w w') (hs : ∀ k, v.ownBlock = some k → ¬ S k) : RowV w' v n f := by
  obtain ⟨xs, h1, h2⟩ := h; exact ⟨xs, owns_but h1 hb hs, h2⟩
theorem RowV.pos {w : World} {v : Value} {n : Nat} {f : Nat → It} (h : RowV w v n f) (hn : 0 < n) : ∃ q c, v = .slice (some ⟨q, 0, none⟩) n c ∧ Rw w q c n f := by
  have h' := h
  obtain ⟨xs, ⟨h1, h2⟩, hx⟩ := h
  rcases h2 with ⟨_, h2⟩ | ⟨g, cap, cur, hv, _⟩
  · omega
  · exact ⟨g, cap, hv, by rw [hv] at h'; exact h'.rw⟩
theorem RowV.slice {w : World} {v : Value} {n : Nat} {f : Nat → It} (h : RowV w v n f) : ∃ A c, v = .slice A n c ∧ n ≤ c := by
  obtain ⟨xs, ⟨h1, h2⟩, hx⟩ := h
  rcases h2 with ⟨h2, e⟩ | ⟨g, cap, cur, hv, _, _, hc, _⟩
  · exact ⟨none, 0, by rw [e]; exact h2, by omega⟩
  · exact ⟨_, _, hv, hc⟩
/-- The blocks of a heap. -/
structure Hx (w : World) (p m : Nat) (v : Value) (n : Nat) (R T : Int) (f : Nat → It) (D : DataW Unit) : Prop where
  pm : p ≠ m
  pv : v.ownBlock ≠ some p
  mv : v.ownBlock ≠ some m
  hp : Blk w p #[.int .i64 R, .int .i64 T, v, .map (some m)] 65
  row : RowV w v n f
  own : OM w m (Maps.size D) D
def OwnV (p m : Nat) (v : Value) : Nat → Prop := fun k => k = p ∨ v.ownBlock = some k ∨ k = m
theorem Hx.hm {w : World} {p m : Nat} {v : Value} {n : Nat} {R T : Int} {f : Nat → It} {D : DataW Unit} (h : Hx w p m v n R T f D) (hn : 0 < n) : ∃ q c, v = .slice (some ⟨q, 0, none⟩) n c ∧ Hm w p q m c n R T f D := by
  obtain ⟨q, c, hv, hr⟩ := h.row.pos hn
  subst hv
  exact ⟨q, c, rfl, ⟨fun e => h.pv (by rw [e]; rfl), h.pm, fun e => h.mv (by rw [← e]; rfl), h.hp, hr, h.own⟩⟩
theorem Hm.hx {w : World} {p q m c n : Nat} {R T : Int} {f : Nat → It} {D : DataW Unit} (h : Hm w p q m c n R T f D) : Hx w p m (.slice (some ⟨q, 0, none⟩) n c) n R T f D :=
  ⟨h.pm, fun e => h.pq (by simpa [Value.ownBlock] using e.symm), fun e => h.qm (by simpa [Value.ownBlock] using e), h.hp, h.hq.rowV, h.own⟩
theorem Hx.but {w w' : World} {p m : Nat} {v : Value} {n : Nat} {R T : Int} {f : Nat → It} {D : DataW Unit} {S : Nat → Prop} (h : Hx w p m v n R T f D) (hb : But S w w') (hs : ∀ k, OwnV p m v k → ¬ S k) : Hx w' p m v n R T f D :=
  ⟨h.pm, h.pv, h.mv, h.hp.but hb (hs p (.inl rfl)), h.row.but hb (fun k e => hs k (.inr (.inl e))), h.own.but hb (hs m (.inr (.inr rfl)))⟩
theorem Hx.lt {w : World} {p m : Nat} {v : Value} {n : Nat} {R T : Int} {f : Nat → It} {D : DataW Unit} (h : Hx w p m v n R T f D) : ∀ k, OwnV p m v k → k < w.heap.size := by
  rintro k (rfl | e | rfl)
  · exact h.hp.lt
  · obtain ⟨xs, h1, _⟩ := h.row; exact (h1.lt k e).2
  · exact World.ownsMap.lt h.own
/-- At p there is a heap for R ids that has had T turns, and holds L, in its order; its blocks are S. -/
structure HP (w : World) (S : Nat → Prop) (p : Nat) (R T : Int) (L : List It) : Prop where
  ex : ∃ m v n f D, Hx w p m v n R T f D ∧ MapIs n f D ∧ HeapOK n f ∧ Inv n f L ∧ ∀ k, S k ↔ OwnV p m v k
  turn : ∀ x ∈ L, x.turn ≤ T
  rng : ∀ x ∈ L, inR x.id
  t0 : 0 ≤ T
  r0 : 0 ≤ R
  r1 : R ≤ 256
  len : (L.length : Int) ≤ R
theorem HP.but {w w' : World} {S S' : Nat → Prop} {p : Nat} {R T : Int} {L : List It} (h : HP w S p R T L) (hb : But S' w w') (hs : ∀ k, S k → ¬ S' k) : HP w' S p R T L := by
  obtain ⟨m, v, n, f, D, h1, h2, h3, h4, h5⟩ := h.ex
  exact ⟨⟨m, v, n, f, D, h1.but hb (fun k hk => hs k ((h5 k).2 hk)), h2, h3, h4, h5⟩, h.turn, h.rng, h.t0, h.r0, h.r1, h.len⟩
theorem HP.lt {w : World} {S : Nat → Prop} {p : Nat} {R T : Int} {L : List It} (h : HP w S p R T L) : ∀ k, S k → k < w.heap.size := by
  obtain ⟨m, v, n, f, D, h1, h2, h3, h4, h5⟩ := h.ex
  exact fun k hk => h1.lt k ((h5 k).1 hk)
/-- From one state of the heap to another one. -/
def Mv (w : World) (S : Nat → Prop) (p : Nat) (R T : Int) (L : List It) (w' : World) : Prop :=
  ∃ S', HP w' S' p R T L ∧ But S w w' ∧ ∀ k, S' k → S k ∨ w.heap.size ≤ k
theorem HP.stay {w w' : World} {S : Nat → Prop} {p : Nat} {R T : Int} {L : List It} (h : HP w S p R T L) (hb : But No w w') : Mv w S p R T L w' := ⟨S, h.but hb (fun _ _ f => f), hb.no, fun _ h => .inl h⟩
theorem Mv.trans {w w' w'' : World} {S : Nat → Prop} {p : Nat} {R T T' : Int} {L L' : List It} (h : Mv w S p R T L w') (k : ∀ S', HP w' S' p R T L → Mv w' S' p R T' L' w'') : Mv w S p R T' L' w'' := by
  obtain ⟨S', h1, h2, h3⟩ := h
  obtain ⟨S'', k1, k2, k3⟩ := k S' h1
  refine ⟨S'', k1, h2.andThen k2 h3, fun j hj => ?_⟩
  rcases k3 j hj with h | h
  · exact h3 j h
  · have := h2.size; exact .inr (by omega)
theorem MapIs.del {l : Nat} {f : Nat → It} {D : DataW Unit} (h : MapIs (l + 1) f D) : MapIs l f (D.del (ky (f l).id)) := by
  refine ⟨h.tidy.del _, ?_, fun i hi => ?_, fun a ha => ?_, fun i j hi hj => h.inj i j (by omega) (by omega), fun i hi => h.rng i (by omega)⟩
  · have := Maps.size_del (k := ky (f l).id) h.tidy
    rw [if_pos (h.at_ l (by omega)).1, h.sz] at this
    omega
  · have hne : ky (f i).id ≠ ky (f l).id := ky_ne (fun e => by have := h.inj i l (by omega) (by omega) e; omega)
    rw [Maps.has_del_other hne]
    exact ⟨(h.at_ i (by omega)).1, fun z => by rw [Maps.atKey_del_other hne]; exact (h.at_ i (by omega)).2 z⟩
  · by_cases e : a = (f l).id
    · rw [e]; exact Maps.has_del_same
    · rw [Maps.has_del_other (ky_ne e)]
      refine h.no a fun i hi => ?_
      by_cases e' : i = l
      · subst e'; exact fun h => e h.symm
      · exact ha i (by omega)
theorem HeapOK.removed {l i : Nat} {f : Nat → It} (h : HeapOK (l + 1) f) (hi : i < l) : Almost l (swp f i l) i := by
  refine ⟨fun k k0 kn ki kp => ?_, fun k k0 kn kp i0 => ?_⟩
  · have := par_lt k0
    rw [swp_other f ki (by omega), swp_other f kp (by omega)]; exact h k k0 (by omega)
  · have p1 := par_lt k0
    have p2 := par_lt i0
    rw [swp_other f (by omega) (by omega), swp_other f (by omega) (by omega)]
    have a := h k k0 (by omega)
    rw [kp] at a
    exact nah_trans (h i i0 (by omega)) a
theorem HeapOK.cut {l : Nat} {f : Nat → It} (h : HeapOK (l + 1) f) : HeapOK l (swp f l l) := by
  intro k k0 kn
  have := par_lt k0
  rw [swp_other f (by omega) (by omega), swp_other f (by omega) (by omega)]; exact h k k0 (by omega)
def RemEnd (w : World) (p q m c l : Nat) (R T : Int) (f : Nat → It) (i : Nat) (w' : World) : Prop :=
  ∃ f' D', Hm w' p q m c l R T f' D' ∧ MapIs l f' D' ∧ HeapOK l f' ∧ (∀ L, Inv (l + 1) f L → Inv l f' (rmv (f i).id L)) ∧ But (Own p q m) w w'
set_option maxHeartbeats 4000000 in
set_option maxRecDepth 100000 in
theorem removeAt_any (p q m c n l : Nat) (R T : Int) (f : Nat → It) (D : DataW Unit) (i : Nat) (w : World) (hnl : n = l + 1) (hm : Hm w p q m c n R T f D) (mi : MapIs n f D) (hp : HeapOK n f) (hi : i < n) (hn : n ≤ 256) :
    Calls Try.prog 44 #[.pointer (some ⟨p, 0, none⟩), .int .i64 i] w fun r w' => r = .returned (.tuple #[]) ∧ RemEnd w p q m c l R T f i w' := by
  have HM := Lib.hid hm
  have MI := Lib.hid mi
  have HPP := Lib.hid hp
  have h2 : w.cell? ⟨p, 2, none⟩ = some (.slice (some ⟨q, 0, none⟩) n c) := hm.hp.cell (o := 2) rfl
  have hc := hm.hq.cap
  have hl1 : (n : Int) - 1 = (l : Int) := by omega
  have hln : (l : Int) < (n : Int) := by omega
  have hlc : (l : Int) ≤ (c : Int) := by omega
  have hlN : l < n := by omega
  have HNL := Lib.hid hnl
  clear hm mi hp hnl
  go_enter Try.func44, Try.ntmps44
  go_wp2_with fail
  refine (swap_any p q m c n R T f D i l w HM.out MI.out hi hlN hn).mono ?_
  rintro e w1 ⟨rfl, D1, h1, m1, b1⟩
  have H1 := Lib.hid h1
  have M1 := Lib.hid m1
  have B1 := Lib.hid b1
  clear h1 m1 b1 h2
  have h2 : w1.cell? ⟨p, 2, none⟩ = some (.slice (some ⟨q, 0, none⟩) n c) := H1.out.hp.cell (o := 2) rfl
  have h3 : w1.cell? ⟨p, 3, none⟩ = some (.map (some m)) := H1.out.hp.cell (o := 3) rfl
  have hl := (H1.out.hq.cells (i := l) hlN).1
  rw [swp_right] at hl
  have RI : Hid (inR (f i).id) := MI.out.rng i hi
  obtain ⟨a, ha⟩ : ∃ a, a = (f i).id := ⟨_, rfl⟩
  rw [← ha] at hl RI
  have HA := Lib.hid ha
  clear ha
  go_wp2_with fail
  go_still_tail 12, (by kernel_rfl)
  refine wpList_delete_own (H := Unit) _ rfl _ _ 49 3 rfl 3 keyed Try.underlying49 (plainElem Try.prog 3) m (Maps.size D1) D1 rfl (show OM w1.drew m (Maps.size D1) D1 from H1.out.own) _ (ky _) rfl (Maps.keyOf_int_mk Try.underlying3 (wf_of RI.out)) ?_
  intro w2 hown2 ht2
  have H2 : Hid (Hm w2 p q m c n R T (swp f i l) _) := H1.out.drew.turnedH ht2 hown2
  have B2 : Hid (But (Own p q m) w w2) := B1.out.drew.turnedH ht2 (.inr (.inr rfl))
  clear h2 h3 hl hown2 ht2
  have h2 : w2.cell? ⟨p, 2, none⟩ = some (.slice (some ⟨q, 0, none⟩) n c) := H2.out.hp.cell (o := 2) rfl
  have f2 := H2.out.hp.frozen 2
  have H3 : Hid (Hm (w2.setCell ⟨p, 2, none⟩ (.slice (some ⟨q, 0, none⟩) l c)) p q m c l R T (swp f i l) (D1.del (ky a))) :=
    have hb : But (Just p) w2 (w2.setCell ⟨p, 2, none⟩ (.slice (some ⟨q, 0, none⟩) l c)) := (But.refl _ w2).setCell (p := ⟨p, 2, none⟩) (just p) _
    ⟨H2.out.pq, H2.out.pm, H2.out.qm, H2.out.hp.set 2 _, (H2.out.hq.less (Nat.le_of_lt hlN)).but hb (fun e => H2.out.pq e.symm), H2.out.own.but hb (fun e => H2.out.pm e.symm)⟩
  have B3 : Hid (But (Own p q m) w (w2.setCell ⟨p, 2, none⟩ (.slice (some ⟨q, 0, none⟩) l c))) := B2.out.setCell (p := ⟨p, 2, none⟩) (.inl rfl) _
  have M3 : Hid (MapIs l (swp f i l) (D1.del (ky a))) := by
    have := M1.out
    rw [HNL.out] at this
    have := this.del
    rw [swp_right, ← HA.out] at this
    exact this
  have HI : Hid (∀ L, Inv (l + 1) f L → Inv l (swp f i l) (rmv (f i).id L)) := by
    intro L hL
    have h := (hL.same (Same.swp f (i := i) (j := l) (by have := HNL.out; omega) (by omega))).pop (fun k hk e => by
      have := M1.out.inj k l (by have := HNL.out; omega) hlN e; omega)
    rw [swp_right] at h
    exact h
  by_cases il : i < l
  · have il' : decide ((i : Int) < (l : Int)) = true := by simp; omega
    have il2 : (i : Int) < (l : Int) := by omega
    have AL : Hid (Almost l (swp f i l) i) := HeapOK.removed (by have := HPP.out; rw [HNL.out] at this; exact this) il
    go_wp2_with (go_at_call 43; ((with_reducible refine (settle_any p q m c l R T (swp f i l) (D1.del (ky a)) i _ H3.out M3.out il (by omega) AL.out).mono ?_); rintro e w4 ⟨rfl, hd⟩; have HD := Lib.hid hd; clear hd))
    go_end0
    obtain ⟨g, E, st, ho⟩ := HD.out
    exact ⟨rfl, g, E, st.hm, st.mi, ho, fun L hL => (HI.out L hL).same st.same, B3.out.trans st.but⟩
  · have il' : decide ((i : Int) < (l : Int)) = false := by simp; omega
    have ei : Hid (i = l) := by show _ = _; have := HNL.out; omega
    go_wp2
    go_end0
    refine ⟨rfl, _, _, H3.out, M3.out, ?_, HI.out, B3.out⟩
    rw [ei.out]
    exact HeapOK.cut (by have := HPP.out; rw [HNL.out] at this; exact this)
end Go.Proofs.Ytbfmoaojimimjaa.hea
