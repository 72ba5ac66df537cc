/- The contract of Take. -/
import Derived.Test.YtmfjlfemeihchaaC3
namespace Go.Proofs.Ytmfjlfemeihchaa
open Go.ChangeShapes Go.WideShapes Go.ChangeAt Go.RowKit Go.Deep
theorem getD_mem {K : List Nt} {k : Nat} (hk : k < K.length) : K.getD k nt0 ∈ K := by
  rw [List.getD_eq_getElem?_getD, List.getElem?_eq_getElem hk]; exact List.getElem_mem _
theorem mem_getD {K : List Nt} {y : Nt} (h : y ∈ K) : ∃ k, k < K.length ∧ K.getD k nt0 = y := by
  obtain ⟨k, hk, e⟩ := List.getElem_of_mem h
  exact ⟨k, hk, by rw [List.getD_eq_getElem?_getD, List.getElem?_eq_getElem hk]; exact e⟩
theorem take_snocN {K : List Nt} {j : Nat} (h : j < K.length) : K.take (j + 1) = K.take j ++ [K.getD j nt0] := by
  rw [List.take_succ_eq_append_getElem h]
  simp [List.getD, List.getElem?_eq_getElem h]
/-- What the map tells when the first j of K are gone. -/
def gone (L K : List Nt) (c : Int) (j : Nat) (a b : Int) : Option Nt :=
  if a = c ∧ b ∈ (K.take j).map Nt.task then none else fnd L a b
theorem gone_step {L K : List Nt} {c : Int} {j : Nat} (h : j < K.length) : gone L K c (j + 1) c (K.getD j nt0).task = none ∧ ∀ a b, ¬ (a = c ∧ b = (K.getD j nt0).task) → gone L K c (j + 1) a b = gone L K c j a b := by
  unfold gone
  rw [take_snocN h]
  refine ⟨by simp, fun a b hn => ?_⟩
  by_cases e : a = c ∧ b ∈ (K.take j).map Nt.task
  · rw [if_pos e, if_pos ⟨e.1, by rw [List.map_append]; exact List.mem_append_left _ e.2⟩]
  · rw [if_neg e, if_neg (fun e' => ?_)]
    obtain ⟨h1, h2⟩ := e'
    rw [List.map_append, List.mem_append] at h2
    rcases h2 with h2 | h2
    · exact e ⟨h1, h2⟩
    · exact hn ⟨h1, by simpa using h2⟩
theorem gone_all {C : Int} {T : Nat} {L : List Nt} (g : Gd C T L) (c now : Int) (a b : Int) : fnd (lf c now L) a b = gone L (tk c now L) c (tk c now L).length a b := by
  unfold gone
  rw [List.take_length, fnd_lf g.one]
  cases e : fnd L a b with
  | none => by_cases h : a = c ∧ b ∈ (tk c now L).map Nt.task <;> simp [h]
  | some n =>
    obtain ⟨h1, h2, h3⟩ := fnd_some e
    show (if a = c ∧ n.due ≤ now then none else some n) = _
    by_cases h : a = c ∧ n.due ≤ now
    · rw [if_pos h, if_pos ⟨h.1, List.mem_map.2 ⟨n, (tk_mem g).2 ⟨h1, h2.trans h.1, h.2⟩, h3⟩⟩]
    · rw [if_neg h, if_neg (fun h' => ?_)]
      obtain ⟨q1, q2⟩ := h'
      obtain ⟨y, y1, y2⟩ := List.mem_map.1 q2
      obtain ⟨y3, y4, y5⟩ := (tk_mem g).1 y1
      have : fnd L a b = some y := (fnd_iff g.one).2 ⟨y3, y4.trans q1.symm, y2⟩
      rw [e] at this; cases this
      exact h ⟨q1, y5⟩
/-- Within Take: the first j of K are gone, and told. -/
structure TL (w wx : World) (p m : Nat) (C : Int) (T : Nat) (L K : List Nt) (c : Int) (v vt : Value) (j : Nat) : Prop where
  hp : Blk wx p #[.int .i64 C, .int .i64 T, .map (some m)] 42
  map : ∃ D, OM wx m T D ∧ MapIs (gone L K c j) D
  o : OvP wx v K
  t : Ov wx vt ((K.take j).map Nt.task)
  but : But (Own p m) w wx
  nv : ∀ k, v.ownBlock = some k → w.heap.size ≤ k
  nt : ∀ k, vt.ownBlock = some k → w.heap.size ≤ k
  ap : ∀ k, v.ownBlock = some k → vt.ownBlock ≠ some k
theorem TL.no {w wx wy : World} {p m : Nat} {C : Int} {T : Nat} {L K : List Nt} {c : Int} {v vt : Value} {j : Nat} (h : TL w wx p m C T L K c v vt j) (hb : But No wx wy) : TL w wy p m C T L K c v vt j := by
  obtain ⟨D, h1, h2⟩ := h.map
  exact ⟨h.hp.but hb (fun f => f), ⟨D, h1.but hb (fun f => f), h2⟩, h.o.no hb, h.t.but hb (fun _ _ f => f), h.but.trans hb.no, h.nv, h.nt, h.ap⟩
/-- What a call of Take leaves. -/
structure TkEnd (w : World) (p m : Nat) (C : Int) (T : Nat) (L : List Nt) (c now : Int) (v : Value) (w' : World) : Prop where
  bp : BP w' p m C T (lf c now L)
  o : Ov w' v ((tk c now L).map Nt.task)
  but : But (Own p m) w w'
  new : ∀ k, v.ownBlock = some k → w.heap.size ≤ k
theorem lenmap (K : List Nt) {j : Nat} (h : j ≤ K.length) : ((K.take j).map Nt.task).length = j := by rw [List.length_map, List.length_take]; omega
theorem TL.turn {w wx wy : World} {p m : Nat} {C : Int} {T : Nat} {L K : List Nt} {c : Int} {v vt : Value} {j : Nat} {D : DataW Unit} (h : TL w wx p m C T L K c v vt j) (ho : OM wx m T D) (hm : MapIs (gone L K c j) D) (hl : ∀ k, Own p m k → k < w.heap.size) (hj : j < K.length) (hc : inR c) (ht : inR (K.getD j nt0).task)
    (ho' : OM wy m T (D.del (kl c (K.getD j nt0).task))) (htu : wx.mapTurned wy m) :
    Blk wy p #[.int .i64 C, .int .i64 T, .map (some m)] 42 ∧ (∃ D, OM wy m T D ∧ MapIs (gone L K c (j + 1)) D) ∧ OvP wy v K ∧ Ov wy vt ((K.take j).map Nt.task) ∧ But (Own p m) w wy := by
  have hb : But (Just m) wx wy := (But.refl _ wx).turned htu (just m)
  have hne : p ≠ m := h.hp.ne_map ho
  have hml := hl m (.inr rfl)
  refine ⟨h.hp.but hb hne, ⟨_, ho', hm.del hc ht (gone_step hj).1 (gone_step hj).2⟩, h.o.but hb (fun k e e' => ?_), h.t.but hb (fun k e e' => ?_), h.but.trans (hb.mono (fun k _ e => .inr e))⟩
  · have := h.nv k e; have e' : k = m := e'; omega
  · have := h.nt k e; have e' : k = m := e'; omega
theorem TL.app {w w1 w3 : World} {p m : Nat} {C : Int} {T : Nat} {L K : List Nt} {c : Int} {v vt v3 : Value} {j : Nat} {y : Nt} (q1 : Blk w1 p #[.int .i64 C, .int .i64 T, .map (some m)] 42) (q2 : ∃ D, OM w1 m T D ∧ MapIs (gone L K c (j + 1)) D) (q3 : OvP w1 v K) (_q4 : Ov w1 vt ((K.take j).map Nt.task)) (q5 : But (Own p m) w w1)
    (nv : ∀ k, v.ownBlock = some k → w.heap.size ≤ k) (nt : ∀ k, vt.ownBlock = some k → w.heap.size ≤ k) (ap : ∀ k, v.ownBlock = some k → vt.ownBlock ≠ some k) (hl : ∀ k, Own p m k → k < w.heap.size) (hj : j ≤ K.length) (hts : K.take (j + 1) = K.take j ++ [y])
    (ho : w3.ownsRow 0 3 1 v3 (j + 1) (((K.take j).map Nt.task).map (Value.int .i64) ++ [.int .i64 y.task])) (hg : (w1.alloc (.cells #[.int .i64 y.task] 3)).grownBy w3 vt.ownBlock) (hat : v3.ownBlock = vt.ownBlock ∨ v3.ownBlock = some (w1.alloc (.cells #[.int .i64 y.task] 3)).heap.size) :
    TL w w3 p m C T L K c v v3 (j + 1) := by
  have hb : But (fun k => vt.ownBlock = some k) w1 w3 := ((But.refl _ w1).alloc _).grown hg (fun k e => .inl e)
  have lv := q3.lt
  have s1 := q5.size
  rw [size_alloc1] at hat
  have hc : ∀ k, v3.ownBlock = some k → vt.ownBlock = some k ∨ k = w1.heap.size + 1 := fun k e => by
    rcases hat with h | h
    · exact .inl (h ▸ e)
    · rw [h] at e; exact .inr (by simpa using e.symm)
  obtain ⟨D, d1, d2⟩ := q2
  refine ⟨q1.but hb (fun e => ?_), ⟨D, d1.but hb (fun e => ?_), d2⟩, q3.but hb (fun k e e' => ap k e e'), ?_, q5.andThen hb (fun k e => .inr (nt k e)), nv, fun k e => ?_, fun k e e' => ?_⟩
  · have := nt p e; have := hl p (.inl rfl); omega
  · have := nt m e; have := hl m (.inr rfl); omega
  · unfold Ov
    rw [hts, List.map_append, List.map_append, List.length_append, lenmap K hj]
    exact ho
  · rcases hc k e with h | h
    · exact nt k h
    · omega
  · rcases hc k e' with h | h
    · exact ap k e h
    · have := lv k e; omega
set_option maxHeartbeats 4000000 in
set_option maxRecDepth 100000 in
theorem take_any (p m : Nat) (C : Int) (T : Nat) (L : List Nt) (c now : Int) (w : World) (h : BP w p m C T L) (hc : inR c) :
    Calls Try.prog 12 #[.pointer (some ⟨p, 0, none⟩), .int .i64 c, .int .i64 now] w fun r w' => ∃ v, r = .returned v ∧ TkEnd w p m C T L c now v w' := by
  have H := Lib.hid h
  have HC := Lib.hid hc
  have CD := Lib.hid (dueBy_any p m C T L c now w h hc)
  obtain ⟨K, hK⟩ : ∃ K, K = tk c now L := ⟨_, rfl⟩
  have HKE := Lib.hid hK
  rw [← hK] at CD
  have hlen : K.length ≤ 24 := by rw [hK, ← byT_tk h.gd]; exact byT_len _ _ _ _
  have HKR : Hid (∀ k, k < K.length → inR (K.getD k nt0).task) := by
    intro k hk
    have hm := getD_mem hk
    have := h.gd.rng _ ((tk_mem h.gd (c := c) (now := now)).1 (by rw [← hK]; exact hm)).1
    unfold inR; omega
  obtain ⟨i0, hi0, hz0, hz1, hz2⟩ := info_parts info3
  have I0 : Hid (Try.prog.info? 3 = some i0 ∧ i0.zero = some (.int .i64 0) ∧ i0.size = 1 ∧ i0.bytes = 8) := ⟨hi0, hz0, hz1, hz2⟩
  obtain ⟨n, hn⟩ : ∃ n, n = K.length := ⟨_, rfl⟩
  have HN := Lib.hid hn
  rw [← hn] at hlen
  have CD2 : Hid (Calls Try.prog 21 #[.pointer (some ⟨p, 0, none⟩), .int .i64 c, .int .i64 now] w fun r w' => ∃ A d, r = .returned (.slice A n d) ∧ TL w w' p m C T L K c (.slice A n d) (.slice none 0 0) 0) := by
    refine CD.out.mono ?_
    rintro r w' ⟨v, rfl, hv⟩
    obtain ⟨A, d, rfl, _⟩ := hv.o.slice
    obtain ⟨D, h1, h2⟩ := (H.out.no hv.but).map
    refine ⟨A, d, by rw [HN.out], ⟨(H.out.no hv.but).hp, ⟨D, h1, h2.congr (fun a b => by unfold gone; simp)⟩, by rw [HN.out]; exact hv.o, Ov.nil _, hv.but.no, by rw [HN.out]; exact hv.new, own_none, by simp [Value.ownBlock]⟩⟩
  have HL : Hid (∀ k, Own p m k → k < w.heap.size) := h.lt
  have HF : Hid (∀ v vt wx, TL w wx p m C T L K c v vt n → TkEnd w p m C T L c now vt wx) := by
    intro v vt wx ht
    obtain ⟨D, h1, h2⟩ := ht.map
    have e1 := HKE.out
    refine ⟨⟨ht.hp, ⟨D, h1, h2.congr (fun a b => ?_)⟩, H.out.gd.lf c now⟩, ?_, ht.but, ht.nt⟩
    · rw [gone_all H.out.gd, HN.out, e1]
    · have := ht.t; rw [HN.out, List.take_length, e1] at this; exact this
  clear h hc hK hi0 hz0 hz1 hz2 CD hn
  go_enter Try.func12, Try.ntmps12
  go_wp2_with (go_at_call 21; ((with_reducible refine CD2.out.mono ?_); rintro e w2 ⟨A, d, rfl, ht⟩; have H0 := Lib.hid ht; clear ht))
  go_loopw [7, 15] (fun s i wx => ∃ (vt : Value) (j : Nat), s = vt ∧ i = .int .i64 j ∧ j ≤ n ∧ Hid (TL w wx p m C T L K c (.slice A n d) vt j)) (fun _ i _ => n - (intOf i).toNat)
  case atStart => exact ⟨_, 0, rfl, rfl, by omega, H0⟩
  case round =>
    obtain ⟨vt, j, hs, rfl, hj, ht⟩ := hrel
    have hs' := hs.symm
    subst hs'
    clear H0
    by_cases hlt : j < n
    · have hjK : j < K.length := by rw [← HN.out]; exact hlt
      have jn : (j : Int) < (n : Int) := by omega
      obtain ⟨g, hA, hg, c0, c1, c2, _⟩ := ht.out.o.cell hjK
      have HA := Lib.hid hA
      subst hA
      obtain ⟨y, hy⟩ : ∃ y, K.getD j nt0 = y := ⟨_, rfl⟩
      have HY := Lib.hid hy
      have HTS : Hid (K.take (j + 1) = K.take j ++ [y]) := by rw [← hy]; exact take_snocN hjK
      have HYR : Hid (inR y.task) := by rw [← hy]; exact HKR.out j hjK
      rw [hy] at c0 c1 c2
      obtain ⟨yc, yt, yd, yn⟩ := y
      dsimp only at c0 c1 c2
      clear hy
      go_wp2_with fail
      generalize hwd : World.alloc _ _ = wd
      have HT2 : Hid (TL w wd p m C T L K c (.slice (some ⟨g, 0, none⟩) n d) vt j) := by rw [← hwd]; exact ht.out.no ((But.refl No wr).alloc _)
      have b0 : wd.cell? ⟨wr.heap.size, 0, none⟩ = some (.int .i64 yt) := by rw [← hwd]; exact (Blk.new wr _ _).cell (o := 0) rfl
      have HB0 : Hid (w.heap.size ≤ wr.heap.size) := ht.out.but.size
      have d2 : wd.cell? ⟨p, 2, none⟩ = some (.map (some m)) := HT2.out.hp.cell (o := 2) rfl
      obtain ⟨D, hD1, hD2⟩ := HT2.out.map
      have HD1 := Lib.hid hD1
      have HD2 := Lib.hid hD2
      clear hwd c0 c1 c2 hD1 hD2 ht
      go_still_tail 8, (by kernel_rfl)
      refine wpList_delete_own (H := Unit) _ rfl _ _ 40 48 rfl 50 keyed48 Try.underlying40 noteR m T D rfl (show OM wd.drew m T D from HD1.out) _ (kl c yt) rfl (kl_is HC.out HYR.out) ?_
      intro w1 hown1 ht1
      have HT3 := Lib.hid (TL.turn (HT2.out.no (But.refl No wd).drew) (show OM wd.drew m T D from HD1.out) HD2.out HL.out hjK HC.out (HKR.out j hjK) (by rw [HY.out]; exact hown1) ht1)
      have b0' : w1.cell? ⟨wr.heap.size, 0, none⟩ = some (.int .i64 yt) := by
        have hb : But (Just m) wd.drew w1 := (But.refl _ _).turned ht1 (just m)
        have hml := HL.out m (.inr rfl)
        have := HB0.out
        rw [hb.cell (b := wr.heap.size) (o := 0) (World.block_lt_of_cell? wd _ b0) (fun e => by have e' : wr.heap.size = m := e; omega)]
        exact b0
      clear hown1 ht1 b0 d2 HD1 HD2
      have ROW : Hid ((w1.alloc (.cells #[.int .i64 yt] 3)).ownsRow 0 3 1 vt j (((K.take j).map Nt.task).map (Value.int .i64))) := by
        have := owns_but (S := No) HT3.out.2.2.2.1 ((But.refl No w1).alloc (.cells #[.int .i64 yt] 3)) (fun _ _ f => f)
        rw [lenmap K (by rw [← HN.out]; omega)] at this; exact this
      have AFT : Hid (∀ v3 w3, w3.ownsRow 0 3 1 v3 (j + 1) (((K.take j).map Nt.task).map (Value.int .i64) ++ [.int .i64 yt]) → (w1.alloc (.cells #[.int .i64 yt] 3)).grownBy w3 vt.ownBlock → (v3.ownBlock = vt.ownBlock ∨ v3.ownBlock = some (w1.alloc (.cells #[.int .i64 yt] 3)).heap.size) → TL w w3 p m C T L K c (.slice (some ⟨g, 0, none⟩) n d) v3 (j + 1)) := by
        intro v3 w3 ho hg hat
        obtain ⟨q1, q2, q3, q4, q5⟩ := HT3.out
        exact TL.app q1 q2 q3 q4 q5 HT2.out.nv HT2.out.nt HT2.out.ap HL.out (by rw [← HN.out]; omega) HTS.out ho hg hat
      go_wp2_with (at_builtin; refine wpList_append_sh _ rfl _ _ 34 rfl 3 i0 _ 1 8 Try.underlying34 I0.out.1 I0.out.2.1 I0.out.2.2.1 I0.out.2.2.2 rfl (by omega) vt j _ rfl ROW.out (w1.heap.size + 1) (some ⟨w1.heap.size, 0, none⟩) 1 1 [.int .i64 yt] rfl (one_reads w1 yt) (one_cell yt) (by unfold maxLen; omega) (by omega) ?_; intro A3 c3 w3 hown hgrow hat; have HF3 := Lib.hid (AFT.out _ w3 hown hgrow hat); clear hown hgrow hat)
      clear HT3 ROW AFT b0'
      go_roundw
      case rel => exact ⟨_, j + 1, rfl, by go_num, by omega, HF3⟩
      case measure => simp [intOf]; omega
    · obtain rfl : j = n := by omega
      have hE := Lib.hid (HF.out _ _ _ ht.out)
      clear ht
      go_wp2
      go_ret
      exact ⟨_, rfl, hE.out⟩
end Go.Proofs.Ytmfjlfemeihchaa
