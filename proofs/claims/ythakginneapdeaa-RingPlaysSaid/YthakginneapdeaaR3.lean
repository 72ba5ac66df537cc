/- The document's own ring: Drop, Take. -/
import Derived.Test.YthakginneapdeaaR2
namespace Go.Proofs.Ythakginneapdeaa
open Go.ChangeShapes Go.WideShapes Go.ChangeAt Go.RowKit Go.Deep
/-- Without what stands at a place, as far as j. -/
def upTo (L : List It) (at_ j : Nat) : List It := (L.take j).eraseIdx at_
theorem upTo_zero (L : List It) (at_ : Nat) : upTo L at_ 0 = [] := by simp [upTo]
theorem upTo_at {L : List It} {j : Nat} (hj : j < L.length) : upTo L j (j + 1) = upTo L j j := by
  unfold upTo
  apply List.ext_getElem?
  intro i
  rw [List.getElem?_eraseIdx, List.getElem?_eraseIdx]
  by_cases hi : i < j
  · simp [hi, show i < j + 1 by omega]
  · simp only [hi, if_false, List.getElem?_take]; rw [if_neg (by omega), if_neg (by omega)]
theorem upTo_next {L : List It} {at_ j : Nat} (hj : j < L.length) (hne : j ≠ at_) : upTo L at_ (j + 1) = upTo L at_ j ++ [L.getD j it0] := by
  have e : L.take (j + 1) = L.take j ++ [L.getD j it0] := by
    rw [List.take_succ_eq_append_getElem hj]; simp [List.getD, List.getElem?_eq_getElem hj]
  unfold upTo
  rw [e]
  by_cases h : at_ < j
  · rw [List.eraseIdx_append_of_lt_length (by rw [List.length_take]; omega)]
  · rw [List.eraseIdx_of_length_le (l := L.take j ++ [L.getD j it0]) (by simp; omega), List.eraseIdx_of_length_le (l := L.take j) (by simp; omega)]
theorem upTo_all (L : List It) (at_ : Nat) : upTo L at_ L.length = L.eraseIdx at_ := by unfold upTo; rw [List.take_length]
theorem upTo_len (L : List It) (at_ j : Nat) : (upTo L at_ j).length ≤ L.length := by
  unfold upTo
  exact Nat.le_trans (List.eraseIdx_sublist _ _).length_le (by rw [List.length_take]; omega)
/-- The two new lists of Drop. -/
structure Two (w wx : World) (va vb : Value) (M : List It) : Prop where
  oa : Ov wx va (M.map It.id)
  ob : Ov wx vb (M.map It.tk)
  but : But No w wx
  na : ∀ q, va.ownBlock = some q → w.heap.size ≤ q
  nb : ∀ q, vb.ownBlock = some q → w.heap.size ≤ q
  d : ∀ q, va.ownBlock = some q → vb.ownBlock ≠ some q
theorem Two.app {w wx w1 w2 : World} {va vb : Value} {M : List It} {y : It} {m g1 c1 g2 c2 : Nat} (h : Two w wx va vb M) (hm : M.length = m)
    (ho1 : w1.ownsRow 0 3 1 (.slice (some ⟨g1, 0, none⟩) (m + 1) c1) (m + 1) ((M.map It.id).map (Value.int .i64) ++ [.int .i64 y.id])) (hg1 : (wx.alloc (.cells #[.int .i64 y.id] 3)).grownBy w1 va.ownBlock) (hat1 : va.ownBlock = some g1 ∨ g1 = wx.heap.size + 1)
    (ho2 : w2.ownsRow 0 3 1 (.slice (some ⟨g2, 0, none⟩) (m + 1) c2) (m + 1) ((M.map It.tk).map (Value.int .i64) ++ [.int .i64 y.tk])) (hg2 : (w1.alloc (.cells #[.int .i64 y.tk] 3)).grownBy w2 vb.ownBlock) (hat2 : vb.ownBlock = some g2 ∨ g2 = w1.heap.size + 1) :
    Two w w2 (.slice (some ⟨g1, 0, none⟩) (m + 1) c1) (.slice (some ⟨g2, 0, none⟩) (m + 1) c2) (M ++ [y]) := by
  have la : ∀ q, va.ownBlock = some q → q < wx.heap.size := fun q e => (World.ownsRow.lt h.oa q e).2
  have lb : ∀ q, vb.ownBlock = some q → q < wx.heap.size := fun q e => (World.ownsRow.lt h.ob q e).2
  have b1 : But (fun k => va.ownBlock = some k) wx w1 := ((But.refl _ wx).alloc _).grown hg1 (fun k e => .inl e)
  have b2 : But (fun k => vb.ownBlock = some k) w1 w2 := ((But.refl _ w1).alloc _).grown hg2 (fun k e => .inl e)
  have s1 : wx.heap.size + 1 ≤ w1.heap.size := by have := hg1.size; rw [size_alloc1] at this; exact this
  have hwx := h.but.size
  have hg1' : ∀ q, (Value.slice (some ⟨g1, 0, none⟩) (m + 1) c1).ownBlock = some q → va.ownBlock = some q ∨ q = wx.heap.size + 1 := fun q e => by
    have e' : q = g1 := by simpa [Value.ownBlock] using e.symm
    subst e'; exact hat1
  have hg2' : ∀ q, (Value.slice (some ⟨g2, 0, none⟩) (m + 1) c2).ownBlock = some q → vb.ownBlock = some q ∨ q = w1.heap.size + 1 := fun q e => by
    have e' : q = g2 := by simpa [Value.ownBlock] using e.symm
    subst e'; exact hat2
  refine ⟨?_, ?_, ?_, fun q e => ?_, fun q e => ?_, fun q e e2 => ?_⟩
  · have : Ov w1 (.slice (some ⟨g1, 0, none⟩) (m + 1) c1) ((M ++ [y]).map It.id) := by
      unfold Ov; rw [List.map_append, List.map_append, List.length_append, List.length_map, hm]; exact ho1
    refine this.but b2 (fun k e e' => ?_)
    rcases hg1' k e with e1 | e1
    · exact h.d k e1 e'
    · have := lb k e'; omega
  · unfold Ov; rw [List.map_append, List.map_append, List.length_append, List.length_map, hm]; exact ho2
  · exact (h.but.andThen b1 (fun k e => .inr (h.na k e))).andThen b2 (fun k e => .inr (h.nb k e))
  · rcases hg1' q e with e1 | e1
    · exact h.na q e1
    · omega
  · rcases hg2' q e with e1 | e1
    · exact h.nb q e1
    · omega
  · rcases hg2' q e2 with e3 | e3
    · rcases hg1' q e with e1 | e1
      · exact h.d q e1 e3
      · have := lb q e3; omega
    · rcases hg1' q e with e1 | e1
      · have := la q e1; omega
      · omega
theorem RF.end_ {w wx : World} {S : Nat → Prop} {x : Nat} {R T : Int} {L M : List It} {va vb : Value} (h : RF w S x R T L) (ht : Two w wx va vb M) (hM : M.length ≤ 256) :
    Rm w S x R T M ((wx.setCell ⟨x, 1, none⟩ va).setCell ⟨x, 2, none⟩ vb) := by
  obtain ⟨v1, v2, h1, h2⟩ := h.ex
  have hxl := h1.hx.lt
  have nxa : va.ownBlock ≠ some x := fun e => by have := ht.na x e; omega
  have nxb : vb.ownBlock ≠ some x := fun e => by have := ht.nb x e; omega
  have hb : But (Just x) wx ((wx.setCell ⟨x, 1, none⟩ va).setCell ⟨x, 2, none⟩ vb) := ((But.refl _ wx).setCell (p := ⟨x, 1, none⟩) (just x) _).setCell (p := ⟨x, 2, none⟩) (just x) _
  refine ⟨OwnX x va vb, ⟨⟨va, vb, ⟨((h1.hx.but ht.but (fun f => f)).set 1 va).set 2 vb, ht.oa.but hb (fun k e e' => nxa (e' ▸ e)), ht.ob.but hb (fun k e e' => nxb (e' ▸ e)), nxa, nxb, ht.d⟩, fun _ => Iff.rfl⟩, hM⟩, (ht.but.no.setCell (p := ⟨x, 1, none⟩) ((h2 x).2 (.inl rfl)) _).setCell (p := ⟨x, 2, none⟩) ((h2 x).2 (.inl rfl)) _, ?_⟩
  rintro k (e | e | e)
  · exact .inl ((h2 k).2 (.inl e))
  · exact .inr (ht.na k e)
  · exact .inr (ht.nb k e)
set_option maxHeartbeats 4000000 in
set_option maxRecDepth 100000 in
theorem rdrop_any (x : Nat) (R T : Int) (L : List It) (S : Nat → Prop) (w : World) (a : Int) (h : RF w S x R T L) :
    Calls Try.prog 16 #[.pointer (some ⟨x, 0, none⟩), .int .i64 a] w fun r w' => r = .returned (.bool (hasI L a)) ∧ Rm w S x R T (rmv L a) w' := by
  have hl := h.len
  have CP := Lib.hid (rplace_any x R T L S w a h)
  have H := Lib.hid h
  rcases idx_cases L a with ⟨at_, hk, hkl, hk1, hk2⟩ | ⟨hk, hk2⟩
  · have e1 : hasI L a = true := by unfold hasI; rw [hk]; simp
    have e2 : rmv L a = L.eraseIdx at_ := by unfold rmv; rw [hk, if_pos (by omega)]; rfl
    rw [hk] at CP
    rw [e1, e2]
    obtain ⟨v1, v2, h1, h2⟩ := h.ex
    obtain ⟨A1, c1, A2, c2, rfl, rfl, l1, l2⟩ := h1.head
    rw [List.length_map] at h1 h2 l1 l2
    rw [List.length_map] at h1 h2
    obtain ⟨n, hn⟩ : ∃ n, n = L.length := ⟨_, rfl⟩
    have HN := Lib.hid hn
    rw [← hn] at h1 h2 hl l1 l2
    have HX := Lib.hid h1
    obtain ⟨i0, hi0, hz0, hz1, hz2⟩ := info_parts info3
    have I0 : Hid (Try.prog.info? 3 = some i0 ∧ i0.zero = some (.int .i64 0) ∧ i0.size = 1 ∧ i0.bytes = 8) := ⟨hi0, hz0, hz1, hz2⟩
    have b1 : decide ((at_ : Int) < 0) = false := by simp
    have hat9 : at_ ≤ 256 := by omega
    clear h hk hk1 hk2 e1 e2 hkl h1 h2 hn hi0 hz0 hz1 hz2
    go_enter Try.func16, Try.ntmps16
    go_wp2_with (go_at_call 22; refine CP.out.mono ?_; rintro e w2 ⟨rfl, hw2⟩; subst hw2)
    have H5 : Hid (Two w2 w2 (.slice none 0 0) (.slice none 0 0) (upTo L at_ 0)) := by
      show Two _ _ _ _ _
      rw [upTo_zero]
      exact ⟨Ov.nil _, Ov.nil _, But.refl _ _, by simp [Value.ownBlock], by simp [Value.ownBlock], by simp [Value.ownBlock]⟩
    go_loopw [6, 7, 8] (fun s t i wx => ∃ (va vb : Value) (j : Nat), s = va ∧ t = vb ∧ i = .int .i64 j ∧ j ≤ n ∧ Hid (Two w2 wx va vb (upTo L at_ j))) (fun _ _ i _ => n - (intOf i).toNat)
    case atStart => exact ⟨_, _, 0, rfl, rfl, rfl, by omega, H5⟩
    case round =>
      obtain ⟨va, vb, j, hsa, hsb, rfl, hj, htw⟩ := hrel
      have hsa' := hsa.symm
      have hsb' := hsb.symm
      subst hsa' hsb'
      clear H5
      have HXr := Lib.hid (HX.out.but htw.out.but (fun _ _ f => f))
      have d1 : wr.cell? ⟨x, 1, none⟩ = some (.slice A1 n c1) := HXr.out.hx.cell (o := 1) rfl
      by_cases hjl : j < n
      · have hjL : j < L.length := by rw [← HN.out]; exact hjl
        have jn : (j : Int) < (n : Int) := by omega
        by_cases hja : j = at_
        · have bj : ((j : Int) != (at_ : Int)) = false := by simp; omega
          have HF : Hid (Two w2 wr va vb (upTo L at_ (j + 1))) := by have := htw.out; show Two _ _ _ _ _; rw [← hja] at this ⊢; rw [upTo_at hjL]; exact this
          clear hja htw
          go_wp2
          go_roundw
          case rel => exact ⟨_, _, j + 1, rfl, rfl, by go_num, by omega, HF⟩
          case measure => simp [intOf]; omega
        · have bj : ((j : Int) != (at_ : Int)) = true := by simp; omega
          obtain ⟨q1, hA1, hq1, e1⟩ := ov_cell (k := j) HXr.out.o1 (by rw [List.length_map, ← HN.out]; omega) (by rw [List.length_map]; exact hjL)
          obtain ⟨q2, hA2, hq2, e2⟩ := ov_cell (k := j) HX.out.o2 (by rw [List.length_map, ← HN.out]; omega) (by rw [List.length_map]; exact hjL)
          rw [map_getD_id L hjL] at e1
          rw [map_getD_tk L hjL] at e2
          have HA1 := Lib.hid hA1
          have HA2 := Lib.hid hA2
          rw [hA1] at d1
          have HNX := Lib.hid (upTo_next hjL hja)
          obtain ⟨y, hy⟩ : ∃ y, L.getD j it0 = y := ⟨_, rfl⟩
          rw [hy] at e1 e2 HNX
          obtain ⟨ya, yb⟩ := y
          dsimp only at e1 e2
          obtain ⟨m, hm⟩ : ∃ m, (upTo L at_ j).length = m := ⟨_, rfl⟩
          have hm2 : m ≤ 256 := by rw [← hm]; have := upTo_len L at_ j; have := HN.out; omega
          have HM := Lib.hid hm
          have HLA : Hid (((upTo L at_ j).map It.id).length = m ∧ ((upTo L at_ j).map It.tk).length = m) := by rw [List.length_map, List.length_map]; exact ⟨hm, hm⟩
          have ROW1 : Hid ((wr.alloc (.cells #[.int .i64 ya] 3)).ownsRow 0 3 1 va m (((upTo L at_ j).map It.id).map (Value.int .i64))) := by
            have := owns_but (S := No) htw.out.oa ((But.refl No wr).alloc (.cells #[.int .i64 ya] 3)) (fun _ _ f => f)
            rw [HLA.out.1] at this; exact this
          have MID : Hid (∀ w3, (wr.alloc (.cells #[.int .i64 ya] 3)).grownBy w3 va.ownBlock → w3.cell? ⟨x, 2, none⟩ = some (.slice (some ⟨q2, 0, none⟩) n c2) ∧ w3.cell? ⟨q2, j, none⟩ = some (.int .i64 yb) ∧ (w3.alloc (.cells #[.int .i64 yb] 3)).ownsRow 0 3 1 vb m (((upTo L at_ j).map It.tk).map (Value.int .i64))) := by
            intro w3 hg
            have hb3 : But (fun k => va.ownBlock = some k) wr w3 := ((But.refl _ wr).alloc _).grown hg (fun k e => .inl e)
            have hb0 : But No w2 w3 := htw.out.but.andThen hb3 (fun k e => .inr (htw.out.na k e))
            refine ⟨?_, ?_, ?_⟩
            · rw [← HA2.out]; exact (HX.out.hx.but hb0 (fun f => f)).cell (o := 2) rfl
            · rw [hb0.cell hq2 (fun f => f)]; exact e2
            · have := owns_but (S := No) (htw.out.ob.but hb3 (fun k e e' => htw.out.d k e' e)) ((But.refl No w3).alloc (.cells #[.int .i64 yb] 3)) (fun _ _ f => f)
              rw [HLA.out.2] at this; exact this
          clear hja hA1 hA2 hy hm e2 hq1 hq2
          go_wp2_with (first | (at_builtin; refine wpList_append_lies _ rfl _ _ 40 rfl 0 3 i0 _ 1 8 Try.underlying40 I0.out.1 I0.out.2.1 I0.out.2.2.1 I0.out.2.2.2 rfl (by omega) va m _ rfl ROW1.out ⟨wr.heap.size, 0, none⟩ 1 1 [.int .i64 ya] rfl rfl (one_news wr ya) (by simp [Value.oneCell']) (by omega) (by unfold maxLen; omega) (by omega) (Nat.zero_le _) (wr.heap.size + 1) (by simp) ?_; intro g3 cap3 w3 hown3 hgrow3 hat3 hlt3; obtain ⟨m1, m2, m3⟩ := MID.out w3 hgrow3; have ROW2 := Lib.hid m3; have HO3 := Lib.hid hown3; have HG3 := Lib.hid hgrow3; have HT3 := Lib.hid hat3; clear hown3 hgrow3 hat3 hlt3 m3) | (at_builtin; refine wpList_append_lies _ rfl _ _ 40 rfl 0 3 i0 _ 1 8 Try.underlying40 I0.out.1 I0.out.2.1 I0.out.2.2.1 I0.out.2.2.2 rfl (by omega) vb m _ rfl ROW2.out ⟨w3.heap.size, 0, none⟩ 1 1 [.int .i64 yb] rfl rfl (one_news w3 yb) (by simp [Value.oneCell']) (by omega) (by unfold maxLen; omega) (by omega) (Nat.zero_le _) (w3.heap.size + 1) (by simp) ?_; intro g4 cap4 w4 hown4 hgrow4 hat4 hlt4; have HO4 := Lib.hid hown4; have HG4 := Lib.hid hgrow4; have HT4 := Lib.hid hat4; clear hown4 hgrow4 hat4 hlt4))
          have HF : Hid (Two w2 w4 (.slice (some ⟨g3, 0, none⟩) (m + 1) cap3) (.slice (some ⟨g4, 0, none⟩) (m + 1) cap4) (upTo L at_ (j + 1))) := by
            show Two _ _ _ _ _
            rw [HNX.out]
            exact Two.app (y := ⟨ya, yb⟩) htw.out HM.out HO3.out HG3.out HT3.out HO4.out HG4.out HT4.out
          clear HO3 HG3 HT3 HO4 HG4 HT4 ROW1 ROW2 MID htw
          go_roundw
          case rel => exact ⟨_, _, j + 1, rfl, rfl, by go_num, by omega, HF⟩
          case measure => simp [intOf]; omega
      · obtain rfl : j = n := by omega
        have bj : decide ((j : Int) < (j : Int)) = false := by simp
        obtain ⟨Aa, ca, ea, _⟩ := htw.out.oa.slice
        obtain ⟨Ab, cb, eb, _⟩ := htw.out.ob.slice
        generalize ((upTo L at_ j).map It.id).length = la at ea
        generalize ((upTo L at_ j).map It.tk).length = lb at eb
        have HE : Hid (Rm w2 S x R T (L.eraseIdx at_) ((wr.setCell ⟨x, 1, none⟩ va).setCell ⟨x, 2, none⟩ vb)) := by
          have hT := htw.out
          rw [HN.out, upTo_all] at hT
          refine RF.end_ H.out hT ?_
          have := (List.eraseIdx_sublist L at_).length_le
          have := H.out.len
          omega
        have d2 : wr.cell? ⟨x, 2, none⟩ = some (.slice A2 j c2) := HXr.out.hx.cell (o := 2) rfl
        have f1 := HXr.out.hx.frozen 1
        have f2 := HXr.out.hx.frozen 2
        subst ea eb
        clear htw
        go_wp2
        go_ret
        exact ⟨rfl, HE.out⟩
  · have e1 : hasI L a = false := by unfold hasI; rw [hk]; simp
    have e2 : rmv L a = L := by unfold rmv; rw [hk, if_neg (by omega)]
    rw [hk] at CP
    rw [e1, e2]
    clear h hk hk2 e1 e2
    go_enter Try.func16, Try.ntmps16
    go_wp2_with (go_at_call 22; refine CP.out.mono ?_; rintro e w2 ⟨rfl, hw2⟩; subst hw2)
    go_ret
    exact ⟨rfl, H.out.stay (But.refl _ _)⟩
set_option maxHeartbeats 1000000 in
theorem rtake_any (x : Nat) (R T : Int) (L : List It) (S : Nat → Prop) (w : World) (h : RF w S x R T L) :
    Calls Try.prog 14 #[.pointer (some ⟨x, 0, none⟩)] w fun r w' => r = .returned (.tuple #[.int .i64 (fst1 L), .bool (fst3 L)]) ∧ Rm w S x R T L.tail w' := by
  have hl := h.len
  have H := Lib.hid h
  obtain ⟨v1, v2, h1, h2⟩ := h.ex
  obtain ⟨A1, c1, A2, c2, rfl, rfl, l1, l2⟩ := h1.head
  have d1 : w.cell? ⟨x, 1, none⟩ = some (.slice A1 L.length c1) := by have := h1.hx.cell (o := 1) rfl; rwa [List.length_map] at this
  cases L with
  | nil =>
    simp only [List.length_nil] at d1
    clear h h1 h2 l1 l2 hl
    simp only [fst1, fst3, List.tail]
    go_enter Try.func14, Try.ntmps14
    go_wp2
    go_ret2
    exact ⟨rfl, H.out.stay (But.refl _ _)⟩
  | cons y t =>
    obtain ⟨q, hA, hq, e0⟩ := ov_cell (k := 0) h1.o1 (by rw [List.length_map]; omega) (by simp)
    rw [map_getD_id (y :: t) (by simp)] at e0
    simp only [List.getD_cons_zero] at e0
    rw [hA] at d1
    have CD : Hid (Calls Try.prog 16 #[.pointer (some ⟨x, 0, none⟩), .int .i64 y.id] w fun r w' => r = .returned (.bool true) ∧ Rm w S x R T t w') := by
      have := rdrop_any x R T (y :: t) S w y.id H.out
      have e0 : idx (y :: t) y.id = (0 : Nat) := idx_in (k := 0) (by simp) rfl (fun j hj => absurd hj (by omega))
      unfold hasI rmv at this
      rw [e0] at this
      exact this
    simp only [fst1, fst3, List.tail]
    generalize y.id = yi at e0 CD ⊢
    generalize hn : (y :: t).length = n at d1 hl
    have n1 : (0 : Int) < (n : Int) := by have : 0 < n := by rw [← hn]; simp
                                          omega
    have n2 : ((n : Int) == 0) = false := by simp; omega
    clear h h1 h2 l1 l2 hA hn
    go_enter Try.func14, Try.ntmps14
    go_wp2_with (go_at_call 16; refine CD.out.mono ?_; rintro e w2 ⟨rfl, hm⟩; have HM := Lib.hid hm; clear hm)
    go_ret2
    exact ⟨rfl, HM.out⟩
end Go.Proofs.Ythakginneapdeaa
