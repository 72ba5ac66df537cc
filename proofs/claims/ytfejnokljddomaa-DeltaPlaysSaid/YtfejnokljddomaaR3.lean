/- The document's own list: Tick, Cancel. -/
import Derived.Test.YtfejnokljddomaaR2
import Derived.Deep.DeepCutAuto
namespace Go.Proofs.Ytfejnokljddomaa
open Go.ChangeShapes Go.WideShapes Go.ChangeAt Go.RowKit Go.Deep
/-- What a call of Tick leaves: a slice, and the list, apart. -/
def RtEnd (w : World) (S : Nat → Prop) (x : Nat) (R : Int) (zs : List Int) (K' : List Tm) (v : Value) (w' : World) : Prop :=
  ∃ S', Ov w' v zs ∧ RF w' S' x R K' ∧ But S w w' ∧ (∀ k, S' k → S k ∨ w.heap.size ≤ k) ∧ ∀ k, v.ownBlock = some k → w.heap.size ≤ k ∧ ¬ S' k
/-- The two new slices. -/
structure Tk (w wx : World) (va vb : Value) (zs : List Int) (M : List Tm) : Prop where
  oa : Ov wx va zs
  ob : Ov2 wx vb M
  but : But No w wx
  na : ∀ q, va.ownBlock = some q → w.heap.size ≤ q
  nb : ∀ q, vb.ownBlock = some q → w.heap.size ≤ q
  d : ∀ q, va.ownBlock = some q → vb.ownBlock ≠ some q
theorem own_cases {v v' : Value} {N : Nat} (h : v'.ownBlock = v.ownBlock ∨ v'.ownBlock = some N) : ∀ q, v'.ownBlock = some q → v.ownBlock = some q ∨ q = N := fun q e => by
  rcases h with h | h
  · exact .inl (h ▸ e)
  · rw [h] at e; exact .inr (by simpa using e.symm)
theorem Tk.app1 {w wx wd w3 : World} {va vb v3 : Value} {zs : List Int} {M : List Tm} {y : Int} {n : Nat} (h : Tk w wx va vb zs M) (hbd : But No wx wd) (hn : zs.length = n)
    (ho : w3.ownsRow 0 3 1 v3 (n + 1) (zs.map (Value.int .i64) ++ [.int .i64 y])) (hg : (wd.alloc (.cells #[.int .i64 y] 3)).grownBy w3 va.ownBlock) (hat : v3.ownBlock = va.ownBlock ∨ v3.ownBlock = some (wd.alloc (.cells #[.int .i64 y] 3)).heap.size) : Tk w w3 v3 vb (zs ++ [y]) M := by
  have la := h.oa.lt
  have lb := h.ob.lt
  have b3 : But (fun k => va.ownBlock = some k) wx w3 := (hbd.no.alloc _).grown hg (fun k e => .inl e)
  have s1 := h.but.size
  have s2 := hbd.size
  rw [size_alloc1] at hat
  have hv := own_cases hat
  refine ⟨?_, h.ob.but b3 (fun k e e' => h.d k e' e), h.but.andThen b3 (fun k e => .inr (h.na k e)), fun q e => ?_, h.nb, fun q e e' => ?_⟩
  · unfold Ov; rw [List.length_append, List.map_append, hn]; exact ho
  · rcases hv q e with e1 | e1
    · exact h.na q e1
    · omega
  · rcases hv q e with e1 | e1
    · exact h.d q e1 e'
    · have := lb q e'; omega
theorem Tk.app2 {w wx wd w3 : World} {va vb v3 : Value} {zs : List Int} {M : List Tm} {y : Tm} {n : Nat} (h : Tk w wx va vb zs M) (hbd : But No wx wd) (hn : M.length = n)
    (ho : w3.ownsRow 0 59 2 v3 (n + 1) (flat M ++ [.int .i64 y.id, .int .i64 y.left])) (hg : (wd.alloc (.cells #[.int .i64 y.id, .int .i64 y.left] 59)).grownBy w3 vb.ownBlock) (hat : v3.ownBlock = vb.ownBlock ∨ v3.ownBlock = some (wd.alloc (.cells #[.int .i64 y.id, .int .i64 y.left] 59)).heap.size) : Tk w w3 va v3 zs (M ++ [y]) := by
  have la := h.oa.lt
  have lb := h.ob.lt
  have b3 : But (fun k => vb.ownBlock = some k) wx w3 := (hbd.no.alloc _).grown hg (fun k e => .inl e)
  have s1 := h.but.size
  have s2 := hbd.size
  rw [size_alloc1] at hat
  have hv := own_cases hat
  refine ⟨h.oa.but b3 (fun k e e' => h.d k e e'), ?_, h.but.andThen b3 (fun k e => .inr (h.nb k e)), h.na, fun q e => ?_, fun q e e' => ?_⟩
  · unfold Ov2; rw [List.length_append, flat_append, hn]; exact ho
  · rcases hv q e with e1 | e1
    · exact h.nb q e1
    · omega
  · rcases hv q e' with e1 | e1
    · exact h.d q e e1
    · have := la q e; omega
theorem Tk.end_ {w wx : World} {S : Nat → Prop} {x : Nat} {R : Int} {K M : List Tm} {va vb : Value} {zs : List Int} (h : RF w S x R K) (t : Tk w wx va vb zs M) :
    RtEnd w S x R zs M va (wx.setCell ⟨x, 1, none⟩ vb) ∧ wx.frozen? ⟨x, 1, none⟩ = false ∧ ∃ v, wx.cell? ⟨x, 1, none⟩ = some v := by
  obtain ⟨A, c, h1, h2, h3, h4⟩ := h.head
  have hxl := h1.lt
  obtain ⟨⟨S', r1, r2, r3⟩, hx3⟩ := RF.put (S := S) (S0 := No) h1 (h4 x (.inl rfl)) t.but (fun _ f => f.elim) t.ob (fun k e => .inr (t.nb k e))
  have hb : But (Just x) wx (wx.setCell ⟨x, 1, none⟩ vb) := (But.refl _ wx).setCell (p := ⟨x, 1, none⟩) (just x) _
  have nxa : va.ownBlock ≠ some x := fun e => by have := t.na x e; omega
  have nxb : vb.ownBlock ≠ some x := fun e => by have := t.nb x e; omega
  refine ⟨⟨fun k => k = x ∨ vb.ownBlock = some k, t.oa.but hb (fun k e e' => nxa (e' ▸ e)), ⟨⟨vb, hx3.set 1 _, t.ob.but hb (fun k e e' => nxb (e' ▸ e)), nxb, fun k hk => hk⟩, ?_⟩, r2, ?_, fun k e => ⟨t.na k e, ?_⟩⟩, hx3.frozen 1, _, hx3.cell (o := 1) rfl⟩
  · rintro k (rfl | e)
    · have := t.but.size; have := hb.size; omega
    · have := t.ob.lt k e; have := hb.size; omega
  · rintro k (rfl | e)
    · exact .inl (h4 k (.inl rfl))
    · exact .inr (t.nb k e)
  · rintro (rfl | e')
    · exact nxa e
    · exact t.d k e e'
set_option maxHeartbeats 4000000 in
set_option maxRecDepth 100000 in
theorem rtick_any (x : Nat) (R : Int) (K : List Tm) (S : Nat → Prop) (w : World) (h : RF w S x R K) (kd : Kd K) :
    Calls Try.prog 15 #[.pointer (some ⟨x, 0, none⟩)] w fun r w' => ∃ v, r = .returned v ∧ RtEnd w S x R (rOut 1 K) (rRst 1 K) v w' := by
  have hl := kd.len
  have H := Lib.hid h
  have HK := Lib.hid kd
  obtain ⟨A, c, h1, h2, h3, h4⟩ := h.head
  have HX := Lib.hid h1
  have HO := Lib.hid h2
  obtain ⟨n, hn⟩ : ∃ n, n = K.length := ⟨_, rfl⟩
  have HN := Lib.hid hn
  rw [← hn] at hl HX HO
  obtain ⟨i0, hi0, hz0, hz1, hz2⟩ := info_parts info3
  have I0 : Hid (Try.prog.info? 3 = some i0 ∧ i0.zero = some (.int .i64 0) ∧ i0.size = 1 ∧ i0.bytes = 8) := ⟨hi0, hz0, hz1, hz2⟩
  clear hi0 hz0 hz1 hz2
  obtain ⟨i9, hi0, hz0, hz1, hz2⟩ := info_parts info59
  have I9 : Hid (Try.prog.info? 59 = some i9 ∧ i9.zero = some (.agg #[.int .i64 0, .int .i64 0]) ∧ i9.size = 2 ∧ i9.bytes = 16) := ⟨hi0, hz0, hz1, hz2⟩
  clear h kd h1 h2 h3 h4 hn hi0 hz0 hz1 hz2
  have H0 : Hid (Tk w w (.slice none 0 0) (.slice none 0 0) (rOut 1 (K.take 0)) (rRst 1 (K.take 0))) := ⟨Ov.nil _, Ov2.nil _, But.refl _ _, own_none, own_none, by simp [Value.ownBlock]⟩
  go_enter Try.func15, Try.ntmps15
  go_wp2_with fail
  go_loopw [3, 4, 5] (fun s t i wx => ∃ (va vb : Value) (j : Nat), s = va ∧ t = vb ∧ i = .int .i64 j ∧ j ≤ n ∧ Hid (Tk w wx va vb (rOut 1 (K.take j)) (rRst 1 (K.take j)))) (fun _ _ i _ => n - (intOf i).toNat)
  case atStart => exact ⟨_, _, 0, rfl, rfl, rfl, by omega, H0⟩
  case round =>
    obtain ⟨va, vb, j, hsa, hsb, rfl, hj, htk⟩ := hrel
    have hsa' := hsa.symm
    have hsb' := hsb.symm
    subst hsa' hsb'
    clear H0
    have HXr := Lib.hid (HX.out.but htk.out.but (fun f => f))
    have d1 : wr.cell? ⟨x, 1, none⟩ = some (.slice A n c) := HXr.out.cell (o := 1) rfl
    by_cases hjl : j < n
    · have hjL : j < K.length := by rw [← HN.out]; exact hjl
      have jn : (j : Int) < (n : Int) := by omega
      obtain ⟨g, hA, hg, c0, c1, _⟩ := (HO.out.but htk.out.but (fun _ _ f => f)).cell hjL
      have HA := Lib.hid hA
      rw [hA] at d1
      have hrng := HK.out.rng _ (getD_mem hjL)
      have HT := Lib.hid (take_snocT hjL)
      obtain ⟨y, hy⟩ : ∃ y, K.getD j tm0 = y := ⟨_, rfl⟩
      rw [hy] at c0 c1 HT hrng
      obtain ⟨yi, yl⟩ := y
      dsimp only at c0 c1 hrng
      obtain ⟨r1, r2⟩ := hrng
      obtain ⟨m1, hm1⟩ : ∃ m, (rOut 1 (K.take j)).length = m := ⟨_, rfl⟩
      obtain ⟨m2, hm2⟩ : ∃ m, (rRst 1 (K.take j)).length = m := ⟨_, rfl⟩
      have hb1 : m1 ≤ 256 := by
        rw [← hm1]; unfold rOut; rw [List.length_map]
        have := List.length_filter_le (fun x : Tm => x.left == 1) (K.take j)
        rw [List.length_take] at this; omega
      have hb2 : m2 ≤ 256 := by
        rw [← hm2]; unfold rRst; rw [List.length_map]
        have := List.length_filter_le (fun x : Tm => x.left != 1) (K.take j)
        rw [List.length_take] at this; omega
      have HM1 := Lib.hid hm1
      have HM2 := Lib.hid hm2
      clear hA hy hm1 hm2
      by_cases hz : yl = 1
      · have HZ := Lib.hid hz
        obtain ⟨l1, hl1⟩ : ∃ l1, yl - 1 = l1 := ⟨_, rfl⟩
        have bz : (l1 == 0) = true := by rw [← hl1]; simpa using (show yl - 1 = 0 by omega)
        clear hz
        go_upto_region 9 with fail
        generalize hwd : World.alloc _ _ = wd
        have HBD : Hid (But No wr wd) := by rw [← hwd]; exact (But.refl No wr).alloc _
        have e0 : wd.cell? ⟨wr.heap.size, 0, none⟩ = some (.int .i64 yi) := by rw [← hwd]; exact (Blk.new wr _ _).cell (o := 0) rfl
        clear hwd
        have ROW : Hid ((wd.alloc (.cells #[.int .i64 yi] 3)).ownsRow 0 3 1 va m1 ((rOut 1 (K.take j)).map (Value.int .i64))) := by
          have := owns_but (S := No) (htk.out.oa.but HBD.out (fun _ _ f => f)) ((But.refl No wd).alloc (.cells #[.int .i64 yi] 3)) (fun _ _ f => f)
          rw [HM1.out] at this; exact this
        have AFT : Hid (∀ v3 w3, w3.ownsRow 0 3 1 v3 (m1 + 1) ((rOut 1 (K.take j)).map (Value.int .i64) ++ [.int .i64 yi]) → (wd.alloc (.cells #[.int .i64 yi] 3)).grownBy w3 va.ownBlock → (v3.ownBlock = va.ownBlock ∨ v3.ownBlock = some (wd.alloc (.cells #[.int .i64 yi] 3)).heap.size) → Tk w w3 v3 vb (rOut 1 (K.take (j + 1))) (rRst 1 (K.take (j + 1)))) := by
          intro v3 w3 ho hg hat
          rw [HT.out, rOut_snoc, rRst_snoc, if_pos HZ.out, if_pos HZ.out, List.append_nil]
          exact htk.out.app1 HBD.out HM1.out ho hg hat
        go_wp2_with (at_builtin; refine wpList_append_sh _ rfl _ _ 35 rfl 3 i0 _ 1 8 Try.underlying35 I0.out.1 I0.out.2.1 I0.out.2.2.1 I0.out.2.2.2 rfl (by omega) va m1 _ rfl ROW.out (wd.heap.size + 1) (some ⟨wd.heap.size, 0, none⟩) 1 1 [.int .i64 yi] rfl (one_reads wd yi) (one_cell yi) (by unfold maxLen; omega) (by omega) ?_; intro A3 c3 w3 hown hgrow hat; have HF := Lib.hid (AFT.out _ w3 hown hgrow hat); clear hown hgrow hat)
        clear htk ROW AFT
        go_roundw
        case rel => exact ⟨_, _, j + 1, rfl, rfl, by go_num, by omega, HF⟩
        case measure => simp [intOf]; omega
      · have HZ := Lib.hid hz
        obtain ⟨l1, hl1⟩ : ∃ l1, yl - 1 = l1 := ⟨_, rfl⟩
        have bz : (l1 == 0) = false := by rw [← hl1]; simpa using (show ¬ yl - 1 = 0 by omega)
        have HL1 := Lib.hid hl1
        clear hz
        go_upto_region 10 with fail
        generalize hwd : World.alloc _ _ = wd
        have HBD : Hid (But No wr wd) := by rw [← hwd]; exact (But.refl No wr).alloc _
        have e0 : wd.cell? ⟨wr.heap.size, 0, none⟩ = some (.int .i64 yi) := by rw [← hwd]; exact (Blk.new wr _ _).cell (o := 0) rfl
        have e1 : wd.cell? ⟨wr.heap.size, 1, none⟩ = some (.int .i64 l1) := by rw [← hwd]; exact (Blk.new wr _ _).cell (o := 1) rfl
        clear hwd
        have ROW : Hid ((wd.alloc (.cells #[.int .i64 yi, .int .i64 l1] 59)).ownsRow 0 59 2 vb m2 (flat (rRst 1 (K.take j)))) := by
          have := owns_but (S := No) (htk.out.ob.but HBD.out (fun _ _ f => f)) ((But.refl No wd).alloc (.cells #[.int .i64 yi, .int .i64 l1] 59)) (fun _ _ f => f)
          rw [HM2.out] at this; exact this
        have AFT : Hid (∀ v3 w3, w3.ownsRow 0 59 2 v3 (m2 + 1) (flat (rRst 1 (K.take j)) ++ [.int .i64 yi, .int .i64 l1]) → (wd.alloc (.cells #[.int .i64 yi, .int .i64 l1] 59)).grownBy w3 vb.ownBlock → (v3.ownBlock = vb.ownBlock ∨ v3.ownBlock = some (wd.alloc (.cells #[.int .i64 yi, .int .i64 l1] 59)).heap.size) → Tk w w3 va v3 (rOut 1 (K.take (j + 1))) (rRst 1 (K.take (j + 1)))) := by
          intro v3 w3 ho hg hat
          rw [HT.out, rOut_snoc, rRst_snoc, if_neg HZ.out, if_neg HZ.out, List.append_nil]
          have ey : dn 1 ⟨yi, yl⟩ = ⟨yi, l1⟩ := by unfold dn; rw [← HL1.out]
          rw [ey]
          exact htk.out.app2 (y := ⟨yi, l1⟩) HBD.out HM2.out ho hg hat
        go_wp2_with (at_builtin; refine wpList_append_sh _ rfl _ _ 43 rfl 59 i9 _ 2 16 Try.underlying43 I9.out.1 I9.out.2.1 I9.out.2.2.1 I9.out.2.2.2 rfl (by omega) vb m2 _ rfl ROW.out (wd.heap.size + 1) (some ⟨wd.heap.size, 0, none⟩) 1 1 [.int .i64 yi, .int .i64 l1] rfl (two_reads wd yi l1) (two_cell yi l1) (by unfold maxLen; omega) (by omega) ?_; intro A3 c3 w3 hown hgrow hat; have HF := Lib.hid (AFT.out _ w3 hown hgrow hat); clear hown hgrow hat)
        clear htk ROW AFT
        go_roundw
        case rel => exact ⟨_, _, j + 1, rfl, rfl, by go_num, by omega, HF⟩
        case measure => simp [intOf]; omega
    · obtain rfl : j = n := by omega
      have bj : decide ((j : Int) < (j : Int)) = false := by simp
      have HE : Hid (RtEnd w S x R (rOut 1 K) (rRst 1 K) va (wr.setCell ⟨x, 1, none⟩ vb)) := by
        have ht := htk.out
        rw [HN.out, List.take_length] at ht
        exact (Tk.end_ H.out ht).1
      obtain ⟨_, f1, _⟩ := Tk.end_ H.out htk.out
      obtain ⟨A2, c2, e2⟩ := htk.out.ob.slice
      generalize (rRst 1 (K.take j)).length = l2 at e2
      subst e2
      clear htk
      go_wp2
      go_ret
      exact ⟨_, rfl, HE.out⟩
/-- Without what stands at a place, as far as j. -/
def upTo (L : List Tm) (at_ j : Nat) : List Tm := (L.take j).eraseIdx at_
theorem upTo_at {L : List Tm} {j : Nat} (hj : j < L.length) : upTo L j (j + 1) = upTo L j j := by
  unfold upTo
  apply List.ext_getElem?
  intro i
  rw [List.getElem?_eraseIdx, List.getElem?_eraseIdx]
  by_cases hi : i < j
  · simp [hi, show i < j + 1 by omega]
  · simp only [hi, if_false, List.getElem?_take]; rw [if_neg (by omega), if_neg (by omega)]
theorem upTo_next {L : List Tm} {at_ j : Nat} (hj : j < L.length) (hne : j ≠ at_) : upTo L at_ (j + 1) = upTo L at_ j ++ [L.getD j tm0] := by
  unfold upTo
  rw [take_snocT hj]
  by_cases h : at_ < j
  · rw [List.eraseIdx_append_of_lt_length (by rw [List.length_take]; omega)]
  · rw [List.eraseIdx_of_length_le (l := L.take j ++ [L.getD j tm0]) (by simp; omega), List.eraseIdx_of_length_le (l := L.take j) (by simp; omega)]
theorem upTo_len (L : List Tm) (at_ j : Nat) : (upTo L at_ j).length ≤ L.length := by
  unfold upTo
  exact Nat.le_trans (List.eraseIdx_sublist _ _).length_le (by rw [List.length_take]; omega)
set_option maxHeartbeats 4000000 in
set_option maxRecDepth 100000 in
theorem rcancel_any (x : Nat) (R : Int) (K : List Tm) (S : Nat → Prop) (w : World) (a : Int) (h : RF w S x R K) (kd : Kd K) :
    Calls Try.prog 19 #[.pointer (some ⟨x, 0, none⟩), .int .i64 a] w fun r w' => r = .returned (.bool (hasT K a)) ∧ Rm w S x R (rmv K a) w' := by
  have CP := Lib.hid (rat_any x R K S w a h kd.len)
  have hl := kd.len
  have H := Lib.hid h
  have e1 := has_idx K a
  rcases idx_cases K a with ⟨at_, hk, hkl, hk1, hk2⟩ | ⟨hk, hk2⟩
  · rw [hk] at CP e1
    rw [e1, rmv_idx kd.nd hkl hk1, show decide (0 ≤ (at_ : Int)) = true by simp]
    obtain ⟨A, c, h1, h2, h3, h4⟩ := h.head
    have HX := Lib.hid h1
    have HO := Lib.hid h2
    obtain ⟨n, hn⟩ : ∃ n, n = K.length := ⟨_, rfl⟩
    have HN := Lib.hid hn
    rw [← hn] at hl HX HO hkl
    obtain ⟨i9, hi0, hz0, hz1, hz2⟩ := info_parts info59
    have I9 : Hid (Try.prog.info? 59 = some i9 ∧ i9.zero = some (.agg #[.int .i64 0, .int .i64 0]) ∧ i9.size = 2 ∧ i9.bytes = 16) := ⟨hi0, hz0, hz1, hz2⟩
    have b1 : decide ((at_ : Int) < 0) = false := by simp
    have hat9 : at_ ≤ 256 := by omega
    clear h kd h1 h2 h3 h4 hn hi0 hz0 hz1 hz2 hk hk1 hk2 e1
    have H0 : Hid (Tk w w (.slice none 0 0) (.slice none 0 0) [] (upTo K at_ 0)) := ⟨Ov.nil _, by show Ov2 _ _ (upTo K at_ 0); unfold upTo; simpa using Ov2.nil w, But.refl _ _, own_none, own_none, by simp [Value.ownBlock]⟩
    go_enter Try.func19, Try.ntmps19
    go_wp2_with (go_at_call 26; refine CP.out.mono ?_; rintro e w2 ⟨rfl, hw2⟩; subst hw2)
    go_loopw [6, 7] (fun t i wx => ∃ (vb : Value) (j : Nat), t = vb ∧ i = .int .i64 j ∧ j ≤ n ∧ Hid (Tk w2 wx (.slice none 0 0) vb [] (upTo K at_ j))) (fun _ i _ => n - (intOf i).toNat)
    case atStart => exact ⟨_, 0, rfl, rfl, by omega, H0⟩
    case round =>
      obtain ⟨vb, j, hsb, rfl, hj, htk⟩ := hrel
      have hsb' := hsb.symm
      subst hsb'
      clear H0
      have HXr := Lib.hid (HX.out.but htk.out.but (fun f => f))
      have d1 : wr.cell? ⟨x, 1, none⟩ = some (.slice A n c) := HXr.out.cell (o := 1) rfl
      by_cases hjl : j < n
      · have hjL : j < K.length := by rw [← HN.out]; exact hjl
        have jn : (j : Int) < (n : Int) := by omega
        by_cases hja : j = at_
        · have bj : ((j : Int) != (at_ : Int)) = false := by simp; omega
          have HF : Hid (Tk w2 wr (.slice none 0 0) vb [] (upTo K at_ (j + 1))) := by have := htk.out; show Tk _ _ _ _ _ _; rw [← hja] at this ⊢; rw [upTo_at hjL]; exact this
          clear hja htk
          go_wp2
          go_roundw
          case rel => exact ⟨_, j + 1, rfl, by go_num, by omega, HF⟩
          case measure => simp [intOf]; omega
        · have bj : ((j : Int) != (at_ : Int)) = true := by simp; omega
          obtain ⟨g, hA, hg, c0, c1, _⟩ := (HO.out.but htk.out.but (fun _ _ f => f)).cell hjL
          have HA := Lib.hid hA
          rw [hA] at d1
          have HNX := Lib.hid (upTo_next hjL hja)
          obtain ⟨y, hy⟩ : ∃ y, K.getD j tm0 = y := ⟨_, rfl⟩
          rw [hy] at c0 c1 HNX
          obtain ⟨yi, yl⟩ := y
          dsimp only at c0 c1
          obtain ⟨m2, hm2⟩ : ∃ m, (upTo K at_ j).length = m := ⟨_, rfl⟩
          have hb2 : m2 ≤ 256 := by rw [← hm2]; have := upTo_len K at_ j; have := HN.out; omega
          have HM2 := Lib.hid hm2
          have ROW : Hid ((wr.alloc (.cells #[.int .i64 yi, .int .i64 yl] 59)).ownsRow 0 59 2 vb m2 (flat (upTo K at_ j))) := by
            have := owns_but (S := No) htk.out.ob ((But.refl No wr).alloc (.cells #[.int .i64 yi, .int .i64 yl] 59)) (fun _ _ f => f)
            rw [hm2] at this; exact this
          have AFT : Hid (∀ v3 w3, w3.ownsRow 0 59 2 v3 (m2 + 1) (flat (upTo K at_ j) ++ [.int .i64 yi, .int .i64 yl]) → (wr.alloc (.cells #[.int .i64 yi, .int .i64 yl] 59)).grownBy w3 vb.ownBlock → (v3.ownBlock = vb.ownBlock ∨ v3.ownBlock = some (wr.alloc (.cells #[.int .i64 yi, .int .i64 yl] 59)).heap.size) → Tk w2 w3 (.slice none 0 0) v3 [] (upTo K at_ (j + 1))) := by
            intro v3 w3 ho hg hat
            rw [HNX.out]
            exact htk.out.app2 (y := ⟨yi, yl⟩) (But.refl No wr) HM2.out ho hg hat
          clear hA hy hm2 hja
          go_wp2_with (at_builtin; refine wpList_append_sh _ rfl _ _ 43 rfl 59 i9 _ 2 16 Try.underlying43 I9.out.1 I9.out.2.1 I9.out.2.2.1 I9.out.2.2.2 rfl (by omega) vb m2 _ rfl ROW.out (wr.heap.size + 1) (some ⟨wr.heap.size, 0, none⟩) 1 1 [.int .i64 yi, .int .i64 yl] rfl (two_reads wr yi yl) (two_cell yi yl) (by unfold maxLen; omega) (by omega) ?_; intro A3 c3 w3 hown hgrow hat; have HF := Lib.hid (AFT.out _ w3 hown hgrow hat); clear hown hgrow hat)
          clear htk ROW AFT
          go_roundw
          case rel => exact ⟨_, j + 1, rfl, by go_num, by omega, HF⟩
          case measure => simp [intOf]; omega
      · obtain rfl : j = n := by omega
        have bj : decide ((j : Int) < (j : Int)) = false := by simp
        have HE : Hid (Rm w2 S x R (K.eraseIdx at_) (wr.setCell ⟨x, 1, none⟩ vb)) := by
          have ht := htk.out
          unfold upTo at ht
          rw [HN.out, List.take_length] at ht
          obtain ⟨S', _, r1, r2, r3, _⟩ := (Tk.end_ H.out ht).1
          exact ⟨S', r1, r2, r3⟩
        obtain ⟨_, f1, _⟩ := Tk.end_ H.out htk.out
        obtain ⟨A2, c2, e2⟩ := htk.out.ob.slice
        generalize (upTo K at_ j).length = l2 at e2
        subst e2
        clear htk
        go_wp2
        go_ret
        exact ⟨rfl, HE.out⟩
  · rw [hk] at CP e1
    rw [e1, rmv_none (fun y hy => by
      obtain ⟨k, hk, e⟩ := mem_getD hy
      have := hk2 k hk
      rwa [e] at this)]
    clear h hk hk2 e1 kd hl
    go_enter Try.func19, Try.ntmps19
    go_wp2_with (go_at_call 26; refine CP.out.mono ?_; rintro e w2 ⟨rfl, hw2⟩; subst hw2)
    go_ret
    exact ⟨rfl, H.out.stay (But.refl _ _)⟩
end Go.Proofs.Ytfejnokljddomaa
