/- The document's own list: Skip. -/
import Derived.Test.YtfejnokljddomaaR3
namespace Go.Proofs.Ytfejnokljddomaa
open Go.ChangeShapes Go.WideShapes Go.ChangeAt Go.RowKit Go.Deep
/-- The first j timers nearer by d. -/
def near (d : Int) (K : List Tm) (j : Nat) : List Tm := (K.take j).map (dn d) ++ K.drop j
theorem set_mid {A B : List Tm} {y z : Tm} {j : Nat} (h : A.length = j) : (A ++ y :: B).set j z = A ++ z :: B := by
  subst h
  induction A with
  | nil => rfl
  | cons a t ih => simp only [List.cons_append, List.length_cons, List.set_cons_succ, ih]
theorem getD_mid {A B : List Tm} {y : Tm} {j : Nat} (h : A.length = j) : (A ++ y :: B).getD j tm0 = y := by
  subst h
  simp [List.getD]
theorem drop_getD {K : List Tm} {j : Nat} (h : j < K.length) : K.drop j = K.getD j tm0 :: K.drop (j + 1) := by
  rw [List.drop_eq_getElem_cons h]; simp [List.getD, List.getElem?_eq_getElem h]
theorem near_len (d : Int) (K : List Tm) (j : Nat) : (near d K j).length = K.length := by
  unfold near; simp; omega
theorem near_get {d : Int} {K : List Tm} {j : Nat} (h : j < K.length) : (near d K j).getD j tm0 = K.getD j tm0 := by
  unfold near; rw [drop_getD h]; exact getD_mid (by simp; omega)
theorem near_set {d : Int} {K : List Tm} {j : Nat} (h : j < K.length) : (near d K j).set j ⟨(K.getD j tm0).id, (K.getD j tm0).left - d⟩ = near d K (j + 1) := by
  have e : near d K (j + 1) = (K.take j).map (dn d) ++ dn d (K.getD j tm0) :: K.drop (j + 1) := by
    unfold near; rw [take_snocT h, List.map_append]; simp
  rw [e]
  unfold near
  rw [drop_getD h]; exact set_mid (by simp; omega)
theorem near_zero (d : Int) (K : List Tm) : near d K 0 = K := by unfold near; simp
theorem near_all (d : Int) (K : List Tm) : near d K K.length = K.map (dn d) := by unfold near; simp
/-- What Skip leaves. -/
def RsEnd (w : World) (S : Nat → Prop) (x : Nat) (R n : Int) (K : List Tm) (v : Value) (w' : World) : Prop :=
  ∃ K', isort K' = rst n (isort K) ∧ Kd K' ∧ RtEnd w S x R (out n (isort K)) K' v w'
/-- On the way. -/
structure Sk (w wx : World) (S S1 : Nat → Prop) (x : Nat) (R n : Int) (K : List Tm) (m : Int) (v : Value) (zs : List Int) (K1 KM : List Tm) : Prop where
  rf : RF wx S1 x R KM
  s1 : ∀ k, S1 k → S k ∨ w.heap.size ≤ k
  va : ∀ k, v.ownBlock = some k → w.heap.size ≤ k ∧ ¬ S1 k
  but : But S w wx
  ov : Ov wx v zs
  kd : Kd K1
  o : out n (isort K) = zs ++ out m (isort K1)
  r : rst n (isort K) = rst m (isort K1)
theorem Sk.end_ {w wx : World} {S S1 : Nat → Prop} {x : Nat} {R n : Int} {K : List Tm} {m : Int} {v : Value} {zs : List Int} {K1 : List Tm} (h : Sk w wx S S1 x R n K m v zs K1 K1) (hm : m = 0 ∨ K1 = []) : RsEnd w S x R n K v wx := by
  have e : out m (isort K1) = [] ∧ rst m (isort K1) = isort K1 := by
    have hr : ∀ y ∈ isort K1, 1 ≤ y.left := fun y hy => (h.kd.rng y (mem_isort.1 hy)).1
    rcases hm with rfl | rfl
    · constructor
      · unfold out; rw [List.filter_eq_nil_iff.2, List.map_nil]; intro y hy; have := hr y hy; simp; omega
      · unfold rst
        rw [List.filter_eq_self.2 (fun y hy => by have := hr y hy; simp; omega)]
        have : ∀ y : Tm, dn 0 y = y := fun y => by unfold dn; simp
        rw [List.map_congr_left (fun y _ => this y), List.map_id']
    · exact ⟨rfl, rfl⟩
  refine ⟨K1, by rw [h.r, e.2], h.kd, S1, ?_, h.rf, h.but, h.s1, h.va⟩
  have := h.o
  rw [e.1, List.append_nil] at this
  rw [this]; exact h.ov
theorem Sk.no {w wx w' : World} {S S1 : Nat → Prop} {x : Nat} {R n : Int} {K : List Tm} {m : Int} {v : Value} {zs : List Int} {K1 KM : List Tm} (h : Sk w wx S S1 x R n K m v zs K1 KM) (hb : But No wx w') : Sk w w' S S1 x R n K m v zs K1 KM :=
  ⟨h.rf.no hb, h.s1, h.va, h.but.trans hb.no, h.ov.but hb (fun _ _ f => f), h.kd, h.o, h.r⟩
/-- A store into the list's own row. -/
theorem Sk.set {w wx : World} {S S1 : Nat → Prop} {x : Nat} {R n : Int} {K : List Tm} {m : Int} {v : Value} {zs : List Int} {K1 : List Tm} {d u : Int} {j g c : Nat} (h : Sk w wx S S1 x R n K m v zs K1 (near d K1 j)) (hj : j < K1.length)
    (hx : Blk wx x #[.int .i64 R, .slice (some ⟨g, 0, none⟩) K1.length c] 45) (hu : (K1.getD j tm0).left - d = u) : Sk w (wx.setCell ⟨g, j * 2 + 1, none⟩ (.int .i64 u)) S S1 x R n K m v zs K1 (near d K1 (j + 1)) := by
  obtain ⟨A, cc, h1, h2, h3, h4⟩ := h.rf.head
  rw [near_len] at h1 h2 h3 h4
  have e : (#[Value.int .i64 R, .slice A K1.length cc] : Array Value) = #[.int .i64 R, .slice (some ⟨g, 0, none⟩) K1.length c] := by
    unfold Blk at h1 hx
    rw [h1] at hx
    injection hx with hx
    injection hx
  have e' : A = some ⟨g, 0, none⟩ ∧ cc = c := by simpa using e
  obtain ⟨rfl, rfl⟩ := e'
  have hg : S1 g := h4 g (.inr rfl)
  have hb : But (Just g) wx (wx.setCell ⟨g, j * 2 + 1, none⟩ (.int .i64 u)) := (But.refl _ wx).setCell (p := ⟨g, j * 2 + 1, none⟩) (just g) _
  have hxg : x ≠ g := fun e => h3 (by rw [e]; rfl)
  have o2 := h2.set (k := j) (by rw [near_len]; exact hj) u
  rw [near_get hj, ← hu, near_set hj, hu] at o2
  refine ⟨⟨⟨_, hx.but hb hxg, o2, h3, h4⟩, fun k hk => Nat.lt_of_lt_of_le (h.rf.lt k hk) hb.size⟩, h.s1, h.va, ?_, h.ov.but hb (fun k e e' => (h.va k e).2 (e' ▸ hg)), h.kd, h.o, h.r⟩
  refine h.but.andThen hb (fun k hk => ?_)
  exact h.s1 k (hk ▸ hg)
theorem Sk.tick {w wx w4 w5 : World} {S S1 : Nat → Prop} {x : Nat} {R n : Int} {K : List Tm} {m l : Int} {v v4 v' : Value} {zs : List Int} {K1 : List Tm} (h : Sk w wx S S1 x R n K m v zs K1 (K1.map (dn (l - 1)))) (hl : ∀ y ∈ K1, l ≤ y.left) (h1 : 1 ≤ l) (hlm : l ≤ m)
    (ht : RtEnd wx S1 x R (rOut l K1) (rRst l K1) v4 w4) (ho : Ov w5 v' (zs ++ rOut l K1)) (hg : w4.grownBy w5 v.ownBlock) (hat : v'.ownBlock = v.ownBlock ∨ v'.ownBlock = some w4.heap.size) :
    ∃ S2, Sk w w5 S S2 x R n K (m - l) v' (zs ++ rOut l K1) (rRst l K1) (rRst l K1) := by
  obtain ⟨S2, t1, t2, t3, t4, t5⟩ := ht
  have b5 : But (fun k => v.ownBlock = some k) w4 w5 := (But.refl _ w4).grown hg (fun k e => .inl e)
  have ltv := h.ov.lt
  have s0 := h.but.size
  have s1 := t3.size
  have hv := own_cases hat
  have hv2 : ∀ k, v.ownBlock = some k → ¬ S2 k := fun k e hk => by
    rcases t4 k hk with h1 | h1
    · exact (h.va k e).2 h1
    · have := ltv k e; omega
  have b4 : But S w w4 := h.but.andThen t3 (fun k hk => h.s1 k hk)
  refine ⟨S2, ⟨t2.but b5 (fun k hk e => hv2 k e hk), fun k hk => ?_, fun k e => ?_, b4.andThen b5 (fun k e => .inr (h.va k e).1), ho, h.kd.rRst hl (by omega), ?_, ?_⟩⟩
  · rcases t4 k hk with h1 | h1
    · exact h.s1 k h1
    · exact .inr (by omega)
  · rcases hv k e with e1 | e1
    · exact ⟨(h.va k e1).1, hv2 k e1⟩
    · refine ⟨by omega, fun hk => ?_⟩
      have := t2.lt k hk; omega
  · rw [h.o, List.append_assoc]
    congr 1
    have e := out_add (L := isort K1) (isort_srt K1) (a := l) (b := m - l) (by omega)
    rw [show l + (m - l) = m by omega, out_isort hl, rst_isort hl] at e
    exact e
  · rw [h.r, ← rst_isort hl, ← rst_add (by omega), show l + (m - l) = m by omega]
theorem rskip_bad (x : Nat) (w : World) (n : Int) (hn : n < 0) :
    Calls Try.prog 17 #[.pointer (some ⟨x, 0, none⟩), .int .i64 n] w fun r w' => r = .returned (.tuple #[.slice none 0 0, .bool false]) ∧ w' = w := by
  have b1 : decide (n < 0) = true := by simp; omega
  go_enter Try.func17, Try.ntmps17
  go_wp2
  go_ret2
  exact ⟨rfl, rfl⟩
theorem kd_near {K : List Tm} {l : Int} (h : Kd K) (hl : ∀ y ∈ K, l ≤ y.left) (h1 : 1 ≤ l) : Kd (K.map (dn (l - 1))) := by
  refine ⟨h.nd.map _ (fun _ _ hab => hab), fun y hy => ?_, by rw [List.length_map]; exact h.len⟩
  obtain ⟨z, hz, rfl⟩ := List.mem_map.1 hy
  have := h.rng z hz
  have := hl z hz
  rw [dnl]; omega
set_option maxHeartbeats 8000000 in
set_option maxRecDepth 100000 in
theorem rskip_any (x : Nat) (R : Int) (K : List Tm) (S : Nat → Prop) (w : World) (n : Int) (h : RF w S x R K) (kd : Kd K) (hn : 0 ≤ n) (hn2 : n ≤ 9223372036854775807) :
    Calls Try.prog 17 #[.pointer (some ⟨x, 0, none⟩), .int .i64 n] w fun r w' => ∃ v, r = .returned (.tuple #[v, .bool true]) ∧ RsEnd w S x R n K v w' := by
  have H0 : Hid (Sk w w S S x R n K n (.slice none 0 0) [] K K) := ⟨h, fun k hk => .inl hk, by simp [Value.ownBlock], But.refl _ _, Ov.nil _, kd, rfl, rfl⟩
  have HL : Hid ((out n (isort K)).length ≤ 256) := by
    have h1 := out_len n (isort K)
    rw [length_isort] at h1
    exact Nat.le_trans h1 kd.len
  obtain ⟨i0, hi0, hz0, hz1, hz2⟩ := info_parts info3
  have I0 : Hid (Try.prog.info? 3 = some i0 ∧ i0.zero = some (.int .i64 0) ∧ i0.size = 1 ∧ i0.bytes = 8) := ⟨hi0, hz0, hz1, hz2⟩
  have b0 : decide (n < 0) = false := by simp; omega
  clear h kd hi0 hz0 hz1 hz2
  go_enter Try.func17, Try.ntmps17
  go_wp2_with fail
  go_loopw [1, 6] (fun s t wx => ∃ (m : Int) (v : Value) (zs : List Int) (K1 : List Tm) (S1 : Nat → Prop), s = .int .i64 m ∧ t = v ∧ 0 ≤ m ∧ m ≤ n ∧ Hid (Sk w wx S S1 x R n K m v zs K1 K1)) (fun s _ _ => (intOf s).toNat)
  case atStart => exact ⟨n, _, [], K, S, rfl, rfl, hn, by omega, H0⟩
  case round =>
    obtain ⟨m, v, zs, K1, S1, rfl, hsv, hm0, hmn, hsk⟩ := hrel
    have hsv' := hsv.symm
    subst hsv'
    clear H0
    obtain ⟨A, c, h1, h2, h3, h4⟩ := hsk.out.rf.head
    have hl := hsk.out.kd.len
    obtain ⟨k1, hk1⟩ : ∃ k1, k1 = K1.length := ⟨_, rfl⟩
    have HK1 := Lib.hid hk1
    have d1 : wr.cell? ⟨x, 1, none⟩ = some (.slice A k1 c) := by rw [hk1]; exact h1.cell (o := 1) rfl
    rw [← hk1] at hl
    clear h1 h2 h3 h4 hk1
    by_cases hgo : 0 < m ∧ 0 < k1
    · obtain ⟨g1, g2⟩ := hgo
      have bg1 : decide (0 < m) = true := by simpa using g1
      have bg2 : (0 : Int) < (k1 : Int) := by omega
      have bg3 : decide ((0 : Int) < (k1 : Int)) = true := by simp; omega
      go_wp2_with fail
      clear bg1 bg2 bg3
      go_loopw [7, 8] (fun s i wx => ∃ (l : Int) (j : Nat), s = .int .i64 l ∧ i = .int .i64 j ∧ j ≤ k1 ∧ 1 ≤ l ∧ l ≤ m ∧ Hid (∀ i, i < j → l ≤ (K1.getD i tm0).left) ∧ Hid (Sk w wx S S1 x R n K m v zs K1 K1)) (fun _ i _ => k1 - (intOf i).toNat)
      case atStart => exact ⟨m, 0, rfl, rfl, by omega, by omega, by omega, (fun i hi => absurd hi (by omega)), hsk⟩
      case round =>
        obtain ⟨l, j, rfl, rfl, hj, hl1, hl2, hall, hs2⟩ := hrel
        clear hsk d1
        obtain ⟨A, c, h1, h2, h3, h4⟩ := hs2.out.rf.head
        have d1 : wr.cell? ⟨x, 1, none⟩ = some (.slice A k1 c) := by rw [HK1.out]; exact h1.cell (o := 1) rfl
        by_cases hjk : j < k1
        · have hjL : j < K1.length := by rw [← HK1.out]; exact hjk
          obtain ⟨g, hA, hg, _, c1, _⟩ := h2.cell hjL
          subst hA
          have hrng := hs2.out.kd.rng _ (getD_mem hjL)
          have HALL : Hid (∀ l', l' ≤ l → l' ≤ (K1.getD j tm0).left → ∀ i, i < j + 1 → l' ≤ (K1.getD i tm0).left) := by
            intro l' h1 h2 i hi
            by_cases e : i = j
            · rw [e]; exact h2
            · have := hall.out i (by omega); omega
          generalize (K1.getD j tm0).left = y at c1 hrng HALL
          obtain ⟨hy1, hy2⟩ := hrng
          have bj : (j : Int) < (k1 : Int) := by omega
          clear h1 h2 h3 h4
          by_cases hly : l ≤ y
          · have bly : decide (l ≤ y) = true := by simpa using hly
            have bly2 : decide (y < l) = false := by simp; omega
            go_wp2
            go_roundw
            case rel => exact ⟨l, j + 1, rfl, by go_num, by omega, hl1, hl2, (HALL.out l (by omega) hly), hs2⟩
            case measure => simp [intOf]; omega
          · have bly : decide (l ≤ y) = false := by simpa using hly
            have bly2 : decide (y < l) = true := by simp; omega
            have hly2 : y < l := by omega
            go_wp2
            go_roundw
            case rel => exact ⟨y, j + 1, rfl, by go_num, by omega, hy1, by omega, (HALL.out y (by omega) (by omega)), hs2⟩
            case measure => simp [intOf]; omega
        · have bj : decide ((j : Int) < (k1 : Int)) = false := by simp; omega
          have HLE : Hid (∀ y ∈ K1, l ≤ y.left) := by
            intro y hy
            obtain ⟨i, hi, e⟩ := mem_getD hy
            have := hall.out i (by have := HK1.out; omega)
            rwa [e] at this
          have H3 : Hid (Sk w wr S S1 x R n K m v zs K1 (near (l - 1) K1 0)) := by have := hs2.out; show Sk _ _ _ _ _ _ _ _ _ _ _ _ _; rw [near_zero]; exact this
          have hjk2 : ¬ j < k1 := hjk
          clear h1 h2 h3 h4 hs2 hall
          go_wp2_with fail
          clear d1
          go_loopw [9] (fun i wx => ∃ (j2 : Nat), i = .int .i64 j2 ∧ j2 ≤ k1 ∧ Hid (Sk w wx S S1 x R n K m v zs K1 (near (l - 1) K1 j2))) (fun i _ => k1 - (intOf i).toNat)
          case atStart => exact ⟨0, rfl, by omega, H3⟩
          case round =>
            obtain ⟨j2, rfl, hj2, hs3⟩ := hrel
            clear H3
            obtain ⟨A, c, h1, h2, h3, h4⟩ := hs3.out.rf.head
            rw [near_len] at h1 h2
            have d1 : wr.cell? ⟨x, 1, none⟩ = some (.slice A k1 c) := by rw [HK1.out]; exact h1.cell (o := 1) rfl
            by_cases hjk3 : j2 < k1
            · have hjL : j2 < K1.length := by rw [← HK1.out]; exact hjk3
              obtain ⟨g, hA, hg, _, c1, f1⟩ := h2.cell (k := j2) (by rw [near_len]; exact hjL)
              subst hA
              rw [near_get hjL] at c1
              have hrng := hs3.out.kd.rng _ (getD_mem hjL)
              have hly := HLE.out _ (getD_mem hjL)
              have HNX : Hid (∀ u, (K1.getD j2 tm0).left - (l - 1) = u → Sk w ((wr.setCell ⟨g, j2 * 2 + 1, none⟩ (.int .i64 u)).drew) S S1 x R n K m v zs K1 (near (l - 1) K1 (j2 + 1))) := fun u hu =>
                (hs3.out.set hjL (by rw [HK1.out] at *; exact h1) hu).no (But.refl No _).drew
              generalize (K1.getD j2 tm0).left = y at c1 hrng hly HNX
              obtain ⟨hy1, hy2⟩ := hrng
              have bj3 : (j2 : Int) < (k1 : Int) := by omega
              have HX : Hid (y - (l - 1) = y - l + 1) := by show _ = _; omega
              have hxg : x ≠ g := fun e => h3 (by rw [e]; rfl)
              clear h1 h2 h3 h4 hs3
              go_wp2_with fail
              go_region
              go_wp2
              go_roundw
              case rel => exact ⟨j2 + 1, by go_num, by omega, HNX.out _ HX.out⟩
              case measure => simp [intOf]; omega
            · have bj3 : decide ((j2 : Int) < (k1 : Int)) = false := by simp; omega
              have bj4 : ¬ j2 < k1 := hjk3
              have H4 : Hid (Sk w wr S S1 x R n K m v zs K1 (K1.map (dn (l - 1)))) := by
                have := hs3.out
                rw [show j2 = K1.length by have := HK1.out; omega, near_all] at this
                exact this
              obtain ⟨m1, hm1⟩ : ∃ m1, m1 = zs.length := ⟨_, rfl⟩
              obtain ⟨m2, hm2⟩ : ∃ m2, m2 = (rOut l K1).length := ⟨_, rfl⟩
              have hm12 : m1 + m2 ≤ 256 := by
                have h1 := HL.out
                have e := out_add (L := isort K1) (isort_srt K1) (a := l) (b := m - l) (by omega)
                rw [show l + (m - l) = m by omega, out_isort HLE.out] at e
                rw [H4.out.o, e, List.length_append, List.length_append, ← hm1, ← hm2] at h1
                omega
              have CT : Hid (Calls Try.prog 15 #[.pointer (some ⟨x, 0, none⟩)] wr fun r w' => ∃ A4 c4, r = .returned (.slice A4 m2 c4) ∧ RtEnd wr S1 x R (rOut l K1) (rRst l K1) (.slice A4 m2 c4) w' ∧ w'.ownsRow 0 3 1 v m1 (zs.map (Value.int .i64)) ∧ Reads w' w'.heap.size 1 A4 m2 ((rOut l K1).map (Value.int .i64))) := by
                refine (rtick_any x R (K1.map (dn (l - 1))) S1 wr H4.out.rf (kd_near H4.out.kd HLE.out hl1)).mono ?_
                rintro r w' ⟨v4, rfl, ht⟩
                rw [rOut_up, rRst_up] at ht
                have ht' := ht
                obtain ⟨S2, t1, t2, t3, t4, t5⟩ := ht'
                obtain ⟨A4, c4, e4, _⟩ := t1.slice
                rw [← hm2] at e4
                subst e4
                refine ⟨A4, c4, rfl, ht, ?_, ?_⟩
                · have := H4.out.ov.but t3 (fun k e hk => (H4.out.va k e).2 hk)
                  unfold Ov at this; rw [← hm1] at this; exact this
                · unfold Ov at t1; rw [← hm2] at t1; exact Reads.of_own t1
              have HSTEP : Hid (∀ A4 c4 w4 A5 c5 w5, RtEnd wr S1 x R (rOut l K1) (rRst l K1) (.slice A4 m2 c4) w4 → w5.ownsRow 0 3 1 (.slice A5 (m1 + m2) c5) (m1 + m2) (zs.map (Value.int .i64) ++ (rOut l K1).map (Value.int .i64)) → w4.grownBy w5 v.ownBlock → ((Value.slice A5 (m1 + m2) c5).ownBlock = v.ownBlock ∨ (Value.slice A5 (m1 + m2) c5).ownBlock = some w4.heap.size) → ∃ S2, Sk w w5 S S2 x R n K (m - l) (.slice A5 (m1 + m2) c5) (zs ++ rOut l K1) (rRst l K1) (rRst l K1)) := by
                intro A4 c4 w4 A5 c5 w5 ht ho hg hat
                refine H4.out.tick HLE.out hl1 hl2 ht ?_ hg hat
                unfold Ov; rw [List.length_append, List.map_append, ← hm1, ← hm2]; exact ho
              have H1C : Hid (∀ u ∈ (rOut l K1).map (Value.int .i64), u.oneCell' = true) := by
                intro u hu
                obtain ⟨z, _, rfl⟩ := List.mem_map.1 hu
                rfl
              clear h1 h2 h3 h4 hs3 H4 hm1 hm2
              go_wp2_with (first | (go_at_call 15; ((with_reducible refine CT.out.mono ?_); rintro e w4 ⟨A4, c4, rfl, hx4, hr4, hd4⟩; have HX4 := Lib.hid hx4; have HR4 := Lib.hid hr4; have HD4 := Lib.hid hd4; clear hx4 hr4 hd4)) | (at_builtin; refine wpList_append_sh _ rfl _ _ 35 rfl 3 i0 _ 1 8 Try.underlying35 I0.out.1 I0.out.2.1 I0.out.2.2.1 I0.out.2.2.2 rfl (by omega) v m1 _ rfl HR4.out w4.heap.size A4 m2 c4 _ rfl HD4.out H1C.out (by unfold maxLen; omega) (by omega) ?_; intro A5 c5 w5 hown5 hgrow5 hat5; have HS5 := Lib.hid (HSTEP.out A4 c4 w4 A5 c5 w5 HX4.out hown5 hgrow5 hat5); clear hown5 hgrow5 hat5))
              obtain ⟨S2, hs5⟩ := HS5.out
              have HS6 := Lib.hid hs5
              clear hs5 HS5
              go_roundw
              case rel => exact ⟨m - l, _, _, _, S2, rfl, rfl, by omega, by omega, HS6⟩
              case measure => simp [intOf]; omega
    · have HE : Hid (RsEnd w S x R n K v wr) := hsk.out.end_ (by
        by_cases e : m = 0
        · exact .inl e
        · exact .inr (List.eq_nil_of_length_eq_zero (by have := HK1.out; omega)))
      by_cases g1 : 0 < m
      · have bg1 : decide (0 < m) = true := by simpa using g1
        have bg3 : decide ((0 : Int) < (k1 : Int)) = false := by simp; omega
        have bg4 : ¬ 0 < k1 := by omega
        have bg5 : decide (0 < k1) = false := by simp; omega
        clear hsk
        go_wp2
        go_ret2
        exact ⟨_, rfl, HE.out⟩
      · have bg1 : decide (0 < m) = false := by simpa using g1
        clear hsk
        go_wp2
        go_ret2
        exact ⟨_, rfl, HE.out⟩
end Go.Proofs.Ytfejnokljddomaa
