/- The document's own mailboxes: Take. -/
import Derived.Test.YtmfjlfemeihchaaR3
namespace Go.Proofs.Ytmfjlfemeihchaa
open Go.ChangeShapes Go.WideShapes Go.ChangeAt Go.RowKit Go.Deep
theorem tk_nil (c now : Int) : tk c now [] = [] := rfl
theorem lf_nil (c now : Int) : lf c now [] = [] := rfl
theorem Reads.front {w : World} {B n k size : Nat} {A : Option Addr} {xs : List Value} (h : Reads w B size A n xs) (hk : k ≤ n) : Reads w B size A k (xs.take (k * size)) := by
  have hm : k * size ≤ n * size := Nat.mul_le_mul_right _ hk
  refine ⟨by rw [List.length_take, h.1]; omega, fun h0 => ?_⟩
  obtain ⟨ad, e, hb, hc⟩ := h.2 (by omega)
  refine ⟨ad, e, hb, fun j u hu => hc j u ?_⟩
  rw [List.getElem?_take] at hu
  split at hu
  · exact hu
  · cases hu
theorem slice_to {A : Option Addr} {n k c : Nat} (hk : k ≤ c) (W : World) : (Instr.slice 43 (.slice A n c) none (some (.int .i64 (k : Int))) none).run Try.prog W = .ok (.slice A k c) W := by
  obtain ⟨i0, hi0, hi1, hi2, hi3⟩ := info_parts info53
  have he : Try.prog.elem 43 = 53 := by kernel_rfl
  have ht : Try.prog.underlying 43 = some (.slice (Try.prog.elem 43)) := by rw [he]; exact Try.underlying43
  rw [run_slice_h (P := Try.prog) W 43 A n c ht .i64 (k : Int) (by omega) (by omega), he]
  simp [sizeOf, typeInfo, hi0, sliced, Addr.add]
theorem slice_from {A : Option Addr} {n k c : Nat} (hk : k ≤ n) (W : World) : (Instr.slice 43 (.slice A n c) (some (.int .i64 (k : Int))) none none).run Try.prog W = .ok (.slice (if c = k then A else A.map (·.add (k * 3))) (n - k) (c - k)) W := by
  obtain ⟨i0, hi0, hi1, hi2, hi3⟩ := info_parts info53
  have he : Try.prog.elem 43 = 53 := by kernel_rfl
  have ht : Try.prog.underlying 43 = some (.slice (Try.prog.elem 43)) := by rw [he]; exact Try.underlying43
  rw [run_slice_l (P := Try.prog) W 43 A n c ht .i64 (k : Int) (by omega) (by omega), he]
  simp [sizeOf, typeInfo, hi0, sliced, hi2]
theorem drewN_add (w : World) (a b : Nat) : (w.drewN a).drewN b = w.drewN (a + b) := by unfold World.drewN; simp [Nat.add_assoc]
abbrev fl := flat Nt.core Nt.task Nt.due
theorem Ov3.front {w : World} {A : Option Addr} {n d k : Nat} {K : List Nt} (h : OvR w (.slice A n d) K) (hn : K.length = n) (hk : k ≤ n) : Reads w w.heap.size 3 A k (fl (K.take k)) := by
  have h' : w.ownsRow 0 53 3 (.slice A n d) K.length (fl K) := h
  rw [hn] at h'
  have := (Reads.of_own h').front hk
  rw [flat_take] at this; exact this
theorem Ov3.back {w : World} {A : Option Addr} {n d k : Nat} {K : List Nt} (h : OvR w (.slice A n d) K) (hn : K.length = n) (hk : k ≤ n) (hd : n ≤ d) : Reads w w.heap.size 3 (if d = k then A else A.map (·.add (k * 3))) (n - k) (fl (K.drop k)) := by
  have h' : w.ownsRow 0 53 3 (.slice A n d) K.length (fl K) := h
  rw [hn] at h'
  have := (Reads.of_own h').cut hk hd
  rw [flat_drop] at this; exact this
theorem aft1 {w wq w1 : World} {va vb : Value} {K B : List Nt} {k c1 : Nat} {A1 : Option Addr} (h : Tw w wq va vb K B) (hk : k ≤ K.length) (ho : w1.ownsRow 0 53 3 (.slice A1 k c1) k (fl (K.take k))) (hg : wq.grownBy w1 (Value.slice none 0 0).ownBlock)
    (hat : (Value.slice A1 k c1).ownBlock = (Value.slice none 0 0).ownBlock ∨ (Value.slice A1 k c1).ownBlock = some wq.heap.size) : Th w w1 va vb (.slice A1 k c1) K B (K.take k) ∧ But No wq w1 := by
  refine ⟨h.start.app (But.refl _ _) ?_ hg hat, (But.refl _ _).grown hg (fun k e => by simp [Value.ownBlock] at e)⟩
  show w1.ownsRow 0 53 3 _ (K.take k).length _
  rw [List.length_take, Nat.min_eq_left hk]; exact ho
theorem aft2 {w w1 w2 : World} {va vb v1 v2 : Value} {K B : List Nt} {k : Nat} {y : Nt} (hk : k ≤ K.length) (h : Th w w1 va vb v1 K B (K.take k)) (ho : w2.ownsRow 0 53 3 v2 (k + 1) (fl (K.take k) ++ [.int .i64 y.core, .int .i64 y.task, .int .i64 y.due]))
    (hg : (w1.alloc (.cells #[.int .i64 y.core, .int .i64 y.task, .int .i64 y.due] 53)).grownBy w2 v1.ownBlock) (hat : v2.ownBlock = v1.ownBlock ∨ v2.ownBlock = some (w1.alloc (.cells #[.int .i64 y.core, .int .i64 y.task, .int .i64 y.due] 53)).heap.size) : Th w w2 va vb v2 K B (K.take k ++ [y]) :=
  h.app ((But.refl No _).alloc _) (Ov3.app (by rw [List.length_take, Nat.min_eq_left hk]) ho) hg hat
theorem aft3 {w w2 w3 : World} {va vb v2 v3 : Value} {K B : List Nt} {k n : Nat} {y : Nt} (hn : k + 1 + (K.length - k) = n) (hk : k ≤ K.length) (h : Th w w2 va vb v2 K B (K.take k ++ [y])) (ho : w3.ownsRow 0 53 3 v3 n (fl (K.take k ++ [y]) ++ fl (K.drop k)))
    (hg : w2.grownBy w3 v2.ownBlock) (hat : v3.ownBlock = v2.ownBlock ∨ v3.ownBlock = some w2.heap.size) : Tw w w3 v3 vb (K.take k ++ y :: K.drop k) B := by
  refine Th.done (h.app (But.refl _ _) ?_ hg hat)
  show w3.ownsRow 0 53 3 v3 (K.take k ++ y :: K.drop k).length (flat _ _ _ (K.take k ++ y :: K.drop k))
  rw [show K.take k ++ y :: K.drop k = (K.take k ++ [y]) ++ K.drop k by simp, flat_append, List.length_append, List.length_append, List.length_take, Nat.min_eq_left hk, List.length_drop, List.length_singleton, hn]
  exact ho
set_option maxHeartbeats 4000000 in
set_option maxRecDepth 100000 in
theorem rtake_any (x : Nat) (C : Int) (L : List Nt) (S : Nat → Prop) (w : World) (c now : Int) (h : RF w S x C L) (up : L.Pairwise (fun a b => a.turn < b.turn)) (hl : L.length ≤ 1000) :
    Calls Try.prog 13 #[.pointer (some ⟨x, 0, none⟩), .int .i64 c, .int .i64 now] w fun r w' => ∃ v, r = .returned v ∧ RtEnd w S x C ((tk c now L).map Nt.task) (lf c now L) v w' := by
  have H := Lib.hid h
  have HU := Lib.hid up
  obtain ⟨A0, d, h1, h2, h3, h4, hd⟩ := h.head
  have HX := Lib.hid h1
  have HO := Lib.hid h2
  obtain ⟨n, hn⟩ : ∃ n, n = L.length := ⟨_, rfl⟩
  have HN := Lib.hid hn
  rw [← hn] at hl HX HO
  obtain ⟨i0, hi0, hz0, hz1, hz2⟩ := info_parts info3
  have I0 : Hid (Try.prog.info? 3 = some i0 ∧ i0.zero = some (.int .i64 0) ∧ i0.size = 1 ∧ i0.bytes = 8) := ⟨hi0, hz0, hz1, hz2⟩
  clear hi0 hz0 hz1 hz2
  obtain ⟨i5, hi0, hz0, hz1, hz2⟩ := info_parts info53
  have I5 : Hid (Try.prog.info? 53 = some i5 ∧ i5.zero = some (noteV 0 0 0) ∧ i5.size = 3 ∧ i5.bytes = 24) := ⟨hi0, hz0, hz1, hz2⟩
  clear h up h1 h2 h3 h4 hn hd hi0 hz0 hz1 hz2
  have H0 : Hid (Tw w w (.slice none 0 0) (.slice none 0 0) (tk c now (L.take 0)) (lf c now (L.take 0))) := ⟨Ov3.nil _, Ov3.nil _, But.refl _ _, own_none, own_none, by simp [Value.ownBlock]⟩
  go_enter Try.func13, Try.ntmps13
  go_wp2_with fail
  go_loopw [7, 8, 9] (fun s t i wx => ∃ (va vb : Value) (j : Nat), s = va ∧ t = vb ∧ i = .int .i64 j ∧ j ≤ n ∧ Hid (Tw w wx va vb (tk c now (L.take j)) (lf c now (L.take j)))) (fun _ _ i _ => n - (intOf i).toNat)
  case atStart => exact ⟨_, _, 0, rfl, rfl, rfl, by omega, H0⟩
  case round =>
    obtain ⟨va, vb, j, hsa, hsb, rfl, hj, htk⟩ := hrel
    have hsa' := hsa.symm
    have hsb' := hsb.symm
    subst hsa' hsb'
    clear H0
    have HXr := Lib.hid (HX.out.but htk.out.but (fun f => f))
    have d1 : wr.cell? ⟨x, 1, none⟩ = some (.slice A0 n d) := HXr.out.cell (o := 1) rfl
    by_cases hjl : j < n
    · have hjL : j < L.length := by rw [← HN.out]; exact hjl
      have jn : (j : Int) < (n : Int) := by omega
      obtain ⟨g, hA, hg, c0, c1, c2, _⟩ := (HO.out.no htk.out.but).cell hjL
      have HA := Lib.hid hA
      rw [hA] at d1
      obtain ⟨y, hy⟩ : ∃ y, L.getD j nt0 = y := ⟨_, rfl⟩
      have HY := Lib.hid hy
      have HSN : Hid (L.take (j + 1) = L.take j ++ [y]) := by rw [← hy]; exact take_snocN hjL
      rw [hy] at c0 c1 c2
      have hma : (tk c now (L.take j)).length ≤ 1000 := by have := tk_le c now (L.take j); rw [List.length_take] at this; omega
      have hmb : (lf c now (L.take j)).length ≤ 1000 := by
        have : (lf c now (L.take j)).length ≤ (L.take j).length := List.length_filter_le _ _
        rw [List.length_take] at this; omega
      obtain ⟨yc, yt, yd, yn⟩ := y
      dsimp only at c0 c1 c2
      by_cases hm : mt c now ⟨yc, yt, yd, yn⟩
      · have HLF : Hid (lf c now (L.take (j + 1)) = lf c now (L.take j)) := by show _ = _; rw [HSN.out, lf_snoc_in hm]
        have b1 : (yc != c) = false := by have := hm.1; simpa using this
        have b2 : decide (now < yd) = false := by have : yd ≤ now := hm.2; simpa using this
        obtain ⟨K1, hK1⟩ : ∃ K, tk c now (L.take j) = K := ⟨_, rfl⟩
        obtain ⟨m, hm1⟩ : ∃ m, m = K1.length := ⟨_, rfl⟩
        have HM := Lib.hid hm1
        have HPLA : Hid (∀ k, k ≤ m → (∀ i, k ≤ i → i < m → yd < (K1.getD i nt0).due) → (0 < k → ¬ yd < (K1.getD (k - 1) nt0).due) → K1.take k ++ ⟨yc, yt, yd, yn⟩ :: K1.drop k = tk c now (L.take (j + 1))) := by
          intro k hk p1 p2
          have := tk_place (k := k) HU.out hjL HY.out hm (by rw [hK1, ← hm1]; exact hk) (by rw [hK1, ← hm1]; exact p1) (by rw [hK1]; exact p2)
          rwa [hK1] at this
        have HTK := htk
        rw [hK1] at HTK hma
        rw [← hm1] at hma
        obtain ⟨Aa, da, eva, hmd⟩ := HTK.out.oa.slice
        rw [← hm1] at eva hmd
        subst eva
        obtain ⟨wz, hwz⟩ : ∃ wz, wz = wr := ⟨_, rfl⟩
        subst hwz
        clear htk hy hm hK1 hm1 hA hjL
        go_wp2_with fail
        generalize hwd : World.alloc _ _ = wd
        have HBD : Hid (But No wz wd) := by rw [← hwd]; exact (But.refl No wz).alloc _
        have e0 : wd.cell? ⟨wz.heap.size, 0, none⟩ = some (.int .i64 yc) := by rw [← hwd]; exact (Blk.new wz _ _).cell (o := 0) rfl
        have e1 : wd.cell? ⟨wz.heap.size, 1, none⟩ = some (.int .i64 yt) := by rw [← hwd]; exact (Blk.new wz _ _).cell (o := 1) rfl
        have e2 : wd.cell? ⟨wz.heap.size, 2, none⟩ = some (.int .i64 yd) := by rw [← hwd]; exact (Blk.new wz _ _).cell (o := 2) rfl
        clear hwd c0 c1 c2 d1
        go_loopw [11] (fun s wx => ∃ k : Nat, s = .int .i64 k ∧ k ≤ m ∧ Hid (∀ i, k ≤ i → i < m → yd < (K1.getD i nt0).due) ∧ Hid (∃ q, wx = wd.drewN q)) (fun s _ => (intOf s).toNat)
        case atStart => exact ⟨m, rfl, by omega, fun i h1 h2 => by omega, 0, rfl⟩
        case round =>
          obtain ⟨k, rfl, hk, hup, HWD⟩ := hrel
          by_cases k0 : k = 0
          · have HNB : Hid (0 < k → ¬ yd < (K1.getD (k - 1) nt0).due) := fun h => by omega
            have t1 : decide ((0 : Int) < (k : Int)) = false := by simp; omega
            have t2 : decide (0 < k) = false := by simp; omega
            clear k0
            go_wp2_with fail
            go_quiet (fail)
            generalize hwq : World.drewN _ _ = wq
            have HDQ : Hid (But No wd wq) := by rw [← hwq]; exact (drewN_but HWD.out).drewN _
            clear hwq
            have HTQ := Lib.hid (HTK.out.no (HBD.out.trans HDQ.out))
            have HPL := Lib.hid (HPLA.out k (by omega) hup.out HNB.out)
            have q0 := cell_keep e0 HDQ.out
            have q1 := cell_keep e1 HDQ.out
            have q2 := cell_keep e2 HDQ.out
            have CK : Hid (∀ w1, But No wq w1 → w1.cell? ⟨wz.heap.size, 0, none⟩ = some (.int .i64 yc) ∧ w1.cell? ⟨wz.heap.size, 1, none⟩ = some (.int .i64 yt) ∧ w1.cell? ⟨wz.heap.size, 2, none⟩ = some (.int .i64 yd)) := fun w1 hb => ⟨cell_keep q0 hb, cell_keep q1 hb, cell_keep q2 hb⟩
            have RD1 : Hid (Reads wq wq.heap.size 3 Aa k (fl (K1.take k))) := HTQ.out.oa.front HM.out.symm (by omega)
            have sl1 := fun W => slice_to (A := Aa) (n := m) (k := k) (c := da) (by omega) W
            have sl3 := fun W => slice_from (A := Aa) (n := m) (k := k) (c := da) (by omega) W
            have RD3 : Hid (∀ w2, OvR w2 (.slice Aa m da) K1 → Reads w2 w2.heap.size 3 (if da = k then Aa else Aa.map (·.add (k * 3))) (m - k) (fl (K1.drop k))) := fun w2 ho => ho.back HM.out.symm (by omega) hmd
            generalize (if da = k then Aa else Aa.map (·.add (k * 3))) = Ak at sl3 RD3
            clear e0 e1 e2 HWD
            go_wp2_with (first
              | (at_builtin; refine wpList_append_sh _ rfl _ _ 43 rfl 53 i5 _ 3 24 Try.underlying43 I5.out.1 I5.out.2.1 I5.out.2.2.1 I5.out.2.2.2 rfl (by omega) (.slice none 0 0) 0 [] rfl (World.ownsRow_nil _ _ _ _) wq.heap.size Aa k da _ rfl RD1.out (flat_cell _) (by unfold maxLen; omega) (by omega) ?_; simp only [Nat.zero_add, List.nil_append]; intro A1 c1 w1 hown hgrow hat; obtain ⟨hT1, hB1⟩ := aft1 HTQ.out (by rw [← HM.out]; omega) hown hgrow hat; have HT1 := Lib.hid hT1; obtain ⟨r0, r1, r2⟩ := CK.out _ hB1; have ROW2 : Hid (∀ o, (w1.alloc o).ownsRow 0 53 3 (.slice A1 k c1) k (fl (K1.take k))) := (fun o => owns_but (S := No) hown ((But.refl No w1).alloc o) (fun _ _ f => f)); clear hown hgrow hat hT1 hB1 q0 q1 q2 CK RD1)
              | (at_builtin; refine wpList_append_sh _ rfl _ _ 43 rfl 53 i5 _ 3 24 Try.underlying43 I5.out.1 I5.out.2.1 I5.out.2.2.1 I5.out.2.2.2 rfl (by omega) (.slice A1 k c1) k _ rfl (ROW2.out _) (w1.heap.size + 1) (some ⟨w1.heap.size, 0, none⟩) 1 1 [.int .i64 yc, .int .i64 yt, .int .i64 yd] rfl (three_reads w1 53 yc yt yd) (three_cell yc yt yd) (by unfold maxLen; omega) (by omega) ?_; intro A2 c2 w2 hown hgrow hat; have HT2 := Lib.hid (aft2 (y := ⟨yc, yt, yd, yn⟩) (by rw [← HM.out]; omega) HT1.out hown hgrow hat); have ROW3 : Hid (w2.ownsRow 0 53 3 (.slice A2 (k + 1) c2) (k + 1) (fl (K1.take k ++ [⟨yc, yt, yd, yn⟩]))) := (by show w2.ownsRow 0 53 3 _ _ (flat Nt.core Nt.task Nt.due (K1.take k ++ [⟨yc, yt, yd, yn⟩])); rw [flat_append]; exact hown); have RD4 := Lib.hid (RD3.out _ HT2.out.t.oa); clear hown hgrow hat r0 r1 r2 ROW2 HT1 RD3)
              | (at_builtin; refine wpList_append_sh _ rfl _ _ 43 rfl 53 i5 _ 3 24 Try.underlying43 I5.out.1 I5.out.2.1 I5.out.2.2.1 I5.out.2.2.2 rfl (by omega) (.slice A2 (k + 1) c2) (k + 1) _ rfl ROW3.out w2.heap.size Ak (m - k) (da - k) _ rfl RD4.out (flat_cell _) (by unfold maxLen; omega) (by omega) ?_; intro A3 c3 w3 hown hgrow hat; have HF := Lib.hid (HPL.out ▸ aft3 (by rw [← HM.out]) (by rw [← HM.out]; omega) HT2.out hown hgrow hat); clear hown hgrow hat))
            exact ⟨⟨_, _, j + 1, rfl, rfl, by go_num, by omega, by rw [HLF.out]; exact HF.out⟩, by simp [intOf]; omega⟩
          · obtain ⟨q, hq⟩ : ∃ q, k = q + 1 := ⟨k - 1, by omega⟩
            have HQ := Lib.hid hq
            have hqK : q < K1.length := by rw [← HM.out]; omega
            have t1 : decide ((0 : Int) < (k : Int)) = true := by simp; omega
            have t2 : decide (0 < k) = true := by simp; omega
            have kp : (0 : Int) < (k : Int) := by omega
            have kp2 : 0 < k := by omega
            have jq : (k : Int) - 1 = (q : Int) := by omega
            have wq1 : IntKind.i64.wrap ((k : Int) - 1) = (q : Int) := by rw [IntKind.wrap_i64]; omega
            have wq2 : IntKind.i64.wrap (q : Int) = (q : Int) := by rw [IntKind.wrap_i64]; omega
            have hqm : (q : Int) < (m : Int) := by omega
            have HTR := Lib.hid (HTK.out.no (HBD.out.trans (drewN_but HWD.out)))
            obtain ⟨ga, hGa, hga, y0, y1, y2, _⟩ := HTR.out.oa.cell hqK
            have HGA := Lib.hid hGa
            subst hGa
            have p2 := cell_keep e2 (drewN_but HWD.out)
            obtain ⟨z, hz⟩ : ∃ z, K1.getD q nt0 = z := ⟨_, rfl⟩
            have HZ := Lib.hid hz
            rw [hz] at y2
            obtain ⟨zc, zt, zd, zn⟩ := z
            dsimp only at y2
            clear y0 y1
            by_cases hlt : yd < zd
            · have HUP : Hid (∀ i, q ≤ i → i < m → yd < (K1.getD i nt0).due) := by
                intro i h1 h2
                by_cases e : i = q
                · rw [e, hz]; exact hlt
                · exact hup.out i (by omega) h2
              have t3 : decide (yd < zd) = true := by simpa using hlt
              clear hq hz hlt k0
              go_wp2_with fail
              go_quiet (fail)
              clear wq1 wq2
              go_wp2
              go_roundw
              case rel => exact ⟨q, rfl, by omega, HUP, by obtain ⟨a, ha⟩ := HWD.out; exact ⟨_, by rw [ha]; exact drewN_add _ _ _⟩⟩
              case measure => simp [intOf]; omega
            · have HNB : Hid (0 < k → ¬ yd < (K1.getD (k - 1) nt0).due) := fun _ => by rw [HQ.out, show q + 1 - 1 = q by omega, hz]; exact hlt
              have t3 : decide (yd < zd) = false := by simpa using hlt
              clear hq hz hlt k0
              go_wp2_with fail
              go_quiet (fail)
              clear wq1 wq2 p2 y2 hga
              generalize hwq : World.drewN _ _ = wq
              have HDQ : Hid (But No wd wq) := by rw [← hwq]; exact (drewN_but HWD.out).drewN _
              clear hwq
              have HTQ := Lib.hid (HTK.out.no (HBD.out.trans HDQ.out))
              have HPL := Lib.hid (HPLA.out k (by omega) hup.out HNB.out)
              have q0 := cell_keep e0 HDQ.out
              have q1 := cell_keep e1 HDQ.out
              have q2 := cell_keep e2 HDQ.out
              have CK : Hid (∀ w1, But No wq w1 → w1.cell? ⟨wz.heap.size, 0, none⟩ = some (.int .i64 yc) ∧ w1.cell? ⟨wz.heap.size, 1, none⟩ = some (.int .i64 yt) ∧ w1.cell? ⟨wz.heap.size, 2, none⟩ = some (.int .i64 yd)) := fun w1 hb => ⟨cell_keep q0 hb, cell_keep q1 hb, cell_keep q2 hb⟩
              have RD1 : Hid (Reads wq wq.heap.size 3 (some (⟨ga, 0, none⟩ : Addr)) k (fl (K1.take k))) := HTQ.out.oa.front HM.out.symm (by omega)
              have sl1 := fun W => slice_to (A := (some (⟨ga, 0, none⟩ : Addr))) (n := m) (k := k) (c := da) (by omega) W
              have sl3 := fun W => slice_from (A := (some (⟨ga, 0, none⟩ : Addr))) (n := m) (k := k) (c := da) (by omega) W
              have RD3 : Hid (∀ w2, OvR w2 (.slice (some (⟨ga, 0, none⟩ : Addr)) m da) K1 → Reads w2 w2.heap.size 3 (if da = k then (some (⟨ga, 0, none⟩ : Addr)) else (some (⟨ga, 0, none⟩ : Addr)).map (·.add (k * 3))) (m - k) (fl (K1.drop k))) := fun w2 ho => ho.back HM.out.symm (by omega) hmd
              generalize (if da = k then (some (⟨ga, 0, none⟩ : Addr)) else (some (⟨ga, 0, none⟩ : Addr)).map (·.add (k * 3))) = Ak at sl3 RD3
              clear e0 e1 e2 HWD
              go_wp2_with (first
                | (at_builtin; refine wpList_append_sh _ rfl _ _ 43 rfl 53 i5 _ 3 24 Try.underlying43 I5.out.1 I5.out.2.1 I5.out.2.2.1 I5.out.2.2.2 rfl (by omega) (.slice none 0 0) 0 [] rfl (World.ownsRow_nil _ _ _ _) wq.heap.size (some (⟨ga, 0, none⟩ : Addr)) k da _ rfl RD1.out (flat_cell _) (by unfold maxLen; omega) (by omega) ?_; simp only [Nat.zero_add, List.nil_append]; intro A1 c1 w1 hown hgrow hat; obtain ⟨hT1, hB1⟩ := aft1 HTQ.out (by rw [← HM.out]; omega) hown hgrow hat; have HT1 := Lib.hid hT1; obtain ⟨r0, r1, r2⟩ := CK.out _ hB1; have ROW2 : Hid (∀ o, (w1.alloc o).ownsRow 0 53 3 (.slice A1 k c1) k (fl (K1.take k))) := (fun o => owns_but (S := No) hown ((But.refl No w1).alloc o) (fun _ _ f => f)); clear hown hgrow hat hT1 hB1 q0 q1 q2 CK RD1)
                | (at_builtin; refine wpList_append_sh _ rfl _ _ 43 rfl 53 i5 _ 3 24 Try.underlying43 I5.out.1 I5.out.2.1 I5.out.2.2.1 I5.out.2.2.2 rfl (by omega) (.slice A1 k c1) k _ rfl (ROW2.out _) (w1.heap.size + 1) (some ⟨w1.heap.size, 0, none⟩) 1 1 [.int .i64 yc, .int .i64 yt, .int .i64 yd] rfl (three_reads w1 53 yc yt yd) (three_cell yc yt yd) (by unfold maxLen; omega) (by omega) ?_; intro A2 c2 w2 hown hgrow hat; have HT2 := Lib.hid (aft2 (y := ⟨yc, yt, yd, yn⟩) (by rw [← HM.out]; omega) HT1.out hown hgrow hat); have ROW3 : Hid (w2.ownsRow 0 53 3 (.slice A2 (k + 1) c2) (k + 1) (fl (K1.take k ++ [⟨yc, yt, yd, yn⟩]))) := (by show w2.ownsRow 0 53 3 _ _ (flat Nt.core Nt.task Nt.due (K1.take k ++ [⟨yc, yt, yd, yn⟩])); rw [flat_append]; exact hown); have RD4 := Lib.hid (RD3.out _ HT2.out.t.oa); clear hown hgrow hat r0 r1 r2 ROW2 HT1 RD3)
                | (at_builtin; refine wpList_append_sh _ rfl _ _ 43 rfl 53 i5 _ 3 24 Try.underlying43 I5.out.1 I5.out.2.1 I5.out.2.2.1 I5.out.2.2.2 rfl (by omega) (.slice A2 (k + 1) c2) (k + 1) _ rfl ROW3.out w2.heap.size Ak (m - k) (da - k) _ rfl RD4.out (flat_cell _) (by unfold maxLen; omega) (by omega) ?_; intro A3 c3 w3 hown hgrow hat; have HF := Lib.hid (HPL.out ▸ aft3 (by rw [← HM.out]) (by rw [← HM.out]; omega) HT2.out hown hgrow hat); clear hown hgrow hat))
              exact ⟨⟨_, _, j + 1, rfl, rfl, by go_num, by omega, by rw [HLF.out]; exact HF.out⟩, by simp [intOf]; omega⟩

      · have HT : Hid (tk c now (L.take (j + 1)) = tk c now (L.take j)) := tk_skip hjL hy hm
        have HLF : Hid (lf c now (L.take (j + 1)) = lf c now (L.take j) ++ [⟨yc, yt, yd, yn⟩]) := by show _ = _; rw [HSN.out, lf_snoc_out hm]
        obtain ⟨m2, hm2⟩ : ∃ m, (lf c now (L.take j)).length = m := ⟨_, rfl⟩
        have HM2 := Lib.hid hm2
        rw [hm2] at hmb
        have hor : (yc != c) = true ∨ ((yc != c) = false ∧ decide (now < yd) = true) := by
          by_cases e : yc = c
          · right; refine ⟨by simpa using e, ?_⟩
            have : ¬ yd ≤ now := fun e2 => hm ⟨e, e2⟩
            simp; omega
          · left; simpa using e
        have ROW : Hid (∀ wy, But No wr wy → wy.ownsRow 0 53 3 vb m2 (flat Nt.core Nt.task Nt.due (lf c now (L.take j)))) := by
          intro wy hb
          have := htk.out.ob.no hb
          unfold Ov3 at this
          rw [HM2.out] at this; exact this
        have AFT : Hid (∀ wy v3 w3, But No wr wy → w3.ownsRow 0 53 3 v3 (m2 + 1) (flat Nt.core Nt.task Nt.due (lf c now (L.take j)) ++ [.int .i64 yc, .int .i64 yt, .int .i64 yd]) → wy.grownBy w3 vb.ownBlock → (v3.ownBlock = vb.ownBlock ∨ v3.ownBlock = some wy.heap.size) → Tw w w3 va v3 (tk c now (L.take (j + 1))) (lf c now (L.take (j + 1)))) := by
          intro wy v3 w3 hb ho hg hat
          rw [HT.out, HLF.out]
          exact htk.out.app hb (Ov3.app (x := ⟨yc, yt, yd, yn⟩) HM2.out ho) hg hat
        clear hA hy hm hm2
        rcases hor with hb1 | ⟨hb1, hb2⟩
        · go_wp2_with (at_builtin; refine wpList_append_sh _ rfl _ _ 43 rfl 53 i5 _ 3 24 Try.underlying43 I5.out.1 I5.out.2.1 I5.out.2.2.1 I5.out.2.2.2 rfl (by omega) vb m2 _ rfl (ROW.out _ (((But.refl No wr).alloc _).alloc _)) (wr.heap.size + 1 + 1) (some ⟨wr.heap.size + 1, 0, none⟩) 1 1 [.int .i64 yc, .int .i64 yt, .int .i64 yd] rfl (three_reads2 wr _ 53 yc yt yd) (three_cell yc yt yd) (by unfold maxLen; omega) (by omega) ?_; intro A3 c3 w3 hown hgrow hat; have HF := Lib.hid (AFT.out _ _ w3 (((But.refl No wr).alloc _).alloc _) hown hgrow hat); clear hown hgrow hat)
          clear htk ROW AFT
          go_roundw
          case rel => exact ⟨_, _, j + 1, rfl, rfl, by go_num, by omega, HF⟩
          case measure => simp [intOf]; omega
        · go_wp2_with (at_builtin; refine wpList_append_sh _ rfl _ _ 43 rfl 53 i5 _ 3 24 Try.underlying43 I5.out.1 I5.out.2.1 I5.out.2.2.1 I5.out.2.2.2 rfl (by omega) vb m2 _ rfl (ROW.out _ (((But.refl No wr).alloc _).alloc _)) (wr.heap.size + 1 + 1) (some ⟨wr.heap.size + 1, 0, none⟩) 1 1 [.int .i64 yc, .int .i64 yt, .int .i64 yd] rfl (three_reads2 wr _ 53 yc yt yd) (three_cell yc yt yd) (by unfold maxLen; omega) (by omega) ?_; intro A3 c3 w3 hown hgrow hat; have HF := Lib.hid (AFT.out _ _ w3 (((But.refl No wr).alloc _).alloc _) hown hgrow hat); clear hown hgrow hat)
          clear htk ROW AFT
          go_roundw
          case rel => exact ⟨_, _, j + 1, rfl, rfl, by go_num, by omega, HF⟩
          case measure => simp [intOf]; omega
    · obtain rfl : j = n := by omega
      have bj : decide ((j : Int) < (j : Int)) = false := by simp
      have HT : Hid (Tw w wr va vb (tk c now L) (lf c now L)) := by
        have ht := htk.out
        rw [HN.out, List.take_length] at ht; exact ht
      obtain ⟨K, hK⟩ : ∃ K, tk c now L = K := ⟨_, rfl⟩
      have HKE := Lib.hid hK
      rw [hK] at HT
      have hmK : K.length ≤ 1000 := by have := tk_le c now L; rw [hK] at this; have := HN.out; omega
      obtain ⟨m, hm⟩ : ∃ m, m = K.length := ⟨_, rfl⟩
      have HM := Lib.hid hm
      rw [← hm] at hmK
      obtain ⟨⟨S', hft⟩, f1, v1, c1⟩ := Tw.store H.out HT.out
      have HF0 := Lib.hid hft
      obtain ⟨A1, d1', e1, _⟩ := HT.out.oa.slice
      obtain ⟨A2, d2', e2, _⟩ := HT.out.ob.slice
      rw [← hm] at e1
      generalize (lf c now L).length = l2 at e2
      subst e1 e2
      obtain ⟨ws, hws⟩ : ∃ ws, wr.setCell ⟨x, 1, none⟩ (.slice A2 l2 d2') = ws := ⟨_, rfl⟩
      have HWS := Lib.hid hws
      rw [hws] at HF0
      clear htk HT hK hm hft hws c1 v1
      go_wp2_with fail
      rw [HWS.out]
      have HF1 : Hid (Ft w ws S S' x C (lf c now L) K (.slice A1 m d1') (.slice none 0 0) ((K.take 0).map Nt.task)) := HF0.out
      go_loopw [13, 14] (fun s i wx => ∃ (vt : Value) (q : Nat), s = vt ∧ i = .int .i64 q ∧ q ≤ m ∧ Hid (Ft w wx S S' x C (lf c now L) K (.slice A1 m d1') vt ((K.take q).map Nt.task))) (fun _ i _ => m - (intOf i).toNat)
      case atStart => exact ⟨_, 0, rfl, rfl, by omega, HF1⟩
      case round =>
        obtain ⟨vt, q, hst, rfl, hq, hft⟩ := hrel
        have hst' := hst.symm
        subst hst'
        clear HF0 HF1
        by_cases hql : q < m
        · have hqK : q < K.length := by rw [← HM.out]; exact hql
          have qn : (q : Int) < (m : Int) := by omega
          obtain ⟨ga, hGa, hga, y0, y1, y2, _⟩ := hft.out.oa.cell hqK
          have HGA := Lib.hid hGa
          subst hGa
          have HSQ : Hid (K.take (q + 1) = K.take q ++ [K.getD q nt0]) := take_snocN hqK
          obtain ⟨a, ha⟩ : ∃ a, (K.getD q nt0).task = a := ⟨_, rfl⟩
          have HAA := Lib.hid ha
          rw [ha] at y1
          have ROW : Hid ((wr.alloc (.cells #[.int .i64 a] 3)).ownsRow 0 3 1 vt q (((K.take q).map Nt.task).map (Value.int .i64))) := by
            have := owns_but (S := No) hft.out.t ((But.refl No wr).alloc (.cells #[.int .i64 a] 3)) (fun _ _ f => f)
            rw [lenmap K (by rw [← HM.out]; omega)] at this; exact this
          have AFT : Hid (∀ v3 w3, w3.ownsRow 0 3 1 v3 (q + 1) (((K.take q).map Nt.task).map (Value.int .i64) ++ [.int .i64 a]) → (wr.alloc (.cells #[.int .i64 a] 3)).grownBy w3 vt.ownBlock → (v3.ownBlock = vt.ownBlock ∨ v3.ownBlock = some (wr.alloc (.cells #[.int .i64 a] 3)).heap.size) → Ft w w3 S S' x C (lf c now L) K (.slice (some ⟨ga, 0, none⟩) m d1') v3 ((K.take (q + 1)).map Nt.task)) := by
            intro v3 w3 ho hg hat
            rw [HSQ.out, List.map_append, List.map_singleton, HAA.out]
            exact hft.out.app (lenmap K (by rw [← HM.out]; omega)) ho hg hat
          clear ha y0 y2 hga
          go_wp2_with (at_builtin; refine wpList_append_sh _ rfl _ _ 34 rfl 3 i0 _ 1 8 Try.underlying34 I0.out.1 I0.out.2.1 I0.out.2.2.1 I0.out.2.2.2 rfl (by omega) vt q _ rfl ROW.out (wr.heap.size + 1) (some ⟨wr.heap.size, 0, none⟩) 1 1 [.int .i64 a] rfl (one_reads wr a) (one_cell a) (by unfold maxLen; omega) (by omega) ?_; intro A3 c3 w3 hown hgrow hat; have HF3 := Lib.hid (AFT.out _ w3 hown hgrow hat); clear hown hgrow hat)
          clear hft ROW AFT
          go_roundw
          case rel => exact ⟨_, q + 1, rfl, by go_num, by omega, HF3⟩
          case measure => simp [intOf]; omega
        · obtain rfl : q = m := by omega
          have bq : decide ((q : Int) < (q : Int)) = false := by simp
          have HE : Hid (RtEnd w S x C (K.map Nt.task) (lf c now L) vt wr) := by
            have := hft.out.end_
            rw [HM.out, List.take_length] at this; exact this
          clear hft
          go_wp2
          go_ret
          exact ⟨_, rfl, by rw [HKE.out]; exact HE.out⟩
end Go.Proofs.Ytmfjlfemeihchaa
