/- Locks: Free, New. -/
import Derived.Test.YtimkdcpghhkloaaLkC2
namespace Go.Proofs.Ytimkdcpghhkloaa.lok
open Go.ChangeShapes Go.WideShapes Go.ChangeAt Go.RowKit Go.Deep
def FreEnd (w : World) (S : Nat → Prop) (p n : Nat) (N : Int) (q : Nat → List Int) (t : Int) (e : Ending) (w' : World) : Prop :=
  e = .returned (.tuple #[.int .i64 (freA n q t), .int .i64 (freE n q t)]) ∧ LMv w S p n N (freQ n q t) w'
theorem free_not (p n : Nat) (N : Int) (q : Nat → List Int) (S : Nat → Prop) (w : World) (t : Int) (ht : inR t) (h : LP w S p n N q) (hh : hasV n q t = false) :
    Calls Try.prog 12 #[.pointer (some ⟨p, 0, none⟩), .int .i64 t] w fun r w' => r = .returned (.tuple #[.int .i64 0, .int .i64 5]) ∧ But No w w' := by
  have C1 := Lib.hid (fun W (hb : But No w W) => has_any p n N q S W t ht (h.no hb))
  clear h
  go_enter Try.func12, Try.ntmps12
  go_wp2_with (go_at_call 18; ((with_reducible refine (C1.out _ (But.refl _ _)).mono ?_); rintro e w1 ⟨rfl, hz⟩; rw [hh]; have HZ := Lib.hid hz; clear hz))
  go_ret2
  exact ⟨rfl, HZ.out⟩
set_option maxHeartbeats 1000000 in
theorem free_ok (p n : Nat) (N : Int) (q : Nat → List Int) (S : Nat → Prop) (w : World) (t : Int) (ht : inR t) (h : LP w S p n N q) (hh : hasV n q t = true) :
    Calls Try.prog 12 #[.pointer (some ⟨p, 0, none⟩), .int .i64 t] w (FreEnd w S p n N q t) := by
  have C1 := Lib.hid (fun W (hb : But No w W) => has_any p n N q S W t ht (h.no hb))
  rw [hh] at C1
  have h8 := h.n8
  have hlk := h.ok.free t
  obtain ⟨k, l, hk, hq, hw, hfE, hfA, hfQ⟩ : ∃ (k : Nat) (l : List Int), k < n ∧ q k = t :: l ∧ wantV n q t = k ∧ freE n q t = 0 ∧ freA n q t = hd l ∧ freQ n q t = upd q k l := by
    rcases has_cases h.ok t with ⟨r, l, hr, hq, hw, _, _⟩ | ⟨e, _⟩
    · exact ⟨r, l, hr, hq, hw, by unfold freE; rw [if_pos hh], by unfold freA; rw [if_pos hh, hw]; simp [hq], by unfold freQ; rw [if_pos hh, hw]; simp [hq]⟩
    · rw [hh] at e; cases e
  have CH := Lib.hid (fun W (hb : LP W S p n N (freQ n q t)) => holder_any p n N (freQ n q t) S W k hb)
  have eH : holdV n (freQ n q t) k = hd l := by unfold holdV; rw [qi_nat hk, hfQ, upd_same]
  rw [eH] at CH
  obtain ⟨b, m, P, Sr, T, L, D, hx, hS⟩ := h
  have HR := Lib.hid ht
  have hW : 0 ≤ wantV n q t := by rw [hw]; omega
  have hhas : Maps.has D (ky t) = true := by rw [hx.wants.has]; simpa using hW
  have AT : Hid (∀ z, D.atKey (ky t) z = vl k) := by show ∀ z, _; rw [← hw]; exact hx.wants.at_ t hW
  have K1 : Hid (∀ W1, But No w W1 → W1.cell? ⟨p, 0, none⟩ = some (.slice (some ⟨b, 0, none⟩) n n) ∧ W1.cell? ⟨p, 1, none⟩ = some (.map (some m)) ∧ W1.cell? ⟨b, k, none⟩ = some (.pointer (some ⟨P k, 0, none⟩)) ∧ OM W1 m (Maps.size D) D) := fun W1 hb =>
    ⟨(hx.no hb).queues, (hx.no hb).map_, (hx.no hb).ptr hk, (hx.no hb).om⟩
  have CT := Lib.hid (fun W (hb : But No w W) => rin.take_any (P k) 24 (T k) (L k) (Sr k) W ((hx.no hb).rg k hk))
  have HK : Hid (∀ W1 W2 : World, But No w W1 → rin.Mv W1 (Sr k) (P k) 24 (T k) (L k).tail W2 → W2.cell? ⟨p, 1, none⟩ = some (.map (some m)) ∧ OM W2 m (Maps.size D) D) := by
    intro W1 W2 hb hm
    have x1 := hx.no hb
    obtain ⟨k1, k2⟩ := hm
    exact ⟨(x1.blk.but k2 (hx.ps k hk).1).cell (o := 1) rfl, x1.om.but k2 (hx.ps k hk).2.2⟩
  have HE : Hid (∀ (W1 W2 W3 : World) (M : Nat), But No w W1 → rin.Mv W1 (Sr k) (P k) 24 (T k) (L k).tail W2 → OM W3 m M (D.del (ky t)) → W2.mapTurned W3 m → LMv w S p n N (freQ n q t) W3) := by
    intro W1 W2 W3 M hb hm ho htn
    have hD : (Maps.size (D.del (ky t)) : Int) ≤ N := by
      have h1 := Maps.size_del (k := ky t) hx.wants.tidy
      have h2 := hx.sz
      rw [hhas, if_pos rfl] at h1
      omega
    obtain ⟨z1, z2⟩ := (hx.no hb).turn hk (S := S) (N' := N) hS hm ((But.refl _ W2).turnedL htn (just m)) ho (hx.wants.del hx.ok hh) (q' := freQ n q t) (by
        rw [hfQ, upd_same, List.map_tail, hx.ids k hk, hq]; rfl)
      (fun s hs => by rw [hfQ, upd_other _ _ hs]) (hx.tb k hk) (Int.le_refl _) hD hlk
    exact ⟨z1, (hb.no (S := S)).trans z2⟩
  have hk' : (k : Int) < (n : Int) := by omega
  unfold FreEnd
  rw [hfE, hfA]
  generalize hd l = x at CH ⊢
  generalize rin.fst1 (L k) = v1 at CT
  generalize rin.fst3 (L k) = v2 at CT
  clear hx hS ht hw hW hq hlk hfE hfA hfQ eH
  go_enter Try.func12, Try.ntmps12
  go_wp2_with (first
    | (go_at_call 18; ((with_reducible refine (C1.out _ (But.refl _ _)).mono ?_); rintro e w1 ⟨rfl, hz⟩; have HZ := Lib.hid hz; obtain ⟨c0, c1, c2, c3⟩ := K1.out w1 hz; have OWN := Lib.hid c3; clear hz c3))
    | (at_lookup; refine wpList_lookup_own_int (H := Unit) _ rfl _ _ 50 rfl 3 3 .i64 keyed Try.underlying50 Try.underlying3 (zero3 _) m (Maps.size D) D rfl OWN.out _ (ky t) rfl (Maps.keyOf_int_mk Try.underlying3 (wf_of HR.out)) ?_; intro cc hcc hwc; obtain rfl := at_eq hcc AT.out; clear hcc hwc)
    | (go_at_call 27; ((with_reducible refine (CT.out _ HZ.out).mono ?_); rintro e w2 ⟨rfl, hm⟩; have HM := Lib.hid hm; have HB := Lib.hid (HK.out _ _ HZ.out hm); have hbas := HB.out.1; clear hm))
    | (at_delete; refine wpList_delete_own (H := Unit) _ rfl _ _ 50 3 rfl 3 keyed Try.underlying50 (plainElem Try.prog 3) m (Maps.size D) D rfl HB.out.2 _ (ky t) rfl (Maps.keyOf_int_mk Try.underlying3 (wf_of HR.out)) ?_; intro w3 hown3 ht3; have HE3 := Lib.hid (HE.out _ _ _ _ HZ.out HM.out hown3 ht3); have HL3 := Lib.hid (HE3.out.1); clear hown3 ht3)
    | (go_at_call 14; ((with_reducible refine (CH.out _ HL3.out).mono ?_); rintro e w4 ⟨rfl, hz⟩; have HZ4 := Lib.hid hz; clear hz)))
  go_ret2
  exact ⟨rfl, HL3.out.no HZ4.out, HE3.out.2.trans HZ4.out.no⟩
theorem free_any (p n : Nat) (N : Int) (q : Nat → List Int) (S : Nat → Prop) (w : World) (t : Int) (ht : inR t) (h : LP w S p n N q) :
    Calls Try.prog 12 #[.pointer (some ⟨p, 0, none⟩), .int .i64 t] w (FreEnd w S p n N q t) := by
  cases hh : hasV n q t with
  | true => exact free_ok p n N q S w t ht h hh
  | false =>
    refine (free_not p n N q S w t ht h hh).mono fun r w' ⟨k1, k2⟩ => ⟨?_, ?_⟩
    · rw [k1]; exact ret2i (by unfold freA; rw [hh]; rfl) (by unfold freE; rw [hh]; rfl)
    · have e : freQ n q t = q := by unfold freQ; rw [hh]; rfl
      rw [e]; exact h.stay k2 (Int.le_refl _)
theorem infoR : (Try.prog.info? 47).map (fun i => (i.zero, i.size, i.bytes)) = some (some (.pointer none), 1, 8) := by kernel_rfl
theorem vals_made {w : World} {b n e : Nat} {z : Value} (hz : z.cells = #[z]) (h : w.ownsRow 0 e 1 (.slice (some ⟨b, 0, none⟩) n n) n (madeCells z.cells (n * 1)).toList) : Vals w b e n (fun _ => z) := by
  obtain ⟨h1, h2⟩ := h
  rcases h2 with ⟨h2, _⟩ | ⟨g, cap, cur, hv, _, hh, hn, hc, hs, ht⟩
  · cases h2
  · cases hv
    have e : cur = ((List.range n).map (fun _ => z)).toArray := by
      apply Array.ext'
      have e1 : cur.toList.take (n * 1) = cur.toList := List.take_of_length_le (by simp; omega)
      rw [e1] at ht
      rw [ht, hz, toList_madeCells_one]
      apply List.ext_getElem?
      intro j
      by_cases hj : j < n
      · simp [hj]
      · simp [hj]
    show w.heap[b]? = _
    rw [hh, e]
/-- The first k resources have their rings. -/
def Made (w wr : World) (b n k : Nat) : Prop :=
  ∃ (P : Nat → Nat) (Sr : Nat → Nat → Prop), Vals wr b 47 n (fun r => if r < k then .pointer (some ⟨P r, 0, none⟩) else .pointer none) ∧ (∀ r, r < k → rin.RP wr (Sr r) (P r) 24 0 []) ∧
    (∀ r j, r < k → Sr r j → w.heap.size ≤ j ∧ j ≠ b) ∧ (∀ r s j, r < k → s < k → Sr r j → Sr s j → r = s) ∧ But No w wr ∧ w.heap.size ≤ b
theorem Made.next {w wr w4 : World} {b n k p4 : Nat} (h : Made w wr b n k) (hz : rin.NewEnd wr 24 p4 w4) : Made w (w4.setCell ⟨b, k, none⟩ (.pointer (some ⟨p4, 0, none⟩))) b n (k + 1) := by
  obtain ⟨P, Sr, h1, h2, h3, h4, h5, h6⟩ := h
  obtain ⟨S4, z1, z2, z3⟩ := hz
  have hbl := h1.lt
  have hs5 := h5.size
  have h1' : Vals w4 b _ n _ := h1.but z2 (fun f => f)
  have hB : But (Just b) w4 (w4.setCell ⟨b, k, none⟩ (.pointer (some ⟨p4, 0, none⟩))) := (But.refl _ w4).setCell (p := ⟨b, k, none⟩) (just b) _
  refine ⟨fun r => if r = k then p4 else P r, fun r => if r = k then S4 else Sr r, ?_, ?_, ?_, ?_, ?_, h6⟩
  · refine (h1'.set (k := k) _).congr fun j hj => ?_
    show (if j < k + 1 then Value.pointer (some ⟨if j = k then p4 else P j, 0, none⟩) else _) = _
    by_cases e : j = k
    · subst e; rw [if_pos (by omega), if_pos rfl, if_pos rfl]
    · rw [if_neg e, if_neg e]
      by_cases e2 : j < k
      · rw [if_pos (by omega), if_pos e2]
      · rw [if_neg (by omega), if_neg e2]
  · intro r hr
    show rin.RP _ (if r = k then S4 else Sr r) (if r = k then p4 else P r) 24 0 []
    by_cases e : r = k
    · rw [if_pos e, if_pos e]
      exact z1.but hB (fun j hj e' => by cases e'; have := z3 _ hj; omega)
    · rw [if_neg e, if_neg e]
      exact ((h2 r (by omega)).no z2).but hB (fun j hj e' => (h3 r j (by omega) hj).2 e')
  · intro r j hr hj
    by_cases e : r = k
    · simp only [if_pos e] at hj
      have := z3 j hj
      exact ⟨by omega, by omega⟩
    · simp only [if_neg e] at hj
      exact h3 r j (by omega) hj
  · intro r s j hr hs hj hj'
    by_cases e : r = k <;> by_cases e' : s = k
    · omega
    · simp only [if_pos e] at hj
      simp only [if_neg e'] at hj'
      have a := (h2 s (by omega)).lt j hj'
      have := z3 j hj
      omega
    · simp only [if_neg e] at hj
      simp only [if_pos e'] at hj'
      have a := (h2 r (by omega)).lt j hj
      have := z3 j hj'
      omega
    · simp only [if_neg e] at hj
      simp only [if_neg e'] at hj'
      exact h4 r s j (by omega) (by omega) hj hj'
  · exact (h5.trans z2).setNew (p := ⟨b, k, none⟩) h6 _
def LNew (w : World) (n : Nat) (e : Ending) (w' : World) : Prop :=
  ∃ p S, e = .returned (.tuple #[.pointer (some ⟨p, 0, none⟩), .int .i64 0]) ∧ LP w' S p n 0 (fun _ => []) ∧ But No w w' ∧ ∀ k, S k → w.heap.size ≤ k
theorem wants_none (n : Nat) : WantIs (.map []) n (fun _ => []) := by
  have e : ∀ t, wantV n (fun _ => []) t = -1 := fun t => want_out (LK.none n) (fun r hr => absurd hr (by simp))
  refine ⟨Maps.tidy_empty, fun t => ?_, fun t ht => ?_⟩
  · rw [e]; rfl
  · rw [e] at ht; omega
theorem Made.over {w w1 : World} {b n : Nat} (h : Made w w1 b n n) (h8 : n ≤ 8) :
    LNew w n (.returned (.tuple #[.pointer (some ⟨w1.heap.size + 1, 0, none⟩), .int .i64 0])) ((w1.alloc (.map #[] 0)).alloc (.cells #[.slice (some ⟨b, 0, none⟩) n n, .map (some w1.heap.size)] 52)) := by
  obtain ⟨P, Sr, h1, h2, h3, h4, h5, h6⟩ := h
  have hm := World.ownsMap_made (H := Unit) w1 Try.prog 3 (plainElem Try.prog 3)
  have hbk := Blk.new (w1.alloc (.map #[] 0)) #[.slice (some ⟨b, 0, none⟩) n n, .map (some w1.heap.size)] 52
  have hsz : (w1.alloc (.map #[] 0)).heap.size = w1.heap.size + 1 := by simp
  rw [hsz] at hbk
  have hB : But No w1 ((w1.alloc (.map #[] 0)).alloc (.cells #[.slice (some ⟨b, 0, none⟩) n n, .map (some w1.heap.size)] 52)) := ((But.refl No w1).alloc _).alloc _
  have hbl := h1.lt
  have hs1 := h5.size
  have h1' : Vals w1 b 47 n (fun r => .pointer (some ⟨P r, 0, none⟩)) := h1.congr (fun j hj => by rw [if_pos hj])
  have hl : ∀ r k, r < n → Sr r k → k < w1.heap.size := fun r k hr hk => (h2 r hr).lt k hk
  refine ⟨w1.heap.size + 1, Lo (w1.heap.size + 1) b w1.heap.size n Sr, rfl, ⟨b, w1.heap.size, P, Sr, fun _ => 0, fun _ => [], .map [], ⟨hbk, h1'.but hB (fun f => f), fun r hr => (h2 r hr).no hB, fun _ _ => rfl, fun _ _ => Int.le_refl _, hm.alloc _, Int.le_refl _, wants_none n, by omega, by omega, by omega, ?_, h4, h8, LK.none n⟩, fun _ => Iff.rfl⟩, h5.trans hB, ?_⟩
  · intro r hr
    exact ⟨fun e => by have := hl r _ hr e; omega, fun e => (h3 r _ hr e).2 rfl, fun e => by have := hl r _ hr e; omega⟩
  · rintro k (rfl | rfl | rfl | ⟨r, hr, hk⟩)
    · omega
    · omega
    · omega
    · exact (h3 r k hr hk).1
theorem new_bad (res : Int) (w : World) (h : res < 0 ∨ 8 < res) :
    Calls Try.prog 7 #[.int .i64 res] w fun r w' => r = .returned (.tuple #[.pointer none, .int .i64 1]) ∧ w = w' := by
  rcases h with h | h
  · have b1 : decide (res < 0) = true := by simp; omega
    go_enter Try.func7, Try.ntmps7
    go_wp2
    go_ret2
    exact ⟨rfl, rfl⟩
  · have b1 : decide (res < 0) = false := by simp; omega
    have b2 : decide ((8 : Int) < res) = true := by simp; omega
    go_enter Try.func7, Try.ntmps7
    go_wp2
    go_ret2
    exact ⟨rfl, rfl⟩
set_option maxHeartbeats 2000000 in
theorem new_ok (n : Nat) (w : World) (h8 : n ≤ 8) : Calls Try.prog 7 #[.int .i64 n] w (LNew w n) := by
  have hmm := @run_makeMap Try.prog
  have CN := Lib.hid (fun W => rin.new_ok 24 W (by omega) (by omega))
  obtain ⟨i0, hi0, hz0, hz1, hz2⟩ := info_parts infoR
  have I0 : Hid (Try.prog.info? 47 = some i0 ∧ i0.zero = some (.pointer none) ∧ i0.size = 1 ∧ i0.bytes = 8) := ⟨hi0, hz0, hz1, hz2⟩
  have b1 : decide ((n : Int) < 0) = false := by simp
  have b2 : decide ((8 : Int) < (n : Int)) = false := by simp; omega
  obtain ⟨b, hb⟩ : ∃ b, b = w.heap.size := ⟨_, rfl⟩
  have HBE := Lib.hid hb
  clear hi0 hz0 hz1 hz2
  go_enter Try.func7, Try.ntmps7
  go_wp2_with (at_make; refine wpList_make_full _ rfl _ _ 46 rfl 0 47 i0 _ 1 Try.underlying46 I0.out.1 I0.out.2.1 I0.out.2.2.1 .i64 .i64 _ _ n rfl rfl (by omega) (by omega) (by rw [I0.out.2.2.2]; omega) (by unfold maxLen; omega) (Nat.zero_le _) ?_; intro w0 hown0 hgrow0; have hB0 : But No w w0 := (But.refl No w).grown hgrow0 (fun k e => by cases e); have HB0 := Lib.hid hB0; have HV0 := Lib.hid (vals_made rfl hown0); clear hown0 hgrow0 hB0)
  rw [← hb] at HV0 ⊢
  clear hb
  have HM0 : Hid (Made w w0 b n 0) := ⟨fun _ => 0, fun _ _ => False, HV0.out.congr (fun j hj => by simp), fun r hr => absurd hr (by omega), fun r j hr => absurd hr (by omega), fun r s j hr => absurd hr (by omega), HB0.out, by rw [HBE.out]; exact Nat.le_refl _⟩
  clear HV0 HB0
  go_loopw [18] (fun t wr => ∃ k : Nat, t = .int .i64 k ∧ k ≤ n ∧ Hid (Made w wr b n k)) (fun t _ => n - (intOf t).toNat)
  case atStart => exact ⟨0, rfl, by omega, HM0⟩
  case round =>
    obtain ⟨k, rfl, hk, hm⟩ := hrel
    clear HM0
    by_cases hlt : k < n
    · have kn' : (k : Int) < (n : Int) := by omega
      go_wp2_with (go_at_call 22; ((with_reducible refine (CN.out _).mono ?_); rintro e w4 ⟨p4, rfl, hz⟩; have HZ := Lib.hid hz; have HN := Lib.hid (hm.out.next hz); have hcell := (by obtain ⟨P, Sr, h1, _⟩ := hm.out; obtain ⟨S4, z1, z2, z3⟩ := hz; exact ⟨_, (h1.but z2 (fun f => f)).cell (k := k) hlt, (h1.but z2 (fun f => f)).frozen k⟩ : ∃ v, w4.cell? ⟨b, k, none⟩ = some v ∧ w4.frozen? ⟨b, k, none⟩ = false); obtain ⟨old, hcell, hfz⟩ := hcell; clear hz))
      clear hcell hfz
      go_roundw
      case rel => exact ⟨k + 1, by go_num, by omega, HN⟩
      case measure => simp [intOf]; omega
    · obtain rfl : k = n := by omega
      have HE := Lib.hid (hm.out.over h8)
      have b3 : decide ((k : Int) < (k : Int)) = false := by simp
      go_wp2
      go_ret2
      exact HE.out
end Go.Proofs.Ytimkdcpghhkloaa.lok
