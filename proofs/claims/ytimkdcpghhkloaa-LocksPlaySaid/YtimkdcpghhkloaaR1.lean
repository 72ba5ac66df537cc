/- The document's own locks in memory; New, Holder, Wants, Has, Queue. -/
import Derived.Test.YtimkdcpghhkloaaRR
namespace Go.Proofs.Ytimkdcpghhkloaa
open Go.ChangeShapes Go.WideShapes Go.ChangeAt Go.RowKit Go.Deep
open lok
structure RX (w : World) (x b n : Nat) (v : Nat → Value) (q : Nat → List Int) : Prop where
  blk : Blk w x #[.slice (some ⟨b, 0, none⟩) n n] 54
  ror : RoR w b n v q
  xo : ¬ Ro b n v x
  n8 : n ≤ 8
  ok : LK n q
def XP (w : World) (S : Nat → Prop) (x n : Nat) (q : Nat → List Int) : Prop := ∃ b v, RX w x b n v q ∧ ∀ k, S k ↔ k = x ∨ Ro b n v k
def XMv (w : World) (S : Nat → Prop) (x n : Nat) (q : Nat → List Int) (w' : World) : Prop := ∃ S', XP w' S' x n q ∧ But S w w' ∧ ∀ k, S' k → S k ∨ w.heap.size ≤ k
section
variable {w w' : World} {x b n : Nat} {v : Nat → Value} {q : Nat → List Int} {S S' : Nat → Prop}
theorem RX.but (h : RX w x b n v q) (hb : But S' w w') (hs : ∀ k, k = x ∨ Ro b n v k → ¬ S' k) : RX w' x b n v q :=
  ⟨h.blk.but hb (hs x (.inl rfl)), h.ror.but hb (fun k hk => hs k (.inr hk)), h.xo, h.n8, h.ok⟩
theorem RX.no (h : RX w x b n v q) (hb : But No w w') : RX w' x b n v q := h.but hb (fun _ _ f => f)
theorem RX.fld (h : RX w x b n v q) : w.cell? ⟨x, 0, none⟩ = some (.slice (some ⟨b, 0, none⟩) n n) := h.blk.cell (o := 0) rfl
theorem XP.but (h : XP w S x n q) (hb : But S' w w') (hs : ∀ k, S k → ¬ S' k) : XP w' S x n q := by
  obtain ⟨b, v, hx, hS⟩ := h
  exact ⟨b, v, hx.but hb (fun k hk => hs k ((hS k).2 hk)), hS⟩
theorem XP.no (h : XP w S x n q) (hb : But No w w') : XP w' S x n q := h.but hb (fun _ _ f => f)
theorem XP.lt (h : XP w S x n q) : ∀ k, S k → k < w.heap.size := by
  obtain ⟨b, v, hx, hS⟩ := h
  intro k hk
  rcases (hS k).1 hk with rfl | e
  · exact hx.blk.lt
  · exact hx.ror.lt k e
theorem XP.stay (h : XP w S x n q) (hb : But No w w') : XMv w S x n q w' := ⟨S, h.no hb, hb.no, fun _ h => .inl h⟩
/-- What New leaves. -/
def XNew (w : World) (n : Nat) (e : Ending) (w' : World) : Prop :=
  ∃ x S, e = .returned (.pointer (some ⟨x, 0, none⟩)) ∧ XP w' S x n (fun _ => []) ∧ But No w w' ∧ ∀ k, S k → w.heap.size ≤ k
theorem rnew_made {w w1 : World} {n : Nat} (h8 : n ≤ 8) (hb : But No w w1) (hv : Vals w1 w.heap.size 41 n (fun _ => .slice none 0 0)) :
    XNew w n (.returned (.pointer (some ⟨w1.heap.size, 0, none⟩))) (w1.alloc (.cells #[.slice (some ⟨w.heap.size, 0, none⟩) n n] 54)) := by
  have hB : But No w1 (w1.alloc (.cells #[.slice (some ⟨w.heap.size, 0, none⟩) n n] 54)) := (But.refl No w1).alloc _
  have hr := (RoR.made hv).no hB
  have hlt := hv.lt
  have hs := hb.size
  refine ⟨w1.heap.size, fun k => k = w1.heap.size ∨ Ro w.heap.size n (fun _ => .slice none 0 0) k, rfl, ⟨w.heap.size, _, ⟨Blk.new w1 _ _, hr, ?_, h8, LK.none n⟩, fun _ => Iff.rfl⟩, hb.trans hB, ?_⟩
  · rintro (e | ⟨r, _, e⟩)
    · omega
    · simp [Value.ownBlock] at e
  · rintro k (rfl | rfl | ⟨r, _, e⟩)
    · exact hs
    · exact Nat.le_refl _
    · simp [Value.ownBlock] at e
end
theorem rnew_ok (n : Nat) (w : World) (h8 : n ≤ 8) : Calls Try.prog 8 #[.int .i64 n] w (XNew w n) := by
  obtain ⟨i4, hi0, hz0, hz1, hz2⟩ := info_parts info41
  have I4 : Hid (Try.prog.info? 41 = some i4 ∧ i4.zero = some (.slice none 0 0) ∧ i4.size = 1 ∧ i4.bytes = 24) := ⟨hi0, hz0, hz1, hz2⟩
  have b2 : decide ((8 : Int) < (n : Int)) = false := by simp; omega
  have b1 : decide ((n : Int) < 0) = false := by simp
  clear hi0 hz0 hz1 hz2
  go_enter Try.func8, Try.ntmps8
  go_wp2_with (at_make; refine wpList_make_full _ rfl _ _ 44 rfl 0 41 i4 _ 1 Try.underlying44 I4.out.1 I4.out.2.1 I4.out.2.2.1 .i64 .i64 _ _ n rfl rfl (by omega) (by omega) (by rw [I4.out.2.2.2]; omega) (by unfold maxLen; omega) (Nat.zero_le _) ?_; intro w3 hown0 hgrow0; have hB0 : But No w w3 := (But.refl No w).grown hgrow0 (fun k e => by cases e); have HE := Lib.hid (rnew_made h8 hB0 (vals_made (z := .slice none 0 0) rfl hown0)); clear hown0 hgrow0 hB0)
  go_ret
  exact HE.out
theorem rnew_bad (res : Int) (w : World) (h : res < 0 ∨ 8 < res) : Calls Try.prog 8 #[.int .i64 res] w fun r w' => r = .returned (.pointer none) ∧ w = w' := by
  rcases h with h | h
  · have b1 : decide (res < 0) = true := by simp; omega
    go_enter Try.func8, Try.ntmps8
    go_wp2
    go_ret
    exact ⟨rfl, rfl⟩
  · have b1 : decide (res < 0) = false := by simp; omega
    have b2 : decide ((8 : Int) < res) = true := by simp; omega
    go_enter Try.func8, Try.ntmps8
    go_wp2
    go_ret
    exact ⟨rfl, rfl⟩
theorem in_getD {l : List Int} {t : Int} {i : Nat} (hi : i < l.length) (h : l.getD i 0 = t) : t ∈ l := by
  rw [← h, List.getD_eq_getElem?_getD, List.getElem?_eq_getElem hi]
  exact List.getElem_mem hi
theorem out_getD {l : List Int} {t : Int} (h : ∀ i, i < l.length → l.getD i 0 ≠ t) : t ∉ l := by
  intro hm
  obtain ⟨i, hi, e⟩ := List.getElem_of_mem hm
  refine h i hi ?_
  rw [List.getD_eq_getElem?_getD, List.getElem?_eq_getElem hi]
  exact e
set_option maxHeartbeats 2000000 in
theorem rwants_any (x n : Nat) (q : Nat → List Int) (S : Nat → Prop) (w : World) (t : Int) (h : XP w S x n q) :
    Calls Try.prog 17 #[.pointer (some ⟨x, 0, none⟩), .int .i64 t] w fun r w' => r = .returned (.int .i64 (wantV n q t)) ∧ But No w w' := by
  obtain ⟨b, v, hx, hS⟩ := h
  have HX := Lib.hid hx
  have h8 := hx.n8
  clear hx hS
  go_enter Try.func17, Try.ntmps17
  go_wp2_with fail
  go_loopw [5] (fun s wr => ∃ r : Nat, s = .int .i64 r ∧ r ≤ n ∧ Hid (∀ s, s < r → t ∉ q s) ∧ Hid (But No w wr)) (fun s _ => n - (intOf s).toNat)
  case atStart => exact ⟨0, rfl, by omega, fun s hs => absurd hs (by omega), But.refl No w⟩
  case round =>
    obtain ⟨r, rfl, hr, hno, hw⟩ := hrel
    obtain ⟨wz, hwz⟩ : ∃ wz, wz = wr := ⟨_, rfl⟩
    by_cases hlt : r < n
    · have rn' : (r : Int) < (n : Int) := by omega
      have hl := HX.out.ok.len r
      obtain ⟨A, c, hv, hc⟩ := HX.out.ror.slice hlt
      have CEL : Hid (∀ W, But No w W → W.cell? ⟨x, 0, none⟩ = some (.slice (some ⟨b, 0, none⟩) n n) ∧ W.cell? ⟨b, r, none⟩ = some (.slice A (q r).length c)) := fun W hb => ⟨(HX.out.no hb).fld, by rw [← hv]; exact (HX.out.no hb).ror.cell hlt⟩
      have ROW : Hid (∀ W, But No w W → ∀ i, i < (q r).length → ∃ eb off, A = some ⟨eb, off, none⟩ ∧ W.cell? ⟨eb, off + i, none⟩ = some (.int .i64 ((q r).getD i 0))) := by
        intro W hb i hi
        have h1 := (HX.out.no hb).ror.own r hlt
        rw [hv] at h1
        obtain ⟨eb, off, e, _, hcc⟩ := ((h1.rl (by omega)).1).at_ (by omega)
        exact ⟨eb, off, e, hcc i hi⟩
      obtain ⟨d0, d1⟩ := CEL.out _ hw.out
      clear hv hwz
      generalize hm : (q r).length = m at *
      have HM := Lib.hid hm
      clear hm
      go_wp2_with fail
      go_loopw [6] (fun s wr => ∃ j : Nat, s = .int .i64 j ∧ j ≤ m ∧ Hid (∀ i, i < j → (q r).getD i 0 ≠ t) ∧ Hid (But No w wr)) (fun s _ => m - (intOf s).toNat)
      case atStart => exact ⟨0, rfl, by omega, fun s hs => absurd hs (by omega), hw⟩
      case round =>
        clear d0 d1
        obtain ⟨j, rfl, hj, hnj, hw2⟩ := hrel
        obtain ⟨d0, d1⟩ := CEL.out _ hw2.out
        by_cases hjm : j < m
        · have jm' : (j : Int) < (m : Int) := by omega
          obtain ⟨eb, off, rfl, d2⟩ := ROW.out _ hw2.out j hjm
          obtain ⟨y, hy⟩ : ∃ y, (q r).getD j 0 = y := ⟨_, rfl⟩
          rw [hy] at d2
          by_cases hyt : y = t
          · have HE : Hid (wantV n q t = r) := want_in HX.out.ok (in_getD (i := j) (by rw [HM.out]; exact hjm) (by rw [hy]; exact hyt))
            have b1 : (y == t) = true := by simpa using hyt
            clear hyt hy
            go_wp2
            go_ret
            exact ⟨by rw [HE.out]; rfl, hw2.out⟩
          · have HNJ : Hid (∀ i, i < j + 1 → (q r).getD i 0 ≠ t) := by
              intro i hi
              by_cases e : i = j
              · rw [e, hy]; exact hyt
              · exact hnj.out i (by omega)
            have b1 : (y == t) = false := by simpa using hyt
            clear hyt hy
            go_wp2
            go_roundw
            case rel => exact ⟨j + 1, by go_num, by omega, HNJ, hw2⟩
            case measure => simp [intOf]; omega
        · have b1 : decide ((j : Int) < (m : Int)) = false := by simp; omega
          have HNR : Hid (∀ s, s < r + 1 → t ∉ q s) := by
            intro s hs
            by_cases e : s = r
            · rw [e]; exact out_getD (fun i hi => hnj.out i (by rw [HM.out] at hi; omega))
            · exact hno.out s (by omega)
          go_wp2
          go_roundw
          case rel => exact ⟨r + 1, by go_num, by omega, HNR, hw2⟩
          case measure => simp [intOf]; omega
    · have b1 : decide ((r : Int) < (n : Int)) = false := by simp; omega
      have d0 := (HX.out.no hw.out).fld
      have HE : Hid (wantV n q t = -1) := by
        rcases want_any n q t with ⟨s, _, h2, h3⟩ | ⟨h1, _⟩
        · exact absurd h2 (hno.out s (by omega))
        · exact h1
      go_wp2
      go_ret
      exact ⟨by rw [HE.out]; rfl, hw.out⟩
theorem rholder_any (x n : Nat) (q : Nat → List Int) (S : Nat → Prop) (w : World) (res : Int) (h : XP w S x n q) :
    Calls Try.prog 15 #[.pointer (some ⟨x, 0, none⟩), .int .i64 res] w fun r w' => r = .returned (.int .i64 (holdV n q res)) ∧ But No w w' := by
  obtain ⟨b, v, hx, hS⟩ := h
  have h8 := hx.n8
  have c0 := hx.fld
  cases hr : resB n res with
  | false =>
    have e : holdV n q res = -1 := by unfold holdV; rw [qi_out hr]; rfl
    rw [e]
    have hr' := resB_not.1 hr
    clear hx hS e hr
    by_cases h0 : res < 0
    · go_enter Try.func15, Try.ntmps15
      go_wp2
      go_ret
      exact ⟨rfl, But.refl _ _⟩
    · have b1 : decide ((n : Int) ≤ res) = true := by simp; omega
      have b2 : decide (res < 0) = false := by simp; omega
      have b3 : decide (res < (n : Int)) = false := by simp; omega
      go_enter Try.func15, Try.ntmps15
      go_wp2
      go_ret
      exact ⟨rfl, But.refl _ _⟩
  | true =>
    have hr' := resB_iff.1 hr
    obtain ⟨k, rfl⟩ : ∃ k : Nat, res = k := ⟨res.toNat, by omega⟩
    have hk : k < n := by omega
    have hk' : (k : Int) < (n : Int) := by omega
    have e : holdV n q k = hd (q k) := by unfold holdV; rw [qi_nat hk]
    rw [e]
    obtain ⟨A, c, hv, hc⟩ := hx.ror.slice hk
    have c1 : w.cell? ⟨b, k, none⟩ = some (.slice A (q k).length c) := by rw [← hv]; exact hx.ror.cell hk
    have hl := hx.ok.len k
    have ho := hx.ror.own k hk
    rw [hv] at ho
    cases hq : q k with
    | nil =>
      rw [hq] at c1
      clear hx hS ho e hq hr hr'
      show Calls _ _ _ _ fun r w' => r = .returned (.int .i64 (-1)) ∧ But No w w'
      go_enter Try.func15, Try.ntmps15
      go_wp2
      go_ret
      exact ⟨rfl, But.refl _ _⟩
    | cons y l =>
      obtain ⟨eb, off, eA, _, hcc⟩ := ((ho.rl (by omega)).1).at_ (by rw [hq]; simp)
      subst eA
      have d2 := hcc 0 (by rw [hq]; simp)
      rw [hq] at d2 c1 hl
      have e3 : ((y :: l).getD 0 0) = y := rfl
      rw [e3, Nat.add_zero] at d2
      generalize hm : (y :: l).length = m at *
      have m0 : (0 : Int) < (m : Int) := by rw [← hm, List.length_cons]; omega
      have b1 : ((m : Int) == 0) = false := by simp; omega
      clear hx hS ho e hq hr hr' hcc hm e3
      show Calls _ _ _ _ fun r w' => r = .returned (.int .i64 y) ∧ But No w w'
      go_enter Try.func15, Try.ntmps15
      go_wp2
      go_ret
      exact ⟨rfl, But.refl _ _⟩
theorem rhas_any (x n : Nat) (q : Nat → List Int) (S : Nat → Prop) (w : World) (t : Int) (h : XP w S x n q) :
    Calls Try.prog 19 #[.pointer (some ⟨x, 0, none⟩), .int .i64 t] w fun r w' => r = .returned (.bool (hasV n q t)) ∧ But No w w' := by
  have CW := Lib.hid (fun W (hb : But No w W) => rwants_any x n q S W t (h.no hb))
  obtain ⟨b, v, hx, hS⟩ := h
  have h8 := hx.n8
  have HX := Lib.hid hx
  rcases want_cases hx.ok t with ⟨k, hw, hm, hk⟩ | ⟨hw, hno⟩
  · have hk' : (k : Int) < (n : Int) := by omega
    rw [hw] at CW
    obtain ⟨A, c, hv, hc⟩ := hx.ror.slice hk
    have hl := hx.ok.len k
    cases hq : q k with
    | nil => rw [hq] at hm; cases hm
    | cons y l =>
      have e : hasV n q t = decide (y = t) := by
        unfold hasV holdV
        rw [hw, qi_nat hk, hq]
        have : (0 : Int) ≤ (k : Int) := by omega
        show (decide ((0 : Int) ≤ (k : Int)) && decide (y = t)) = decide (y = t)
        rw [decide_eq_true this, Bool.true_and]
      have e2 : (y == t) = decide (y = t) := by by_cases h : y = t <;> simp [h]
      rw [e]
      have CEL : Hid (∀ W, But No w W → W.cell? ⟨x, 0, none⟩ = some (.slice (some ⟨b, 0, none⟩) n n) ∧ W.cell? ⟨b, k, none⟩ = some (.slice A (q k).length c) ∧ ∃ eb off, A = some ⟨eb, off, none⟩ ∧ W.cell? ⟨eb, off, none⟩ = some (.int .i64 y)) := by
        intro W hb
        have x1 := hx.no hb
        have h1 := x1.ror.own k hk
        rw [hv] at h1
        obtain ⟨eb, off, eA, _, hcc⟩ := ((h1.rl (by omega)).1).at_ (by rw [hq]; simp)
        have d2 := hcc 0 (by rw [hq]; simp)
        rw [hq] at d2
        exact ⟨x1.fld, by rw [← hv]; exact x1.ror.cell hk, eb, off, eA, d2⟩
      obtain ⟨_, _, eb, off, eA, _⟩ := CEL.out w (But.refl _ _)
      subst eA
      have CEL2 : Hid (∀ W, But No w W → W.cell? ⟨x, 0, none⟩ = some (.slice (some ⟨b, 0, none⟩) n n) ∧ W.cell? ⟨b, k, none⟩ = some (.slice (some ⟨eb, off, none⟩) (q k).length c) ∧ W.cell? ⟨eb, off, none⟩ = some (.int .i64 y)) := by
        intro W hb
        obtain ⟨h1, h2, eb', off', eA, h3⟩ := CEL.out W hb
        cases eA
        exact ⟨h1, h2, h3⟩
      have hml : (q k).length = l.length + 1 := by rw [hq]; rfl
      generalize (q k).length = m at *
      have m0 : (0 : Int) < (m : Int) := by omega
      clear hx hS hw hm hv hq e CEL hml
      go_enter Try.func19, Try.ntmps19
      go_wp2_with (go_at_call 17; ((with_reducible refine (CW.out _ (But.refl _ _)).mono ?_); rintro e w1 ⟨rfl, hb⟩; obtain ⟨d0, d1, d2⟩ := CEL2.out _ hb; have HB := Lib.hid hb; clear hb))
      go_ret
      exact ⟨retb e2, HB.out⟩
  · have e : hasV n q t = false := by unfold hasV; rw [hw]; rfl
    rw [e]
    rw [hw] at CW
    clear hx hS hw hno e
    go_enter Try.func19, Try.ntmps19
    go_wp2_with (go_at_call 17; ((with_reducible refine (CW.out _ (But.refl _ _)).mono ?_); rintro e w1 ⟨rfl, hb⟩; have HB := Lib.hid hb; clear hb))
    go_ret
    exact ⟨rfl, HB.out⟩
/-- What Queue gives: the tasks, in a row of its own. -/
def XAll (w : World) (l : List Int) (e : Ending) (w' : World) : Prop :=
  ∃ A c, e = .returned (.slice A l.length c) ∧ Ov w' (.slice A l.length c) l ∧ But No w w' ∧ ∀ k, (Value.slice A l.length c).ownBlock = some k → w.heap.size ≤ k
theorem rqueue_out (x n : Nat) (q : Nat → List Int) (S : Nat → Prop) (w : World) (res : Int) (h : XP w S x n q) (hr : resB n res = false) :
    Calls Try.prog 21 #[.pointer (some ⟨x, 0, none⟩), .int .i64 res] w (XAll w []) := by
  obtain ⟨b, v, hx, hS⟩ := h
  have h8 := hx.n8
  have c0 := hx.fld
  have hr' := resB_not.1 hr
  have HE : Hid (XAll w [] (.returned (.slice none 0 0)) w) := ⟨none, 0, rfl, Ov.nil w, But.refl _ _, own_none⟩
  clear hx hS hr
  by_cases h0 : res < 0
  · have b2 : decide (res < 0) = true := by simp; omega
    have b4 : decide (0 ≤ res) = false := by simp; omega
    go_enter Try.func21, Try.ntmps21
    go_wp2
    go_ret
    exact HE.out
  · have b1 : decide (res < (n : Int)) = false := by simp; omega
    have b4 : 0 ≤ res := by omega
    go_enter Try.func21, Try.ntmps21
    go_wp2
    go_ret
    exact HE.out
theorem rqueue_in (x n : Nat) (q : Nat → List Int) (S : Nat → Prop) (w : World) (k : Nat) (h : XP w S x n q) (hk : k < n) :
    Calls Try.prog 21 #[.pointer (some ⟨x, 0, none⟩), .int .i64 k] w (XAll w (q k)) := by
  obtain ⟨b, v, hx, hS⟩ := h
  have h8 := hx.n8
  have c0 := hx.fld
  have hk' : (k : Int) < (n : Int) := by omega
  obtain ⟨A, c, hv, hc⟩ := hx.ror.slice hk
  have c1 : w.cell? ⟨b, k, none⟩ = some (.slice A (q k).length c) := by rw [← hv]; exact hx.ror.cell hk
  have hl := hx.ok.len k
  have ho := hx.ror.own k hk
  rw [hv] at ho
  have RD : Hid (Reads w w.heap.size 1 A (q k).length ((q k).map (Value.int .i64))) := Reads.of_own ho
  have ONE : Hid (∀ u ∈ (q k).map (Value.int .i64), u.oneCell' = true) := by
    intro u hu
    obtain ⟨z, _, rfl⟩ := List.mem_map.1 hu
    rfl
  obtain ⟨i3, hi0, hz0, hz1, hz2⟩ := info_parts info3
  have I3 : Hid (Try.prog.info? 3 = some i3 ∧ i3.zero = some (.int .i64 0) ∧ i3.size = 1 ∧ i3.bytes = 8) := ⟨hi0, hz0, hz1, hz2⟩
  clear hx hS ho hv hi0 hz0 hz1 hz2
  go_enter Try.func21, Try.ntmps21
  go_wp2_with (at_builtin; refine wpList_append_sh _ rfl _ _ 41 rfl 3 i3 _ 1 8 Try.underlying41 I3.out.1 I3.out.2.1 I3.out.2.2.1 I3.out.2.2.2 rfl (by omega) (.slice none 0 0) 0 [] rfl (World.ownsRow_nil _ _ _ _) w.heap.size A (q k).length c ((q k).map (Value.int .i64)) rfl RD.out ONE.out (by unfold maxLen; omega) (by omega) ?_; intro A4 c4 w4 hown4 hgrow4 hat4; simp only [Nat.zero_add, List.nil_append] at hown4 hat4 ⊢; have HE : Hid (XAll w (q k) (.returned (.slice A4 (q k).length c4)) w4) := ⟨A4, c4, rfl, hown4, (But.refl No w).grown hgrow4 (fun k e => by simp [Value.ownBlock] at e), own_new own_none hat4 (Nat.le_refl _)⟩; clear hown4 hgrow4 hat4)
  go_ret
  exact HE.out
end Go.Proofs.Ytimkdcpghhkloaa
