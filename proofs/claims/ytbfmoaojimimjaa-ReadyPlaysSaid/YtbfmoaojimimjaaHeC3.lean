/- Contracts of firstOfFamily, sink and settle. -/
import Derived.Test.YtbfmoaojimimjaaHeC2
namespace Go.Proofs.Ytbfmoaojimimjaa.hea
open Go.ChangeShapes Go.WideShapes Go.ChangeAt Go.RowKit
/-- The first of i and its children below t. -/
def FamTo (n : Nat) (f : Nat → It) (i t j : Nat) : Prop := (j = i ∨ (par j = i ∧ 0 < j ∧ j < n ∧ Ah (f j) (f i))) ∧ ∀ k, 0 < k → k < n → k < t → par k = i → ¬ Ah (f k) (f j)
theorem FamTo.start (n : Nat) (f : Nat → It) (i : Nat) : FamTo n f i (2 * i + 1) i := ⟨.inl rfl, fun k k0 _ kt kp => by unfold par at kp; omega⟩
theorem FamTo.done {n : Nat} {f : Nat → It} {i t j : Nat} (h : FamTo n f i t j) (ht : 2 * i + 3 ≤ t ∨ n ≤ t) : Fam n f i j :=
  ⟨h.1, fun k k0 kn kp => h.2 k k0 kn (by unfold par at kp; omega) kp⟩
theorem FamTo.take {n : Nat} {f : Nat → It} {i t j : Nat} (h : FamTo n f i t j) (hp : par t = i) (h0 : 0 < t) (hn : t < n) (ha : Ah (f t) (f j)) : FamTo n f i (t + 1) t := by
  refine ⟨.inr ⟨hp, h0, hn, ?_⟩, fun k k0 kn kt kp => ?_⟩
  · rcases h.1 with rfl | ⟨_, _, _, hj⟩
    · exact ha
    · exact ha.trans hj
  · by_cases e : k = t
    · subst e; exact Ah.irr _
    · exact fun hk => h.2 k k0 kn (by omega) kp (hk.trans ha)
theorem FamTo.pass {n : Nat} {f : Nat → It} {i t j : Nat} (h : FamTo n f i t j) (ha : ¬ Ah (f t) (f j)) : FamTo n f i (t + 1) j := by
  refine ⟨h.1, fun k k0 kn kt kp => ?_⟩
  by_cases e : k = t
  · subst e; exact ha
  · exact h.2 k k0 kn (by omega) kp
theorem FamTo.lt {n : Nat} {f : Nat → It} {i t j : Nat} (h : FamTo n f i t j) (hi : i < n) : j < n := by
  rcases h.1 with rfl | ⟨_, _, h', _⟩
  · exact hi
  · exact h'
def FamEnd (w : World) (n : Nat) (f : Nat → It) (i : Nat) (e : Ending) (w' : World) : Prop := ∃ j : Nat, Fam n f i j ∧ e = .returned (.int .i64 j) ∧ But No w w'
set_option maxHeartbeats 4000000 in
set_option maxRecDepth 100000 in
theorem fam_any (p q m c n : Nat) (R T : Int) (f : Nat → It) (D : DataW Unit) (i : Nat) (w : World) (hm : Hm w p q m c n R T f D) (hi : i < n) (hn : n ≤ 256) :
    Calls Try.prog 49 #[.pointer (some ⟨p, 0, none⟩), .int .i64 i] w (FamEnd w n f i) := by
  have HM := Lib.hid hm
  clear hm
  go_enter Try.func49, Try.ntmps49
  go_wp2_with fail
  go_loopw [5, 6] (fun s t wr => ∃ j k : Nat, s = .int .i64 j ∧ t = .int .i64 k ∧ 2 * i + 1 ≤ k ∧ k ≤ 2 * i + 3 ∧ Hid (FamTo n f i k j) ∧ But No w wr) (fun _ t _ => 2 * i + 3 - (intOf t).toNat)
  case atStart => exact ⟨i, 2 * i + 1, rfl, by go_num, by omega, by omega, FamTo.start n f i, But.refl _ _⟩
  case round =>
    obtain ⟨j, k, rfl, rfl, k1, k2, hf, hg⟩ := hrel
    have hjn := hf.out.lt hi
    have HMr := Lib.hid (HM.out.but hg (fun _ _ f => f))
    have HG := Lib.hid hg
    clear hg
    by_cases kt : k = 2 * i + 3
    · have b1 : decide ((k : Int) ≤ 2 * (i : Int) + 2) = false := by simp; omega
      have hE : Hid (FamEnd w n f i (.returned (.int .i64 j)) wr) := ⟨j, hf.out.done (.inl (by omega)), rfl, HG.out⟩
      go_wp2
      go_ret
      exact hE.out
    · have b1 : decide ((k : Int) ≤ 2 * (i : Int) + 2) = true := by simp; omega
      have b1' : (k : Int) ≤ 2 * (i : Int) + 2 := by omega
      have h2 := HMr.out.hp.cell (o := 2) rfl
      by_cases kn : k < n
      · have kn' : (k : Int) < (n : Int) := by omega
        have jn' : (j : Int) < (n : Int) := by omega
        have kpar : Hid (par k = i) := by show _ = _; unfold par; omega
        obtain ⟨x, hx⟩ : ∃ x, f k = x := ⟨_, rfl⟩
        obtain ⟨y, hy⟩ : ∃ y, f j = y := ⟨_, rfl⟩
        have HX : Hid (f k = x ∧ f j = y) := ⟨hx, hy⟩
        by_cases ha : Ah x y
        · have hN : Hid (FamTo n f i (k + 1) k) := hf.out.take kpar.out (by omega) kn (by rw [hx, hy]; exact ha)
          have hb : Hid (ahB x y = true) := ahB_true ha
          obtain ⟨xa, xb, xc⟩ := x
          obtain ⟨ya, yb, yc⟩ := y
          clear hx hy ha
          go_wp2_with fail
          go_region_held3 (fun w' => w'.cell? ⟨p, 2, none⟩ = some (.slice (some ⟨q, 0, none⟩) n c) ∧ w'.cell? ⟨q, k * 3, none⟩ = some (.int .i64 xa) ∧ w'.cell? ⟨q, k * 3 + 1, none⟩ = some (.int .i64 xb) ∧ w'.cell? ⟨q, k * 3 + 2, none⟩ = some (.int .i64 xc) ∧
              w'.cell? ⟨q, j * 3, none⟩ = some (.int .i64 ya) ∧ w'.cell? ⟨q, j * 3 + 1, none⟩ = some (.int .i64 yb) ∧ w'.cell? ⟨q, j * 3 + 2, none⟩ = some (.int .i64 yc) ∧ But No wr w')
            (first | exact s7 HMr.out kn hjn HX.out.1 HX.out.2 (But.refl No wr).drew | exact s7 HMr.out kn hjn HX.out.1 HX.out.2 ((But.refl No wr).drew.trans hg2))
            (first | (go_at_call 46; ((with_reducible refine (ahead_any xa xb xc ya yb yc true hb.out _).mono ?_); rintro e w2 ⟨rfl, hg2⟩)))
          rename_i hHeld
          clear hHeld
          have HG2 := Lib.hid (HG.out.trans ((But.refl No wr).drew.trans hg2))
          clear hg2
          go_wp2
          go_roundw
          case rel => exact ⟨k, k + 1, rfl, by go_num, by omega, by omega, hN, HG2.out⟩
          case measure => simp [intOf]; omega
        · have hN : Hid (FamTo n f i (k + 1) j) := hf.out.pass (by rw [hx, hy]; exact ha)
          have hb : Hid (ahB x y = false) := ahB_false ha
          obtain ⟨xa, xb, xc⟩ := x
          obtain ⟨ya, yb, yc⟩ := y
          clear hx hy ha
          go_wp2_with fail
          go_region_held3 (fun w' => w'.cell? ⟨p, 2, none⟩ = some (.slice (some ⟨q, 0, none⟩) n c) ∧ w'.cell? ⟨q, k * 3, none⟩ = some (.int .i64 xa) ∧ w'.cell? ⟨q, k * 3 + 1, none⟩ = some (.int .i64 xb) ∧ w'.cell? ⟨q, k * 3 + 2, none⟩ = some (.int .i64 xc) ∧
              w'.cell? ⟨q, j * 3, none⟩ = some (.int .i64 ya) ∧ w'.cell? ⟨q, j * 3 + 1, none⟩ = some (.int .i64 yb) ∧ w'.cell? ⟨q, j * 3 + 2, none⟩ = some (.int .i64 yc) ∧ But No wr w')
            (first | exact s7 HMr.out kn hjn HX.out.1 HX.out.2 (But.refl No wr).drew | exact s7 HMr.out kn hjn HX.out.1 HX.out.2 ((But.refl No wr).drew.trans hg2))
            (first | (go_at_call 46; ((with_reducible refine (ahead_any xa xb xc ya yb yc false hb.out _).mono ?_); rintro e w2 ⟨rfl, hg2⟩)))
          rename_i hHeld
          clear hHeld
          have HG2 := Lib.hid (HG.out.trans ((But.refl No wr).drew.trans hg2))
          clear hg2
          go_wp2
          go_roundw
          case rel => exact ⟨j, k + 1, rfl, by go_num, by omega, by omega, hN, HG2.out⟩
          case measure => simp [intOf]; omega
      · have b2 : decide ((k : Int) < (n : Int)) = false := by simp; omega
        have hE : Hid (FamEnd w n f i (.returned (.int .i64 j)) wr) := ⟨j, hf.out.done (.inr (by omega)), rfl, HG.out⟩
        go_wp2
        go_ret
        exact hE.out
def SinkRel (w0 w : World) (p q m c n : Nat) (R T : Int) (f0 : Nat → It) (k : Nat) : Prop :=
  ∃ f D, St w0 w p q m c n R T f0 f D ∧ Dn n f k
def SinkEnd (w0 : World) (p q m c n : Nat) (R T : Int) (f0 : Nat → It) (w : World) : Prop :=
  ∃ f D, St w0 w p q m c n R T f0 f D ∧ HeapOK n f
set_option maxHeartbeats 4000000 in
set_option maxRecDepth 100000 in
theorem sink_any (w0 : World) (p q m c n : Nat) (R T : Int) (f0 f : Nat → It) (D : DataW Unit) (i : Nat) (w : World) (st : St w0 w p q m c n R T f0 f D) (hi : i < n) (hn : n ≤ 256) (dn : Dn n f i) :
    Calls Try.prog 48 #[.pointer (some ⟨p, 0, none⟩), .int .i64 i] w fun r w' => r = .returned (.tuple #[]) ∧ SinkEnd w0 p q m c n R T f0 w' := by
  have HS : Hid (SinkRel w0 w p q m c n R T f0 i) := ⟨f, D, st, dn⟩
  clear st dn
  go_enter Try.func48, Try.ntmps48
  go_wp2_with fail
  go_loopw [1] (fun s wr => ∃ k : Nat, k < n ∧ s = .int .i64 k ∧ Hid (SinkRel w0 wr p q m c n R T f0 k)) (fun s _ => n - (intOf s).toNat)
  case atStart => exact ⟨i, hi, rfl, HS⟩
  case round =>
    obtain ⟨k, hk, rfl, hr⟩ := hrel
    obtain ⟨g, E, hs, hdn⟩ := hr.out
    have HDN := Lib.hid hdn
    have HS := Lib.hid hs
    clear hr hs hdn
    go_wp2_with fail
    refine (fam_any p q m c n R T g E k wr HS.out.hm hk hn).mono ?_
    rintro e w1 ⟨j, hfam, rfl, hb1⟩
    have HF := Lib.hid hfam
    have HS1 := Lib.hid (HS.out.no hb1)
    clear hfam hb1
    by_cases e : j = k
    · subst e
      have hE : Hid (SinkEnd w0 p q m c n R T f0 w1) := ⟨g, E, HS1.out, HDN.out.done HF.out⟩
      go_wp2
      refine bodyPost_ret (results_none rfl _ _ _) rfl ?_
      exact ⟨rfl, hE.out⟩
    · obtain ⟨jn, kj, hd2⟩ := HDN.out.dn HF.out e
      have HD2 := Lib.hid hd2
      clear hd2
      have be : ((j : Int) == (k : Int)) = false := by simp; omega
      go_wp2_with (go_at_call 47; ((with_reducible refine (swap_any p q m c n R T g E k j w1 HS1.out.hm HS1.out.mi hk jn hn).mono ?_); rintro e w3 ⟨rfl, hd⟩; have HD := Lib.hid hd; clear hd))
      go_roundw
      case rel =>
        obtain ⟨D', d1, d2, d3⟩ := HD.out
        exact ⟨j, jn, rfl, swp g k j, D', ⟨d1, d2, HS1.out.same.trans (Same.swp g hk jn), HS1.out.but.trans d3⟩, HD2.out⟩
      case measure => simp [intOf]; omega
theorem settle_any (p q m c n : Nat) (R T : Int) (f : Nat → It) (D : DataW Unit) (i : Nat) (w : World) (hm : Hm w p q m c n R T f D) (mi : MapIs n f D) (hi : i < n) (hn : n ≤ 256) (al : Almost n f i) :
    Calls Try.prog 43 #[.pointer (some ⟨p, 0, none⟩), .int .i64 i] w fun r w' => r = .returned (.tuple #[]) ∧ SinkEnd w p q m c n R T f w' := by
  have c1 := Lib.hid (rise_any p q m c n R T f D i w hm mi hi hn al)
  have AL := Lib.hid al
  clear hm mi al
  go_enter Try.func43, Try.ntmps43
  go_wp2_with fail
  refine c1.out.mono ?_
  rintro e w1 ⟨rfl, g, E, hs, hor⟩
  have HS := Lib.hid hs
  have hdn : Hid (Dn n g i) := by
    rcases hor with ⟨e1, h⟩ | h
    · subst e1; exact AL.out.dn h
    · exact h.dn i hi
  clear hs hor
  go_wp2_with fail
  refine (sink_any w p q m c n R T f g E i w1 HS.out hi hn hdn.out).mono ?_
  rintro e w2 ⟨rfl, hd⟩
  have HD := Lib.hid hd
  clear hd
  go_wp2
  go_end0
  exact ⟨rfl, HD.out⟩
end Go.Proofs.Ytbfmoaojimimjaa.hea
