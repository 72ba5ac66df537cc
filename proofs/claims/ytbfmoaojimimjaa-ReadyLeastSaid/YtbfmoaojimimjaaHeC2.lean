/- Contracts of rise, firstOfFamily, sink and settle. -/
import Derived.Test.YtbfmoaojimimjaaHeC1
namespace Go.Proofs.Ytbfmoaojimimjaa.hea
open Go.ChangeShapes Go.WideShapes Go.ChangeAt Go.RowKit
/-- The heap's blocks, its map, the same items as f0. -/
structure St (w0 w : World) (p q m c n : Nat) (R T : Int) (f0 f : Nat → It) (D : DataW Unit) : Prop where
  hm : Hm w p q m c n R T f D
  mi : MapIs n f D
  same : Same n f0 f
  but : But (Own p q m) w0 w
theorem St.no {w0 w w' : World} {p q m c n : Nat} {R T : Int} {f0 f : Nat → It} {D : DataW Unit} (h : St w0 w p q m c n R T f0 f D) (hb : But No w w') : St w0 w' p q m c n R T f0 f D :=
  ⟨h.hm.but hb (fun _ _ f => f), h.mi, h.same, h.but.trans hb.no⟩
theorem s7 {wr w : World} {p q m c n k j : Nat} {R T : Int} {f : Nat → It} {D : DataW Unit} {x y : It} (h : Hm wr p q m c n R T f D) (hk : k < n) (hj : j < n) (hx : f k = x) (hy : f j = y) (hb : But No wr w) :
    w.cell? ⟨p, 2, none⟩ = some (.slice (some ⟨q, 0, none⟩) n c) ∧ w.cell? ⟨q, k * 3, none⟩ = some (.int .i64 x.id) ∧ w.cell? ⟨q, k * 3 + 1, none⟩ = some (.int .i64 x.key) ∧ w.cell? ⟨q, k * 3 + 2, none⟩ = some (.int .i64 x.turn) ∧
    w.cell? ⟨q, j * 3, none⟩ = some (.int .i64 y.id) ∧ w.cell? ⟨q, j * 3 + 1, none⟩ = some (.int .i64 y.key) ∧ w.cell? ⟨q, j * 3 + 2, none⟩ = some (.int .i64 y.turn) ∧ But No wr w := by
  have h' := h.but hb (fun _ _ f => f)
  obtain ⟨a, b, d⟩ := h'.hq.cells hk
  obtain ⟨a', b', d'⟩ := h'.hq.cells hj
  subst hx hy
  exact ⟨h'.hp.cell (o := 2) rfl, a, b, d, a', b', d', hb⟩
def RiseRel (w0 w : World) (p q m c n : Nat) (R T : Int) (f0 : Nat → It) (i k : Nat) : Prop :=
  ∃ f D, St w0 w p q m c n R T f0 f D ∧ ((f = f0 ∧ k = i) ∨ Up n f k)
def RiseEnd (w0 : World) (p q m c n : Nat) (R T : Int) (f0 : Nat → It) (i : Nat) (w : World) : Prop :=
  ∃ f D, St w0 w p q m c n R T f0 f D ∧ ((f = f0 ∧ (i = 0 ∨ ¬ Ah (f0 i) (f0 (par i)))) ∨ HeapOK n f)
set_option maxHeartbeats 4000000 in
set_option maxRecDepth 100000 in
theorem rise_any (p q m c n : Nat) (R T : Int) (f : Nat → It) (D : DataW Unit) (i : Nat) (w : World) (hm : Hm w p q m c n R T f D) (mi : MapIs n f D) (hi : i < n) (hn : n ≤ 256) (al : Almost n f i) :
    Calls Try.prog 42 #[.pointer (some ⟨p, 0, none⟩), .int .i64 i] w fun r w' => r = .returned (.tuple #[]) ∧ RiseEnd w p q m c n R T f i w' := by
  have HS : Hid (RiseRel w w p q m c n R T f i i) := ⟨f, D, ⟨hm, mi, Same.refl _ _, But.refl _ _⟩, .inl ⟨rfl, rfl⟩⟩
  have AL := Lib.hid al
  clear hm mi al
  go_enter Try.func42, Try.ntmps42
  go_wp2_with fail
  go_loopw [1] (fun s wr => ∃ k : Nat, k < n ∧ s = .int .i64 k ∧ Hid (RiseRel w wr p q m c n R T f i k)) (fun s _ => (intOf s).toNat)
  case atStart => exact ⟨i, hi, rfl, HS⟩
  case round =>
    obtain ⟨k, hk, rfl, hr⟩ := hrel
    obtain ⟨g, E, hs, hor⟩ := hr.out
    have HOR := Lib.hid hor
    have HS := Lib.hid hs
    clear hr hs hor
    by_cases k0 : k = 0
    · have hE : Hid (RiseEnd w p q m c n R T f i wr) := by
        refine ⟨g, E, HS.out, ?_⟩
        rcases HOR.out with ⟨e1, e2⟩ | hu
        · exact .inl ⟨e1, .inl (by omega)⟩
        · exact .inr (hu.done (.inl k0))
      have kt : decide ((0 : Int) < (k : Int)) = false := by simp; omega
      go_wp2
      go_end0
      exact ⟨rfl, hE.out⟩
    · obtain ⟨j, hj⟩ : ∃ j, j = par k := ⟨_, rfl⟩
      have hpj : ((k : Int) - 1) / 2 = (j : Int) := by rw [hj]; unfold par; omega
      have hjn : j < n := by have := par_lt (show 0 < k by omega); omega
      have hjn' : (j : Int) < (n : Int) := by omega
      have hkn' : (k : Int) < (n : Int) := by omega
      have kt : decide ((0 : Int) < (k : Int)) = true := by simp; omega
      have kp : (0 : Int) < (k : Int) := by omega
      obtain ⟨x, hx⟩ : ∃ x, g k = x := ⟨_, rfl⟩
      obtain ⟨y, hy⟩ : ∃ y, g j = y := ⟨_, rfl⟩
      have HX : Hid (g k = x ∧ g j = y) := ⟨hx, hy⟩
      by_cases ha : Ah x y
      · have hN : Hid (∀ w', (∃ D', Hm w' p q m c n R T (swp g k j) D' ∧ MapIs n (swp g k j) D' ∧ But (Own p q m) w w') → RiseRel w w' p q m c n R T f i j) := by
          rintro w' ⟨D', h1, h2, h3⟩
          refine ⟨swp g k j, D', ⟨h1, h2, HS.out.same.trans (Same.swp g hk hjn), h3⟩, .inr ?_⟩
          have hal : Almost n g k := by
            rcases HOR.out with ⟨e1, e2⟩ | hu
            · rw [e1, e2]; exact AL.out
            · exact hu.almost
          rw [hj]
          exact hal.up (by omega) hk (by rw [← hj, hx, hy]; exact ha)
        have hb : Hid (ahB x y = true) := ahB_true ha
        obtain ⟨xa, xb, xc⟩ := x
        obtain ⟨ya, yb, yc⟩ := y
        clear hj hx hy ha
        go_wp2_with fail
        go_region_held3 (fun w' => w'.cell? ⟨p, 2, none⟩ = some (.slice (some ⟨q, 0, none⟩) n c) ∧ w'.cell? ⟨q, k * 3, none⟩ = some (.int .i64 xa) ∧ w'.cell? ⟨q, k * 3 + 1, none⟩ = some (.int .i64 xb) ∧ w'.cell? ⟨q, k * 3 + 2, none⟩ = some (.int .i64 xc) ∧
            w'.cell? ⟨q, j * 3, none⟩ = some (.int .i64 ya) ∧ w'.cell? ⟨q, j * 3 + 1, none⟩ = some (.int .i64 yb) ∧ w'.cell? ⟨q, j * 3 + 2, none⟩ = some (.int .i64 yc) ∧ But No wr w')
          (first | exact s7 HS.out.hm hk hjn HX.out.1 HX.out.2 (But.refl No wr).drew | exact s7 HS.out.hm hk hjn HX.out.1 HX.out.2 ((But.refl No wr).drew.trans hg2))
          (first | (go_at_call 46; ((with_reducible refine (ahead_any xa xb xc ya yb yc true hb.out _).mono ?_); rintro e w2 ⟨rfl, hg2⟩)))
        rename_i hHeld
        clear hHeld
        have HS2 := Lib.hid (HS.out.no ((But.refl No wr).drew.trans hg2))
        clear hg2
        go_wp2_with (go_at_call 47; ((with_reducible refine (swap_any p q m c n R T g E k j w2 HS2.out.hm HS2.out.mi hk hjn hn).mono ?_); rintro e w3 ⟨rfl, hd⟩; have HD := Lib.hid hd; clear hd))
        go_roundw
        case rel =>
          obtain ⟨D', d1, d2, d3⟩ := HD.out
          exact ⟨j, hjn, rfl, hN.out _ ⟨D', d1, d2, HS2.out.but.trans d3⟩⟩
        case measure => simp [intOf]; omega
      · have hE : Hid (∀ w', But No wr w' → RiseEnd w p q m c n R T f i w') := by
          intro w' hb
          refine ⟨g, E, HS.out.no hb, ?_⟩
          rcases HOR.out with ⟨e1, e2⟩ | hu
          · exact .inl ⟨e1, .inr (by rw [← e1, ← e2, ← hj, hx, hy]; exact ha)⟩
          · exact .inr (hu.done (.inr (by rw [← hj, hx, hy]; exact ha)))
        have hb : Hid (ahB x y = false) := ahB_false ha
        obtain ⟨xa, xb, xc⟩ := x
        obtain ⟨ya, yb, yc⟩ := y
        clear hj hx hy ha
        go_wp2_with fail
        go_region_held3 (fun w' => w'.cell? ⟨p, 2, none⟩ = some (.slice (some ⟨q, 0, none⟩) n c) ∧ w'.cell? ⟨q, k * 3, none⟩ = some (.int .i64 xa) ∧ w'.cell? ⟨q, k * 3 + 1, none⟩ = some (.int .i64 xb) ∧ w'.cell? ⟨q, k * 3 + 2, none⟩ = some (.int .i64 xc) ∧
            w'.cell? ⟨q, j * 3, none⟩ = some (.int .i64 ya) ∧ w'.cell? ⟨q, j * 3 + 1, none⟩ = some (.int .i64 yb) ∧ w'.cell? ⟨q, j * 3 + 2, none⟩ = some (.int .i64 yc) ∧ But No wr w')
          (first | exact s7 HS.out.hm hk hjn HX.out.1 HX.out.2 (But.refl No wr).drew | exact s7 HS.out.hm hk hjn HX.out.1 HX.out.2 ((But.refl No wr).drew.trans hg2))
          (first | (go_at_call 46; ((with_reducible refine (ahead_any xa xb xc ya yb yc false hb.out _).mono ?_); rintro e w2 ⟨rfl, hg2⟩)))
        rename_i hHeld
        clear hHeld
        have hE2 := Lib.hid (hE.out _ ((But.refl No wr).drew.trans hg2))
        clear hg2
        go_wp2
        refine bodyPost_ret (results_none rfl _ _ _) rfl ?_
        exact ⟨rfl, hE2.out⟩
end Go.Proofs.Ytbfmoaojimimjaa.hea
