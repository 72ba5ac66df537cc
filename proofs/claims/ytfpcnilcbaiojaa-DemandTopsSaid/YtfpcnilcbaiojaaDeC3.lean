/- The contracts of the program's own closures (chapter 15): what one work adds. -/
import Derived.Test.YtfpcnilcbaiojaaDeC2
import Derived.Deep.RegionHeld3
namespace Go.Proofs.Ytfpcnilcbaiojaa.dem
open Go.ChangeShapes Go.WideShapes Go.ChangeAt Go.RowKit Go.Deep
/-- What holds all along in a closure's region: the boxes of the total and of the work, some cell of the frame's, the result's block. -/
def SB (w : World) (b3 : Nat) (s e x0 x1 x2 : Int) (x3 : Bool) (bn : Nat) (n : Int) (w' : World) : Prop :=
  w'.cell? ⟨b3, 0, none⟩ = some (.int .i64 s) ∧ w'.cell? ⟨b3, 1, none⟩ = some (.int .i64 e) ∧ w'.cell? ⟨b3 + 1, 0, none⟩ = some (.int .i64 x0) ∧ w'.cell? ⟨b3 + 1, 1, none⟩ = some (.int .i64 x1) ∧ w'.cell? ⟨b3 + 1, 2, none⟩ = some (.int .i64 x2) ∧ w'.cell? ⟨b3 + 1, 3, none⟩ = some (.bool x3) ∧ w'.cell? ⟨bn, 0, none⟩ = some (.int .i64 n) ∧ (∃ y0 y1, Blk w' (b3 + 1 + 1) #[y0, y1] 61) ∧ But No w w'
theorem SB.but {w w1 w2 : World} {b3 bn : Nat} {s e x0 x1 x2 n : Int} {x3 : Bool} (h : SB w b3 s e x0 x1 x2 x3 bn n w1) (hb : But No w1 w2) : SB w b3 s e x0 x1 x2 x3 bn n w2 := by
  obtain ⟨h0, h1, h2, h3, h4, h5, h6, ⟨y0, y1, h7⟩, h8⟩ := h
  exact ⟨cell_keep h0 hb, cell_keep h1 hb, cell_keep h2 hb, cell_keep h3 hb, cell_keep h4 hb, cell_keep h5 hb, cell_keep h6 hb, ⟨y0, y1, h7.but hb (fun f => f)⟩, h8.trans hb⟩
theorem SB.set {w w1 : World} {bn : Nat} {s e x0 x1 x2 n : Int} {x3 : Bool} (v u : Value) (h : SB w w.heap.size s e x0 x1 x2 x3 bn n w1) (hn : bn < w.heap.size) : SB w w.heap.size s e x0 x1 x2 x3 bn n ((w1.setCell ⟨w.heap.size + 1 + 1, 0, none⟩ v).setCell ⟨w.heap.size + 1 + 1, 1, none⟩ u) := by
  obtain ⟨h0, h1, h2, h3, h4, h5, h6, ⟨y0, y1, h7⟩, h8⟩ := h
  have k : ∀ (b o : Nat) (z : Value), b ≠ w.heap.size + 1 + 1 → w1.cell? ⟨b, o, none⟩ = some z → ((w1.setCell ⟨w.heap.size + 1 + 1, 0, none⟩ v).setCell ⟨w.heap.size + 1 + 1, 1, none⟩ u).cell? ⟨b, o, none⟩ = some z := fun b o z hb h => by
    rw [World.cell?_setCell_other _ _ _ _ (by intro h9; simp only [Addr.mk.injEq] at h9; omega), World.cell?_setCell_other _ _ _ _ (by intro h9; simp only [Addr.mk.injEq] at h9; omega)]; exact h
  exact ⟨k _ _ _ (by omega) h0, k _ _ _ (by omega) h1, k _ _ _ (by omega) h2, k _ _ _ (by omega) h3, k _ _ _ (by omega) h4, k _ _ _ (by omega) h5, k _ _ _ (by omega) h6, ⟨v, u, (h7.set 0 v).set 1 u⟩, (h8.setNew (by show w.heap.size ≤ w.heap.size + 1 + 1; omega) _).setNew (by show w.heap.size ≤ w.heap.size + 1 + 1; omega) _⟩
theorem SB.start (w : World) (s e x0 x1 x2 : Int) (x3 : Bool) (bn : Nat) (n : Int) (h : w.cell? ⟨bn, 0, none⟩ = some (.int .i64 n)) : SB w w.heap.size s e x0 x1 x2 x3 bn n (((w.alloc (.cells #[.int .i64 s, .int .i64 e] 61)).alloc (.cells #[.int .i64 x0, .int .i64 x1, .int .i64 x2, .bool x3] 38)).alloc (.cells #[.int .i64 0, .int .i64 0] 61)) := by
  have h3 : Blk (((w.alloc (.cells #[.int .i64 s, .int .i64 e] 61)).alloc (.cells #[.int .i64 x0, .int .i64 x1, .int .i64 x2, .bool x3] 38)).alloc (.cells #[.int .i64 0, .int .i64 0] 61)) w.heap.size #[.int .i64 s, .int .i64 e] 61 := ((Blk.new w _ _).alloc _).alloc _
  have h4 : Blk (((w.alloc (.cells #[.int .i64 s, .int .i64 e] 61)).alloc (.cells #[.int .i64 x0, .int .i64 x1, .int .i64 x2, .bool x3] 38)).alloc (.cells #[.int .i64 0, .int .i64 0] 61)) (w.heap.size + 1) #[.int .i64 x0, .int .i64 x1, .int .i64 x2, .bool x3] 38 := (blk2 w _ _ _).alloc _
  have h5 : Blk (((w.alloc (.cells #[.int .i64 s, .int .i64 e] 61)).alloc (.cells #[.int .i64 x0, .int .i64 x1, .int .i64 x2, .bool x3] 38)).alloc (.cells #[.int .i64 0, .int .i64 0] 61)) (w.heap.size + 1 + 1) #[.int .i64 0, .int .i64 0] 61 := by
    have := blk2 (w.alloc (.cells #[.int .i64 s, .int .i64 e] 61)) (.cells #[.int .i64 x0, .int .i64 x1, .int .i64 x2, .bool x3] 38) #[.int .i64 0, .int .i64 0] 61
    rw [size_alloc1] at this; exact this
  have hb : But No w (((w.alloc (.cells #[.int .i64 s, .int .i64 e] 61)).alloc (.cells #[.int .i64 x0, .int .i64 x1, .int .i64 x2, .bool x3] 38)).alloc (.cells #[.int .i64 0, .int .i64 0] 61)) := (((But.refl No w).alloc _).alloc _).alloc _
  exact ⟨h3.cell rfl, h3.cell rfl, h4.cell rfl, h4.cell rfl, h4.cell rfl, h4.cell rfl, cell_keep h hb, ⟨_, _, h5⟩, hb⟩
set_option maxRecDepth 100000 in
set_option maxHeartbeats 4000000 in
theorem clo_com (s e : Int) (x : Wk) (bn : Nat) (n : Int) (w : World) (hs : 0 ≤ s ∧ s ≤ 9223372036854775807) (he : e = 0 ∨ e = 2) (hx : okW x = true) (hn : 1 ≤ n ∧ n ≤ 9223372036854775807) (hc : w.cell? ⟨bn, 0, none⟩ = some (.int .i64 n)) :
    Calls Try.prog 52 #[.agg #[.int .i64 s, .int .i64 e], wkV x, .pointer (some ⟨bn, 0, none⟩)] w fun r w' => r = .returned (.agg #[.int .i64 (plP s e x.w (up n x.p) 1).1, .int .i64 (plP s e x.w (up n x.p) 1).2]) ∧ But No w w' := by
  obtain ⟨x0, x1, x2, x3⟩ := x
  obtain ⟨⟨w0, w9⟩, ⟨p0, p9⟩, d0, d9⟩ := okW_iff.1 hx
  dsimp only at w0 w9 p0 p9 d0 d9 ⊢
  have hu := up_bd hn.1 p0
  have CU : Hid (∀ W, Calls Try.prog 37 #[.int .i64 n, .int .i64 x1] W fun e w' => e = .returned (.int .i64 (up n x1)) ∧ w' = W) := Lib.hid (fun W => arr_any n x1 hn.1 hn.2 p0 (by omega) W)
  have CP : Hid (∀ W, Calls Try.prog 36 #[.agg #[.int .i64 s, .int .i64 e], .int .i64 x0, .int .i64 (up n x1), .int .i64 1] W fun r w' => r = .returned (.agg #[.int .i64 (plP s e x0 (up n x1) 1).1, .int .i64 (plP s e x0 (up n x1) 1).2]) ∧ But No W w') := Lib.hid (fun W => plus_any s e x0 (up n x1) 1 hs he (by omega) (by omega) (by omega) W)
  have hbn := World.block_lt_of_cell? w _ hc
  have HBN : Hid (bn < w.heap.size) := Lib.hid hbn
  have HS := Lib.hid (SB.start w s e x0 x1 x2 x3 bn n hc)
  unfold wkV
  dsimp only
  clear hs he hx w0 w9 p0 p9 d0 d9 hn hu
  generalize up n x1 = u at CU CP ⊢
  generalize plP s e x0 u 1 = R at CP ⊢
  obtain ⟨R1, R2⟩ := R
  dsimp only at CP ⊢
  have KB : Hid (∀ w1 w2, SB w w.heap.size s e x0 x1 x2 x3 bn n w1 → But No w1 w2 → ∃ y0 y1, Blk w2 (w.heap.size + 1 + 1) #[y0, y1] 61) := Lib.hid (fun w1 w2 h hb => (h.but hb).2.2.2.2.2.2.2.1)
  go_enter Try.func52, Try.ntmps52
  go_upto_region 1 with fail
  clear hc hbn
  generalize ((w.alloc (.cells #[.int .i64 s, .int .i64 e] 61)).alloc (.cells #[.int .i64 x0, .int .i64 x1, .int .i64 x2, .bool x3] 38)).alloc (.cells #[.int .i64 0, .int .i64 0] 61) = W0 at HS ⊢
  go_region_held3 (fun w' => w'.cell? ⟨w.heap.size, 0, none⟩ = some (.int .i64 s) ∧ w'.cell? ⟨w.heap.size, 1, none⟩ = some (.int .i64 e) ∧ w'.cell? ⟨w.heap.size + 1, 0, none⟩ = some (.int .i64 x0) ∧ w'.cell? ⟨w.heap.size + 1, 1, none⟩ = some (.int .i64 x1) ∧ w'.cell? ⟨w.heap.size + 1, 2, none⟩ = some (.int .i64 x2) ∧ w'.cell? ⟨w.heap.size + 1, 3, none⟩ = some (.bool x3) ∧ w'.cell? ⟨bn, 0, none⟩ = some (.int .i64 n) ∧ (∃ y0 y1, Blk w' (w.heap.size + 1 + 1) #[y0, y1] 61) ∧ But No w w')
    (first | exact SB.but HS.out (But.refl No _).drew | exact SB.set _ _ (by assumption) HBN.out | exact SB.but (by assumption) (by assumption))
    (first | (go_at_call 37; ((with_reducible refine (CU.out _).mono ?_); rintro e wC ⟨rfl, rfl⟩)) | (go_at_call 36; ((with_reducible refine (CP.out _).mono ?_); rintro e wP ⟨rfl, hbP⟩; obtain ⟨y0, y1, kB⟩ := KB.out _ _ (by assumption) hbP; have z0 := kB.frozen 0; have z1 := kB.frozen 1; have v0 := kB.cell (o := 0) rfl; have v1 := kB.cell (o := 1) rfl)))
  rename_i hHeld
  have KF := (kB.set 0 (.int .i64 R1)).set 1 (.int .i64 R2)
  have f0 := KF.cell (o := 0) rfl
  have f1 := KF.cell (o := 1) rfl
  go_wp2
  exact bodyPost_ret (v := .agg #[.int .i64 R1, .int .i64 R2]) (by simp [results, Try.results52, go_sem, f0, f1]) rfl ⟨rfl, hHeld.2.2.2.2.2.2.2.2⟩
/-- What the closures add. -/
def adC (n : Int) (x : Wk) (s e : Int) : Int × Int := plP s e x.w (up n x.p) 1
def adD (t : Int) (x : Wk) (s e : Int) : Int × Int := if x.top = true then plP s e x.w (up t x.p) 1 else if x.d ≤ t then plP s e x.w ((t - x.d) / x.p) 1 else (s, e)
set_option maxRecDepth 100000 in
set_option maxHeartbeats 4000000 in
theorem clo_dem (s e : Int) (x : Wk) (bn : Nat) (n : Int) (w : World) (hs : 0 ≤ s ∧ s ≤ 9223372036854775807) (he : e = 0 ∨ e = 2) (hx : okW x = true) (hn : 1 ≤ n ∧ n ≤ 9223372036854775807) (hc : w.cell? ⟨bn, 0, none⟩ = some (.int .i64 n)) :
    Calls Try.prog 35 #[.agg #[.int .i64 s, .int .i64 e], wkV x, .pointer (some ⟨bn, 0, none⟩)] w fun r w' => r = .returned (.agg #[.int .i64 (adD n x s e).1, .int .i64 (adD n x s e).2]) ∧ But No w w' := by
  obtain ⟨x0, x1, x2, x3⟩ := x
  obtain ⟨⟨w0, w9⟩, ⟨p0, p9⟩, d0, d9⟩ := okW_iff.1 hx
  dsimp only at w0 w9 p0 p9 d0 d9
  have hu := up_bd hn.1 p0
  have hbn := World.block_lt_of_cell? w _ hc
  have HBN : Hid (bn < w.heap.size) := Lib.hid hbn
  have HS := Lib.hid (SB.start w s e x0 x1 x2 x3 bn n hc)
  have KB : Hid (∀ w1 w2, SB w w.heap.size s e x0 x1 x2 x3 bn n w1 → But No w1 w2 → ∃ y0 y1, Blk w2 (w.heap.size + 1 + 1) #[y0, y1] 61) := Lib.hid (fun w1 w2 h hb => (h.but hb).2.2.2.2.2.2.2.1)
  have HC := Lib.hid hc
  unfold wkV
  dsimp only
  cases x3 with
  | true =>
    have HE : Hid (adD n ⟨x0, x1, x2, true⟩ s e = plP s e x0 (up n x1) 1) := Lib.hid (by unfold adD; rw [if_pos rfl])
    rw [HE.out]
    have CU : Hid (∀ W, Calls Try.prog 37 #[.int .i64 n, .int .i64 x1] W fun e w' => e = .returned (.int .i64 (up n x1)) ∧ w' = W) := Lib.hid (fun W => arr_any n x1 hn.1 hn.2 p0 (by omega) W)
    have CP : Hid (∀ W, Calls Try.prog 36 #[.agg #[.int .i64 s, .int .i64 e], .int .i64 x0, .int .i64 (up n x1), .int .i64 1] W fun r w' => r = .returned (.agg #[.int .i64 (plP s e x0 (up n x1) 1).1, .int .i64 (plP s e x0 (up n x1) 1).2]) ∧ But No W w') := Lib.hid (fun W => plus_any s e x0 (up n x1) 1 hs he (by omega) (by omega) (by omega) W)
    clear hs he hx w0 w9 p0 p9 d0 d9 hn hu HE hc hbn
    generalize up n x1 = u at CU CP ⊢
    generalize plP s e x0 u 1 = R at CP ⊢
    obtain ⟨R1, R2⟩ := R
    dsimp only at CP ⊢
    go_enter Try.func35, Try.ntmps35
    go_upto_region 2 with fail
    generalize ((w.alloc (.cells #[.int .i64 s, .int .i64 e] 61)).alloc (.cells #[.int .i64 x0, .int .i64 x1, .int .i64 x2, .bool true] 38)).alloc (.cells #[.int .i64 0, .int .i64 0] 61) = W0 at HS ⊢
    go_region_held3 (fun w' => w'.cell? ⟨w.heap.size, 0, none⟩ = some (.int .i64 s) ∧ w'.cell? ⟨w.heap.size, 1, none⟩ = some (.int .i64 e) ∧ w'.cell? ⟨w.heap.size + 1, 0, none⟩ = some (.int .i64 x0) ∧ w'.cell? ⟨w.heap.size + 1, 1, none⟩ = some (.int .i64 x1) ∧ w'.cell? ⟨w.heap.size + 1, 2, none⟩ = some (.int .i64 x2) ∧ w'.cell? ⟨w.heap.size + 1, 3, none⟩ = some (.bool true) ∧ w'.cell? ⟨bn, 0, none⟩ = some (.int .i64 n) ∧ (∃ y0 y1, Blk w' (w.heap.size + 1 + 1) #[y0, y1] 61) ∧ But No w w')
      (first | exact SB.but HS.out (But.refl No _).drew | exact SB.set _ _ (by assumption) HBN.out | exact SB.but (by assumption) (by assumption))
      (first | (go_at_call 37; ((with_reducible refine (CU.out _).mono ?_); rintro e wC ⟨rfl, rfl⟩)) | (go_at_call 36; ((with_reducible refine (CP.out _).mono ?_); rintro e wP ⟨rfl, hbP⟩; obtain ⟨y0, y1, kB⟩ := KB.out _ _ (by assumption) hbP; have z0 := kB.frozen 0; have z1 := kB.frozen 1; have v0 := kB.cell (o := 0) rfl; have v1 := kB.cell (o := 1) rfl)))
    rename_i hHeld
    have KF := (kB.set 0 (.int .i64 R1)).set 1 (.int .i64 R2)
    have f0 := KF.cell (o := 0) rfl
    have f1 := KF.cell (o := 1) rfl
    go_wp2
    exact bodyPost_ret (v := .agg #[.int .i64 R1, .int .i64 R2]) (by simp [results, Try.results35, go_sem, f0, f1]) rfl ⟨rfl, hHeld.2.2.2.2.2.2.2.2⟩
  | false =>
    by_cases hd : x2 ≤ n
    · have HE : Hid (adD n ⟨x0, x1, x2, false⟩ s e = plP s e x0 ((n - x2) / x1) 1) := Lib.hid (by unfold adD; rw [if_neg (by simp), if_pos hd])
      rw [HE.out]
      have b2 : decide (x2 ≤ n) = true := by simp [hd]
      obtain ⟨q, hq⟩ : ∃ q, (n - x2) / x1 = q := ⟨_, rfl⟩
      have hdd := div_up d0 hd p0
      rw [hq] at hdd ⊢
      have hq9 : q ≤ n - x2 := by rw [← hq]; exact Int.ediv_le_self _ (by omega)
      have w1_ : IntKind.i64.wrap (n - x2) = n - x2 := IntWalk.i64_in (n - x2) (by omega)
      have w2_ : (n - x2).tdiv x1 = q := by rw [Int.tdiv_eq_ediv_of_nonneg (by omega)]; exact hq
      have w3_ : IntKind.i64.wrap q = q := IntWalk.i64_in q (by omega)
      have hx10 : x1 ≠ 0 := by omega
      have CP : Hid (∀ W, Calls Try.prog 36 #[.agg #[.int .i64 s, .int .i64 e], .int .i64 x0, .int .i64 q, .int .i64 1] W fun r w' => r = .returned (.agg #[.int .i64 (plP s e x0 q 1).1, .int .i64 (plP s e x0 q 1).2]) ∧ But No W w') := Lib.hid (fun W => plus_any s e x0 q 1 hs he (by omega) (by omega) (by omega) W)
      have c1 : decide (x1 = 0) = false := by simp; omega
      have kc : ((((w.alloc (.cells #[.int .i64 s, .int .i64 e] 61)).alloc (.cells #[.int .i64 x0, .int .i64 x1, .int .i64 x2, .bool false] 38)).alloc (.cells #[.int .i64 0, .int .i64 0] 61))).cell? ⟨bn, 0, none⟩ = some (.int .i64 n) := cell_keep hc ((((But.refl No w).alloc _).alloc _).alloc _)
      clear hs he hx w0 w9 hu HE hc hbn hq hdd hq9
      generalize plP s e x0 q 1 = R at CP ⊢
      obtain ⟨R1, R2⟩ := R
      dsimp only at CP ⊢
      go_enter Try.func35, Try.ntmps35
      go_upto_region 4 with fail
      clear kc
      generalize ((w.alloc (.cells #[.int .i64 s, .int .i64 e] 61)).alloc (.cells #[.int .i64 x0, .int .i64 x1, .int .i64 x2, .bool false] 38)).alloc (.cells #[.int .i64 0, .int .i64 0] 61) = W0 at HS ⊢
      go_region_held3 (fun w' => w'.cell? ⟨w.heap.size, 0, none⟩ = some (.int .i64 s) ∧ w'.cell? ⟨w.heap.size, 1, none⟩ = some (.int .i64 e) ∧ w'.cell? ⟨w.heap.size + 1, 0, none⟩ = some (.int .i64 x0) ∧ w'.cell? ⟨w.heap.size + 1, 1, none⟩ = some (.int .i64 x1) ∧ w'.cell? ⟨w.heap.size + 1, 2, none⟩ = some (.int .i64 x2) ∧ w'.cell? ⟨w.heap.size + 1, 3, none⟩ = some (.bool false) ∧ w'.cell? ⟨bn, 0, none⟩ = some (.int .i64 n) ∧ (∃ y0 y1, Blk w' (w.heap.size + 1 + 1) #[y0, y1] 61) ∧ But No w w')
        (first | exact SB.but HS.out (But.refl No _).drew | exact SB.set _ _ (by assumption) HBN.out | exact SB.but (by assumption) (by assumption))
        (first | (go_at_call 36; ((with_reducible refine (CP.out _).mono ?_); rintro e wP ⟨rfl, hbP⟩; obtain ⟨y0, y1, kB⟩ := KB.out _ _ (by assumption) hbP; have z0 := kB.frozen 0; have z1 := kB.frozen 1; have v0 := kB.cell (o := 0) rfl; have v1 := kB.cell (o := 1) rfl)))
      rename_i hHeld
      have KF := (kB.set 0 (.int .i64 R1)).set 1 (.int .i64 R2)
      have f0 := KF.cell (o := 0) rfl
      have f1 := KF.cell (o := 1) rfl
      go_wp2
      exact bodyPost_ret (v := .agg #[.int .i64 R1, .int .i64 R2]) (by simp [results, Try.results35, go_sem, f0, f1]) rfl ⟨rfl, hHeld.2.2.2.2.2.2.2.2⟩
    · have HE : Hid (adD n ⟨x0, x1, x2, false⟩ s e = (s, e)) := Lib.hid (by unfold adD; rw [if_neg (by simp), if_neg hd])
      rw [HE.out]
      have b2 : decide (x2 ≤ n) = false := by simp; omega
      have kc : ((((w.alloc (.cells #[.int .i64 s, .int .i64 e] 61)).alloc (.cells #[.int .i64 x0, .int .i64 x1, .int .i64 x2, .bool false] 38)).alloc (.cells #[.int .i64 0, .int .i64 0] 61))).cell? ⟨bn, 0, none⟩ = some (.int .i64 n) := cell_keep hc ((((But.refl No w).alloc _).alloc _).alloc _)
      clear hs he hx w0 w9 p0 p9 d0 d9 hn hu HE hbn HS KB
      go_enter Try.func35, Try.ntmps35
      go_wp2
      exact bodyPost_ret (v := .agg #[.int .i64 s, .int .i64 e]) (by simp [results, Try.results35, go_sem]) rfl ⟨rfl, (((But.refl No w).alloc _).alloc _).alloc _⟩
end Go.Proofs.Ytfpcnilcbaiojaa.dem
