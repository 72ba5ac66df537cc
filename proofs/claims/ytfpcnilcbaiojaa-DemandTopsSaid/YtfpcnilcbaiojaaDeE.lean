/- The chapter's examples (chapter 15). -/
import Derived.Test.YtfpcnilcbaiojaaDeC
namespace Go.Proofs.Ytfpcnilcbaiojaa.dem
open Go.ChangeShapes Go.WideShapes Go.ChangeAt Go.RowKit Go.Deep
theorem in0 {a : Int} (h : 0 ≤ a ∧ a ≤ 1000) : inR a := inR_small (by omega)
theorem wk2 {w : World} {b : Nat} {x y : Wk} (h : Blk w b #[.int .i64 x.w, .int .i64 x.p, .int .i64 x.d, .bool x.top, .int .i64 y.w, .int .i64 y.p, .int .i64 y.d, .bool y.top] 38) (hx : inR x.w ∧ inR x.p ∧ inR x.d) (hy : inR y.w ∧ inR y.p ∧ inR y.d) : RWk w (some ⟨b, 0, none⟩) 2 [x, y] :=
  ⟨rfl, by omega, fun _ => ⟨b, 0, rfl, h.lt, fun k u hu => by
    have hk : k < 2 := (List.getElem?_eq_some_iff.1 hu).1
    have : k = 0 ∨ k = 1 := by omega
    rcases this with rfl | rfl
    · have e : x = u := by simpa using hu
      subst e; exact ⟨h.cell rfl, h.cell rfl, h.cell rfl, h.cell rfl⟩
    · have e : y = u := by simpa using hu
      subst e; exact ⟨h.cell rfl, h.cell rfl, h.cell rfl, h.cell rfl⟩⟩, fun u hu => by
    have : u = x ∨ u = y := by simpa using hu
    rcases this with rfl | rfl
    · exact hx
    · exact hy⟩
def L1 : List Wk := [⟨3, 10, 5, false⟩, ⟨2, 4, 4, false⟩]
def L2 : List Wk := [⟨1, 10, 5, false⟩, ⟨1, 4, 4, false⟩]
theorem x1 : askV L1 1 0 5 = 6 ∧ askE L1 1 0 5 = 0 := ⟨by kernel_rfl, by kernel_rfl⟩
theorem x2 : askV L1 1 0 8 = 8 ∧ askE L1 1 0 8 = 0 := ⟨by kernel_rfl, by kernel_rfl⟩
theorem x3 : (busyP L1 1 0).1 = 36 ∧ (busyP L1 1 0).2 = 0 := ⟨by kernel_rfl, by kernel_rfl⟩
theorem x4 : testV L1 1 0 = 12 := by kernel_rfl
theorem x5 : testV L2 0 0 = 0 := by kernel_rfl
set_option maxRecDepth 100000 in
set_option maxHeartbeats 4000000 in
theorem examples_ok (w : World) : Calls Try.prog 10 #[] w fun e w' => e = .returned (.bool true) ∧ But No w w' := by
  have h1 : RWk (w.alloc (.cells #[.int .i64 3, .int .i64 10, .int .i64 5, .bool false, .int .i64 2, .int .i64 4, .int .i64 4, .bool false] 38)) (some ⟨w.heap.size, 0, none⟩) 2 L1 := wk2 (x := ⟨3, 10, 5, false⟩) (y := ⟨2, 4, 4, false⟩) (Blk.new w _ _) ⟨in0 (by dsimp only; omega), in0 (by dsimp only; omega), in0 (by dsimp only; omega)⟩ ⟨in0 (by dsimp only; omega), in0 (by dsimp only; omega), in0 (by dsimp only; omega)⟩
  have HA : Hid (But No w (w.alloc (.cells #[.int .i64 3, .int .i64 10, .int .i64 5, .bool false, .int .i64 2, .int .i64 4, .int .i64 4, .bool false] 38))) := Lib.hid ((But.refl No w).alloc _)
  have CA1 : Hid (∀ W, But No (w.alloc (.cells #[.int .i64 3, .int .i64 10, .int .i64 5, .bool false, .int .i64 2, .int .i64 4, .int .i64 4, .bool false] 38)) W → Calls Try.prog 11 #[.slice (some ⟨w.heap.size, 0, none⟩) 2 2, .int .i64 1, .int .i64 0, .int .i64 5] W fun e w' => e = .returned (.tuple #[.int .i64 6, .int .i64 0]) ∧ But No W w') := Lib.hid (fun W hb => by have := ask_any _ 2 2 L1 1 0 5 W (h1.no hb) (in0 (by omega)) (in0 (by omega)) (in0 (by omega)); rw [x1.1, x1.2] at this; exact this)
  have CA2 : Hid (∀ W, But No (w.alloc (.cells #[.int .i64 3, .int .i64 10, .int .i64 5, .bool false, .int .i64 2, .int .i64 4, .int .i64 4, .bool false] 38)) W → Calls Try.prog 11 #[.slice (some ⟨w.heap.size, 0, none⟩) 2 2, .int .i64 1, .int .i64 0, .int .i64 8] W fun e w' => e = .returned (.tuple #[.int .i64 8, .int .i64 0]) ∧ But No W w') := Lib.hid (fun W hb => by have := ask_any _ 2 2 L1 1 0 8 W (h1.no hb) (in0 (by omega)) (in0 (by omega)) (in0 (by omega)); rw [x2.1, x2.2] at this; exact this)
  have CB : Hid (∀ W, But No (w.alloc (.cells #[.int .i64 3, .int .i64 10, .int .i64 5, .bool false, .int .i64 2, .int .i64 4, .int .i64 4, .bool false] 38)) W → Calls Try.prog 14 #[.slice (some ⟨w.heap.size, 0, none⟩) 2 2, .int .i64 1, .int .i64 0] W fun e w' => e = .returned (.tuple #[.int .i64 36, .int .i64 0]) ∧ But No W w') := Lib.hid (fun W hb => by have := busy_any _ 2 2 L1 1 0 W (h1.no hb) (in0 (by omega)) (in0 (by omega)); rw [x3.1, x3.2] at this; exact this)
  have CT1 : Hid (∀ W, But No (w.alloc (.cells #[.int .i64 3, .int .i64 10, .int .i64 5, .bool false, .int .i64 2, .int .i64 4, .int .i64 4, .bool false] 38)) W → Calls Try.prog 16 #[.slice (some ⟨w.heap.size, 0, none⟩) 2 2, .int .i64 1, .int .i64 0] W fun e w' => e = .returned (.int .i64 12) ∧ But No W w') := Lib.hid (fun W hb => by have := test_any _ 2 2 L1 1 0 W (h1.no hb) (in0 (by omega)) (in0 (by omega)); rw [x4] at this; exact this)
  have CT2 : Hid (∀ (W W' : World), But No (W.alloc (.cells #[.int .i64 1, .int .i64 10, .int .i64 5, .bool false, .int .i64 1, .int .i64 4, .int .i64 4, .bool false] 38)) W' → Calls Try.prog 16 #[.slice (some ⟨W.heap.size, 0, none⟩) 2 2, .int .i64 0, .int .i64 0] W' fun e w' => e = .returned (.int .i64 0) ∧ But No W' w') := Lib.hid (fun W W' hb => by
    have h2 : RWk (W.alloc (.cells #[.int .i64 1, .int .i64 10, .int .i64 5, .bool false, .int .i64 1, .int .i64 4, .int .i64 4, .bool false] 38)) (some ⟨W.heap.size, 0, none⟩) 2 L2 := wk2 (x := ⟨1, 10, 5, false⟩) (y := ⟨1, 4, 4, false⟩) (Blk.new W _ _) ⟨in0 (by dsimp only; omega), in0 (by dsimp only; omega), in0 (by dsimp only; omega)⟩ ⟨in0 (by dsimp only; omega), in0 (by dsimp only; omega), in0 (by dsimp only; omega)⟩
    have := test_any _ 2 2 L2 0 0 W' (h2.no hb) (in0 (by omega)) (in0 (by omega)); rw [x5] at this; exact this)
  clear h1
  go_enter Try.func10, Try.ntmps10
  go_wp2_with (first | (go_at_call 11; (with_reducible refine (CA1.out _ (But.refl No _)).mono ?_); rintro e wA ⟨rfl, hA⟩; have GA := Lib.hid hA; clear hA) | (go_at_call 11; (with_reducible refine (CA2.out _ GA.out).mono ?_); rintro e wB ⟨rfl, hB⟩; have GB := Lib.hid (GA.out.trans hB); clear hB) | (go_at_call 14; (with_reducible refine (CB.out _ GB.out).mono ?_); rintro e wC ⟨rfl, hC⟩; have GC := Lib.hid (GB.out.trans hC); clear hC) | (go_at_call 16; (with_reducible refine (CT1.out _ (GC.out.alloc _)).mono ?_); rintro e wD ⟨rfl, hD⟩; have GD := Lib.hid hD; clear hD) | (go_at_call 16; (with_reducible refine (CT2.out _ _ GD.out).mono ?_); rintro e wE ⟨rfl, hE⟩; have GE := Lib.hid (((HA.out.trans (GC.out.alloc _)).trans GD.out).trans hE); clear hE))
  go_ret
  exact ⟨rfl, GE.out⟩
end Go.Proofs.Ytfpcnilcbaiojaa.dem
