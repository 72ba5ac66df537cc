/- The chapter's examples (chapter 16). -/
import Derived.Test.YtnjkgalbbhmgjaaReC
namespace Go.Proofs.Ytnjkgalbbhmgjaa.rsp
open Go.ChangeShapes Go.WideShapes Go.ChangeAt Go.RowKit Go.Deep
theorem in0 {a : Int} (h : 0 ≤ a ∧ a ≤ 1000) : inR a := inR_small (by omega)
theorem ld1 {w : World} {b : Nat} {x : Ld} (h : Blk w b #[.int .i64 x.w, .int .i64 x.p, .int .i64 x.j] 33) (hx : inR x.w ∧ inR x.p ∧ inR x.j) : RLd w (some ⟨b, 0, none⟩) 1 [x] :=
  ⟨rfl, by omega, fun _ => ⟨b, 0, rfl, h.lt, fun k u hu => by
    have hk : k < 1 := (List.getElem?_eq_some_iff.1 hu).1
    obtain rfl : k = 0 := by omega
    have e : x = u := by simpa using hu
    subst e; exact ⟨h.cell rfl, h.cell rfl, h.cell rfl⟩⟩, fun u hu => by
    obtain rfl : u = x := by simpa using hu
    exact hx⟩
theorem x1 : (bnP 3 1 0 [⟨2, 5, 0⟩] [] 20).1 = 8 ∧ (bnP 3 1 0 [⟨2, 5, 0⟩] [] 20).2 = 0 := ⟨by kernel_rfl, by kernel_rfl⟩
theorem x2 : (bnP 3 1 0 [⟨2, 5, 0⟩] [] 7).1 = 0 ∧ (bnP 3 1 0 [⟨2, 5, 0⟩] [] 7).2 = 12 := ⟨by kernel_rfl, by kernel_rfl⟩
theorem x3 : (bnP 3 1 0 [⟨2, 5, 2⟩] [] 20).1 = 8 ∧ (bnP 3 1 0 [⟨2, 5, 2⟩] [] 20).2 = 0 := ⟨by kernel_rfl, by kernel_rfl⟩
theorem x4 : wiV 3 1 2 [] [⟨0, 5, 0⟩] 6 = 10 ∧ wiE 3 1 2 [] [⟨0, 5, 0⟩] 6 = 0 := ⟨by kernel_rfl, by kernel_rfl⟩
set_option maxRecDepth 100000 in
set_option maxHeartbeats 4000000 in
theorem examples_ok (w : World) : Calls Try.prog 9 #[] w fun e w' => e = .returned (.bool true) ∧ But No w w' := by
  have C1 : Hid (∀ (W W' : World), But No (W.alloc (.cells #[.int .i64 2, .int .i64 5, .int .i64 0] 33)) W' → Calls Try.prog 13 #[.int .i64 3, .int .i64 1, .int .i64 0, .slice (some ⟨W.heap.size, 0, none⟩) 1 1, .slice none 0 0, .int .i64 20] W' fun e w' => e = .returned (.tuple #[.int .i64 8, .int .i64 0]) ∧ But No W' w') := Lib.hid (fun W W' hb => by
    have h2 : RLd (W.alloc (.cells #[.int .i64 2, .int .i64 5, .int .i64 0] 33)) (some ⟨W.heap.size, 0, none⟩) 1 [⟨2, 5, 0⟩] := ld1 (x := ⟨2, 5, 0⟩) (Blk.new W _ _) ⟨in0 (by dsimp only; omega), in0 (by dsimp only; omega), in0 (by dsimp only; omega)⟩
    have := bound_any _ 1 1 _ none 0 0 [] 3 1 0 20 W' (h2.no hb) (RLd.nil W') (in0 (by omega)) (in0 (by omega)) (in0 (by omega)) (in0 (by omega)); rw [x1.1, x1.2] at this; exact this)
  have C2 : Hid (∀ (W W' : World), But No (W.alloc (.cells #[.int .i64 2, .int .i64 5, .int .i64 0] 33)) W' → Calls Try.prog 13 #[.int .i64 3, .int .i64 1, .int .i64 0, .slice (some ⟨W.heap.size, 0, none⟩) 1 1, .slice none 0 0, .int .i64 7] W' fun e w' => e = .returned (.tuple #[.int .i64 0, .int .i64 12]) ∧ But No W' w') := Lib.hid (fun W W' hb => by
    have h2 : RLd (W.alloc (.cells #[.int .i64 2, .int .i64 5, .int .i64 0] 33)) (some ⟨W.heap.size, 0, none⟩) 1 [⟨2, 5, 0⟩] := ld1 (x := ⟨2, 5, 0⟩) (Blk.new W _ _) ⟨in0 (by dsimp only; omega), in0 (by dsimp only; omega), in0 (by dsimp only; omega)⟩
    have := bound_any _ 1 1 _ none 0 0 [] 3 1 0 7 W' (h2.no hb) (RLd.nil W') (in0 (by omega)) (in0 (by omega)) (in0 (by omega)) (in0 (by omega)); rw [x2.1, x2.2] at this; exact this)
  have C3 : Hid (∀ (W W' : World), But No (W.alloc (.cells #[.int .i64 2, .int .i64 5, .int .i64 2] 33)) W' → Calls Try.prog 13 #[.int .i64 3, .int .i64 1, .int .i64 0, .slice (some ⟨W.heap.size, 0, none⟩) 1 1, .slice none 0 0, .int .i64 20] W' fun e w' => e = .returned (.tuple #[.int .i64 8, .int .i64 0]) ∧ But No W' w') := Lib.hid (fun W W' hb => by
    have h2 : RLd (W.alloc (.cells #[.int .i64 2, .int .i64 5, .int .i64 2] 33)) (some ⟨W.heap.size, 0, none⟩) 1 [⟨2, 5, 2⟩] := ld1 (x := ⟨2, 5, 2⟩) (Blk.new W _ _) ⟨in0 (by dsimp only; omega), in0 (by dsimp only; omega), in0 (by dsimp only; omega)⟩
    have := bound_any _ 1 1 _ none 0 0 [] 3 1 0 20 W' (h2.no hb) (RLd.nil W') (in0 (by omega)) (in0 (by omega)) (in0 (by omega)) (in0 (by omega)); rw [x3.1, x3.2] at this; exact this)
  have C4 : Hid (∀ (W W' : World), But No (W.alloc (.cells #[.int .i64 0, .int .i64 5, .int .i64 0] 33)) W' → Calls Try.prog 10 #[.int .i64 3, .int .i64 1, .int .i64 2, .slice none 0 0, .slice (some ⟨W.heap.size, 0, none⟩) 1 1, .int .i64 6] W' fun e w' => e = .returned (.tuple #[.int .i64 10, .int .i64 0]) ∧ But No W' w') := Lib.hid (fun W W' hb => by
    have h2 : RLd (W.alloc (.cells #[.int .i64 0, .int .i64 5, .int .i64 0] 33)) (some ⟨W.heap.size, 0, none⟩) 1 [⟨0, 5, 0⟩] := ld1 (x := ⟨0, 5, 0⟩) (Blk.new W _ _) ⟨in0 (by dsimp only; omega), in0 (by dsimp only; omega), in0 (by dsimp only; omega)⟩
    have := within_any none 0 0 [] _ 1 1 _ 3 1 2 6 W' (RLd.nil W') (h2.no hb) (in0 (by omega)) (in0 (by omega)) (in0 (by omega)) (in0 (by omega)); rw [x4.1, x4.2] at this; exact this)
  go_enter Try.func9, Try.ntmps9
  go_wp2_with (first | (go_at_call 13; (with_reducible refine (C1.out _ _ (But.refl No _)).mono ?_); rintro e wA ⟨rfl, h⟩; have G1 := Lib.hid (((But.refl No w).alloc _).trans h); clear h) | (go_at_call 13; (with_reducible refine (C2.out _ _ (But.refl No _)).mono ?_); rintro e wB ⟨rfl, h⟩; have G2 := Lib.hid ((G1.out.alloc _).trans h); clear h) | (go_at_call 13; (with_reducible refine (C3.out _ _ (But.refl No _)).mono ?_); rintro e wC ⟨rfl, h⟩; have G3 := Lib.hid ((G2.out.alloc _).trans h); clear h) | (go_at_call 10; (with_reducible refine (C4.out _ _ (But.refl No _)).mono ?_); rintro e wD ⟨rfl, h⟩; have G4 := Lib.hid ((G3.out.alloc _).trans h); clear h))
  go_ret
  exact ⟨rfl, G4.out⟩
end Go.Proofs.Ytnjkgalbbhmgjaa.rsp
