/- The walk of ResponseTells. -/
import Derived.Test.YtnjkgalbbhmgjaaReE
namespace Go.Proofs.Ytnjkgalbbhmgjaa
open Go.ChangeShapes Go.WideShapes Go.ChangeAt Go.RowKit Go.Deep rsp
namespace responseTells
set_option maxRecDepth 100000 in
set_option maxHeartbeats 4000000 in
theorem walk (own : Int) (ho : (Lit.int .i64 own).wf = true) (bl : Int) (hb : (Lit.int .i64 bl).wf = true) (rl : Int) (hr : (Lit.int .i64 rl).wf = true) (A : Option Addr) (n c : Nat) (a : List Ld) (_ : n ≤ c) (ka : n * 24 ≤ 140737488351232) (B : Option Addr) (m d : Nat) (b : List Ld) (_ : m ≤ d) (kb : m * 24 ≤ 140737488351232) (t : Int) (ht : (Lit.int .i64 t).wf = true) (limit : Int) (hl : (Lit.int .i64 limit).wf = true) (w : World) (h : RLd w A n a) (h' : RLd w B m b) :
    Calls Try.prog 3 #[.int .i64 own, .int .i64 bl, .int .i64 rl, .slice A n c, .slice B m d, .int .i64 t, .int .i64 limit] w fun e w' => e = .returned (.bool true) ∧ But No w w' := by
  have CX : Hid (∀ W, Calls Try.prog 9 #[] W fun e w' => e = .returned (.bool true) ∧ But No W w') := examples_ok
  have CA : Hid (∀ W, But No w W → Calls Try.prog 10 #[.int .i64 own, .int .i64 bl, .int .i64 rl, .slice A n c, .slice B m d, .int .i64 t] W fun e w' => e = .returned (.tuple #[.int .i64 (wiV own bl rl a b t), .int .i64 (wiE own bl rl a b t)]) ∧ But No W w') := fun W hw => within_any A n c a B m d b own bl rl t W (h.no hw) (h'.no hw) (inR_of ho) (inR_of hb) (inR_of hr) (inR_of ht)
  have CB : Hid (∀ W, But No w W → Calls Try.prog 13 #[.int .i64 own, .int .i64 bl, .int .i64 rl, .slice A n c, .slice B m d, .int .i64 limit] W fun e w' => e = .returned (.tuple #[.int .i64 (bnP own bl rl a b limit).1, .int .i64 (bnP own bl rl a b limit).2]) ∧ But No W w') := fun W hw => bound_any A n c a B m d b own bl rl limit W (h.no hw) (h'.no hw) (inR_of ho) (inR_of hb) (inR_of hr) (inR_of hl)
  have LA : Hid (∀ W, But No w W → Calls Try.prog 12 #[.slice A n c] W fun e w' => ∃ A' c', e = .returned (.slice A' n c') ∧ RLd w' A' n a ∧ But No W w') := fun W hw => loads_any A n c a W (h.no hw) ka
  have LB : Hid (∀ W, But No w W → Calls Try.prog 12 #[.slice B m d] W fun e w' => ∃ B' d', e = .returned (.slice B' m d') ∧ RLd w' B' m b ∧ But No W w') := fun W hw => loads_any B m d b W (h'.no hw) kb
  have DA : Hid (∀ A' c' B' d' W, RLd W A' n a → RLd W B' m b → Calls Try.prog 11 #[.int .i64 own, .int .i64 bl, .int .i64 rl, .slice A' n c', .slice B' m d', .int .i64 t] W fun e w' => e = .returned (.tuple #[.int .i64 (wiV own bl rl a b t), .int .i64 (wiE own bl rl a b t)]) ∧ But No W w') := fun A' c' B' d' W h1 h2 => rwithin_any A' n c' a B' m d' b own bl rl t W h1 h2
  have DB : Hid (∀ A' c' B' d' W, RLd W A' n a → RLd W B' m b → Calls Try.prog 14 #[.int .i64 own, .int .i64 bl, .int .i64 rl, .slice A' n c', .slice B' m d', .int .i64 limit] W fun e w' => e = .returned (.tuple #[.int .i64 (bnP own bl rl a b limit).1, .int .i64 (bnP own bl rl a b limit).2]) ∧ But No W w') := fun A' c' B' d' W h1 h2 => rbound_any A' n c' a B' m d' b own bl rl limit W h1 h2
  generalize wiV own bl rl a b t = v at CA DA
  generalize wiE own bl rl a b t = e at CA DA
  generalize (bnP own bl rl a b limit).1 = v' at CB DB
  generalize (bnP own bl rl a b limit).2 = e' at CB DB
  clear h h' ho hb hr ht hl ka kb
  go_enter Try.func3, Try.ntmps3
  go_wp2_with (first
    | (go_at_call 9; (with_reducible refine (CX.out _).mono ?_); rintro e w1 ⟨rfl, h1⟩; have H1 := Lib.hid h1; clear h1)
    | (go_at_call 10; (with_reducible refine (CA.out _ H1.out).mono ?_); rintro e w2 ⟨rfl, h2⟩; have H2 := Lib.hid (H1.out.trans h2); clear h2)
    | (go_at_call 12; (with_reducible refine (LA.out _ (by first | exact H7.out | exact H2.out)).mono ?_); rintro e w3 ⟨A', c', rfl, h3, h4⟩; first | (have H8 := Lib.hid (H7.out.trans h4); have R8 := Lib.hid h3) | (have H3 := Lib.hid (H2.out.trans h4); have R3 := Lib.hid h3); clear h3 h4)
    | (go_at_call 12; (with_reducible refine (LB.out _ (by first | exact H8.out | exact H3.out)).mono ?_); rintro e w4 ⟨B', d', rfl, h3, h4⟩; first | (have H9 := Lib.hid (H8.out.trans h4); have R9 := Lib.hid (And.intro (R8.out.no h4) h3)) | (have H4 := Lib.hid (H3.out.trans h4); have R4 := Lib.hid (And.intro (R3.out.no h4) h3)); clear h3 h4)
    | (go_at_call 11; (with_reducible refine (DA.out _ _ _ _ _ R4.out.1 R4.out.2).mono ?_); rintro e w5 ⟨rfl, h2⟩; have H6 := Lib.hid (H4.out.trans h2); clear h2)
    | (go_at_call 13; (with_reducible refine (CB.out _ H6.out).mono ?_); rintro e w6 ⟨rfl, h2⟩; have H7 := Lib.hid (H6.out.trans h2); clear h2)
    | (go_at_call 14; (with_reducible refine (DB.out _ _ _ _ _ R9.out.1 R9.out.2).mono ?_); rintro e w7 ⟨rfl, h2⟩; have H10 := Lib.hid (H9.out.trans h2); clear h2))
  go_ret
  exact ⟨ret_bool (by simp), H10.out⟩
end responseTells
end Go.Proofs.Ytnjkgalbbhmgjaa
