/- The walk of TasksetWrites. -/
import Derived.Test.YtlkcelmamenhpaaE
import Derived.Test.YtlkcelmamenhpaaRE
namespace Go.Proofs.Ytlkcelmamenhpaa
open Go.ChangeShapes Go.WideShapes Go.ChangeAt Go.RowKit Go.Deep
theorem rencode_to {s : Sys} {t : ByteArray} {E : Nat} {A : Option Addr} {n c : Nat} (ht : nl t = eOut s) (hE : eErr s = E) (W : World) (h : RSys W A n c s) :
    Calls Try.prog 10 #[sysV s A n c] W fun e w' => e = .returned (.tuple #[.string t, .int .i64 (E : Int)]) ∧ But No W w' :=
  (rencode_any s A n c W h).mono fun e w' ⟨t', he, hn, hb⟩ => by
    have : t' = t := nl_inj (by rw [hn, ht])
    subst this
    exact ⟨by rw [he, hE], hb⟩
namespace tasksetWrites
set_option maxRecDepth 100000 in
set_option maxHeartbeats 2000000 in
theorem walk (s : Sys) (A : Option Addr) (c : Nat) (w : World) (h : RSys w A s.ts.length c s) : Calls Try.prog 3 #[sysV s A s.ts.length c] w fun e w' => e = .returned (.bool true) ∧ But No w w' := by
  obtain ⟨t, ht, htz⟩ := eOut_str s
  obtain ⟨E, hE⟩ : ∃ E, eErr s = E := ⟨_, rfl⟩
  generalize s.ts.length = n at *
  have CX : ∀ W, Hid (Calls Try.prog 8 #[] W fun e w' => e = .returned (.bool true) ∧ But No W w') := fun W => examples_any W
  have CE : Hid (∀ W, But No w W → Calls Try.prog 9 #[sysV s A n c] W fun e w' => e = .returned (.tuple #[.string t, .int .i64 (E : Int)]) ∧ But No W w') := fun W hb => encode_to ht hE W (h.no hb)
  have CR : Hid (∀ W, But No w W → Calls Try.prog 10 #[sysV s A n c] W fun e w' => e = .returned (.tuple #[.string t, .int .i64 (E : Int)]) ∧ But No W w') := fun W hb => rencode_to ht hE W (h.no hb)
  have heq : (t.toList == t.toList) = true := by simp
  clear ht hE h
  unfold sysV at CE CR ⊢
  go_enter Try.func3, Try.ntmps3
  have HX : Hid (Blk (w.alloc (.cells #[.int .i64 s.co, .int .i64 s.po, .int .i64 s.pr, .int .i64 s.re, .int .i64 s.sw, .int .i64 s.fi, .int .i64 s.la, .int .i64 s.rs, .slice A n c] 24)) w.heap.size (boxS s A n c) 24) := Blk.new w _ _
  go_wp2_with (first | (go_at_call 8; refine (CX _).out.mono ?_; rintro e w1 ⟨rfl, hb1⟩; have HB1 := Lib.hid (((But.refl No w).alloc _).trans hb1); have HX1 := Lib.hid (HX.out.but hb1 (fun f => f)); clear hb1; obtain ⟨d0, d1, d2, d3, d4, d5, d6, d7, d8⟩ := sys_cells HX1.out) | (go_at_call 9; refine (CE.out _ HB1.out).mono ?_; rintro e w2 ⟨rfl, hb2⟩; have HB2 := Lib.hid (HB1.out.trans hb2); have HX2 := Lib.hid (HX1.out.but hb2 (fun f => f)); clear hb2 d0 d1 d2 d3 d4 d5 d6 d7 d8; obtain ⟨d0, d1, d2, d3, d4, d5, d6, d7, d8⟩ := sys_cells HX2.out) | (go_at_call 10; refine (CR.out _ HB2.out).mono ?_; rintro e w3 ⟨rfl, hb3⟩; have HB3 := Lib.hid (HB2.out.trans hb3); clear hb3))
  go_ret
  exact ⟨rfl, HB3.out⟩
end tasksetWrites
end Go.Proofs.Ytlkcelmamenhpaa
