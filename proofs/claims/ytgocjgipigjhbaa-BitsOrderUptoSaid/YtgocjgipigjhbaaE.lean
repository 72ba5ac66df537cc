/- The chapter's examples: the contract of examples. -/
import Derived.Test.YtgocjgipigjhbaaL2
namespace Go.Proofs.Ytgocjgipigjhbaa
open Go.ChangeShapes Go.WideShapes Go.ChangeAt Go.RowKit
structure Ex (S : Q) : Prop where
  ok : S.ok
  f : S.first = 5
  n5 : S.next 5 = 70
  n70 : S.next 70 = 255
  n255 : S.next 255 = -1
  c : S.count = 3
theorem ex_of : Ex (ofAns [5, 70, 255]) := ⟨ofAns_ok _, by decide +kernel, by decide +kernel, by decide +kernel, by decide +kernel, by decide +kernel⟩
theorem err_of : ofErr [5, 70, 255] = 0 := by decide +kernel
theorem err_256 : ofErr [256] = 1 := by decide +kernel
theorem first_zero : Q.zero.first = -1 := by decide +kernel
theorem rd_block {w : World} {b : Nat} {zs : List Int} (h : Blk w b (zs.map (Value.int .i64)).toArray 3) (hl : zs.length ≤ 1000) (hf : ∀ k, inR (zs.getD k 0)) : Rd w (some ⟨b, 0, none⟩) zs.length zs :=
  ⟨rfl, by omega, fun _ => ⟨b, 0, rfl, h.lt, fun k hk => by rw [Nat.zero_add]; exact h.cell (by simp [hk])⟩, hf⟩
theorem fit3 (k : Nat) : inR (([5, 70, 255] : List Int).getD k 0) := by
  match k with
  | 0 => unfold inR; decide
  | 1 => unfold inR; decide
  | 2 => unfold inR; decide
  | k + 3 => unfold inR; simp
theorem fit1 (k : Nat) : inR (([256] : List Int).getD k 0) := by
  match k with
  | 0 => unfold inR; decide
  | k + 1 => unfold inR; simp
theorem blk2 (w : World) (o : Obj) (cur : Array Value) (e : TypeId) : Blk ((w.alloc o).alloc (.cells cur e)) (w.heap.size + 1) cur e := by
  have := Blk.new (w.alloc o) cur e
  simpa using this
theorem Blk.alloc {w : World} {b : Nat} {cur : Array Value} {e : TypeId} (h : Blk w b cur e) (o : Obj) : Blk (w.alloc o) b cur e := h.but (S := No) ((But.refl _ _).alloc _) (fun f => f)
set_option maxHeartbeats 4000000 in
set_option maxRecDepth 100000 in
theorem examples_any (w : World) : Calls Try.prog 10 #[] w fun e w' => e = .returned (.bool true) ∧ But No w w' := by
  obtain ⟨S, hS, hE⟩ : ∃ S, ofAns [5, 70, 255] = S ∧ Ex S := ⟨_, rfl, ex_of⟩
  have C1 : Hid (∀ w b, Blk w b #[.int .i64 5, .int .i64 70, .int .i64 255] 3 → Calls Try.prog 21 #[.slice (some ⟨b, 0, none⟩) 3 3] w fun e w' => e = .returned (.tuple #[sv S, .int .i64 0]) ∧ But No w w') := fun w b h => by
    have := of_any (some ⟨b, 0, none⟩) 3 3 [5, 70, 255] w (rd_block (zs := [5, 70, 255]) h (by decide) fit3)
    rw [hS, err_of] at this
    exact this
  have C2 : Hid (∀ w b, Blk w b #[.int .i64 256] 3 → Calls Try.prog 21 #[.slice (some ⟨b, 0, none⟩) 1 1] w fun e w' => (∃ T, e = .returned (.tuple #[sv T, .int .i64 1])) ∧ But No w w') := fun w b h => by
    have := of_any (some ⟨b, 0, none⟩) 1 1 [256] w (rd_block (zs := [256]) h (by decide) fit1)
    rw [err_256] at this
    exact this.mono fun e w' ⟨he, hw⟩ => ⟨⟨_, he⟩, hw⟩
  have CF : Hid (∀ w, Calls Try.prog 14 #[sv S] w fun e w' => e = .returned (.int .i64 5) ∧ But No w w') := fun w => by have := first_any S w hE.ok; rw [hE.f] at this; exact this
  have CZ : Hid (∀ w, Calls Try.prog 14 #[.agg #[.int .u64 0, .int .u64 0, .int .u64 0, .int .u64 0]] w fun e w' => e = .returned (.int .i64 (-1)) ∧ But No w w') := fun w => by have := first_any Q.zero w Q.zero_ok; rw [first_zero] at this; exact this
  have CN5 : Hid (∀ w, Calls Try.prog 16 #[sv S, .int .i64 5] w fun e w' => e = .returned (.int .i64 70) ∧ But No w w') := fun w => by have := next_any S 5 w hE.ok; rw [hE.n5] at this; exact this
  have CN70 : Hid (∀ w, Calls Try.prog 16 #[sv S, .int .i64 70] w fun e w' => e = .returned (.int .i64 255) ∧ But No w w') := fun w => by have := next_any S 70 w hE.ok; rw [hE.n70] at this; exact this
  have CN255 : Hid (∀ w, Calls Try.prog 16 #[sv S, .int .i64 255] w fun e w' => e = .returned (.int .i64 (-1)) ∧ But No w w') := fun w => by have := next_any S 255 w hE.ok; rw [hE.n255] at this; exact this
  have CC : Hid (∀ w, Calls Try.prog 17 #[sv S] w fun e w' => e = .returned (.int .i64 3) ∧ But No w w') := fun w => by have := count_any S w hE.ok; rw [hE.c] at this; exact this
  clear hS hE
  go_enter Try.func10, Try.ntmps10
  go_wp2_with (first
    | (go_at_call 21; (with_reducible refine (C1.out _ _ (Blk.new _ _ _)).mono ?_); rintro e w1 ⟨rfl, hb1⟩; have HB1 := Lib.hid (((But.refl No w).alloc _).trans hb1); clear hb1)
    | (go_at_call 21; (with_reducible refine (C2.out _ _ (blk2 _ _ _ _)).mono ?_); rintro e w3 ⟨⟨T, rfl⟩, hb3⟩; have HB3 := Lib.hid (((HB1.out.alloc _).alloc _).trans hb3); have HQ3 := Lib.hid (((Blk.new w1 (cells4 S) 26).alloc _).but hb3 (fun f => f)); clear hb3; have hlt3 := HQ3.out.lt; have HB4 := Lib.hid (HB3.out.alloc (.cells (cells4 T) 26)); have HQ4 := Lib.hid (HQ3.out.alloc (.cells (cells4 T) 26)); have k30 := HQ3.out.cell (o := 0) rfl; have k31 := HQ3.out.cell (o := 1) rfl; have k32 := HQ3.out.cell (o := 2) rfl; have k33 := HQ3.out.cell (o := 3) rfl)
    | (go_at_call 14; (with_reducible refine (CF.out _).mono ?_); rintro e w5 ⟨rfl, hb⟩; have HB5 := Lib.hid (HB4.out.trans hb); have HQ5 := Lib.hid (HQ4.out.but hb (fun f => f)); clear hb; have k50 := HQ5.out.cell (o := 0) rfl; have k51 := HQ5.out.cell (o := 1) rfl; have k52 := HQ5.out.cell (o := 2) rfl; have k53 := HQ5.out.cell (o := 3) rfl)
    | (go_at_call 16; (with_reducible refine (CN5.out _).mono ?_); rintro e w6 ⟨rfl, hb⟩; have HB6 := Lib.hid (HB5.out.trans hb); have HQ6 := Lib.hid (HQ5.out.but hb (fun f => f)); clear hb; have k60 := HQ6.out.cell (o := 0) rfl; have k61 := HQ6.out.cell (o := 1) rfl; have k62 := HQ6.out.cell (o := 2) rfl; have k63 := HQ6.out.cell (o := 3) rfl)
    | (go_at_call 16; (with_reducible refine (CN70.out _).mono ?_); rintro e w7 ⟨rfl, hb⟩; have HB7 := Lib.hid (HB6.out.trans hb); have HQ7 := Lib.hid (HQ6.out.but hb (fun f => f)); clear hb; have k70 := HQ7.out.cell (o := 0) rfl; have k71 := HQ7.out.cell (o := 1) rfl; have k72 := HQ7.out.cell (o := 2) rfl; have k73 := HQ7.out.cell (o := 3) rfl)
    | (go_at_call 16; (with_reducible refine (CN255.out _).mono ?_); rintro e w8 ⟨rfl, hb⟩; have HB8 := Lib.hid (HB7.out.trans hb); have HQ8 := Lib.hid (HQ7.out.but hb (fun f => f)); clear hb; have k80 := HQ8.out.cell (o := 0) rfl; have k81 := HQ8.out.cell (o := 1) rfl; have k82 := HQ8.out.cell (o := 2) rfl; have k83 := HQ8.out.cell (o := 3) rfl)
    | (go_at_call 17; (with_reducible refine (CC.out _).mono ?_); rintro e w9 ⟨rfl, hb⟩; have HB9 := Lib.hid (HB8.out.trans hb); have HQ9 := Lib.hid (HQ8.out.but hb (fun f => f)); clear hb; have k90 := HQ9.out.cell (o := 0) rfl; have k91 := HQ9.out.cell (o := 1) rfl; have k92 := HQ9.out.cell (o := 2) rfl; have k93 := HQ9.out.cell (o := 3) rfl)
    | (go_at_call 14; (with_reducible refine (CZ.out _).mono ?_); rintro e w10 ⟨rfl, hb⟩; have HB10 := Lib.hid (HB9.out.trans hb); have HQ10 := Lib.hid (HQ9.out.but hb (fun f => f)); clear hb; have k100 := HQ10.out.cell (o := 0) rfl; have k101 := HQ10.out.cell (o := 1) rfl; have k102 := HQ10.out.cell (o := 2) rfl; have k103 := HQ10.out.cell (o := 3) rfl))
  go_ret
  exact ⟨rfl, HB10.out⟩
end Go.Proofs.Ytgocjgipigjhbaa
