/- Any level is taken, or given back, in any set, as the chapter says; the set that was asked stays: BitsTurns returns true. (The walk.) -/
import Derived.Test.YtgocjgipigjhbaaE
namespace Go.Proofs.Ytgocjgipigjhbaa.bitsTurns
open Go.ChangeShapes Go.WideShapes Go.ChangeAt Go.RowKit
attribute [local go_sem] eq_in23
theorem bl_set {w : World} {b n : Nat} {f g : Nat → Bool} {v : Bool} (h : Bl w b f) (hg : ∀ j, j < 256 → g j = if j = n then v else f j) : Bl (w.setCell ⟨b, n, none⟩ (.bool v)) b g :=
  Vals.congr (Vals.set h (k := n) (.bool v)) (fun j hj => by rw [hg j hj]; by_cases e : j = n <;> simp [e])
theorem new_set (w : World) (a : Addr) (v : Value) (cur : Array Value) (e : TypeId) : Blk ((w.setCell a v).alloc (.cells cur e)) w.heap.size cur e := by
  have := Blk.new (w.setCell a v) cur e
  have hs : (w.setCell a v).heap.size = w.heap.size := by simp [World.setCell]
  rw [hs] at this
  exact this
theorem with_words {s : Q} (hs : s.ok) {n : Nat} (hn : n < 256) : wordsQ (fun j => if j = n then true else s.has j) 256 = s.with_ n :=
  Q.ext_has (wordsQ_ok _ _) (Q.with_ok hs n) (fun j hj => by
    rw [wordsQ_has _ hj (Nat.le_refl _), Q.has_with s hn hj]
    by_cases e : j = n <;> simp [e, hj, hn])
theorem without_words {s : Q} (hs : s.ok) {n : Nat} (hn : n < 256) : wordsQ (fun j => if j = n then false else s.has j) 256 = s.without n :=
  Q.ext_has (wordsQ_ok _ _) (Q.without_ok hs n) (fun j hj => by
    rw [wordsQ_has _ hj (Nat.le_refl _), Q.has_without s hn hj]
    by_cases e : j = n <;> simp [e, hj])
set_option maxHeartbeats 4000000 in
set_option maxRecDepth 100000 in
theorem walk_no (s : Q) (i : Int) (hi : i < 0 ∨ 256 ≤ i) (w : World) : Calls Try.prog 4 #[sv s, .int .i64 i] w fun e w' => e = .returned (.bool true) ∧ But No w w' := by
  have CE : Hid (∀ w, Calls Try.prog 10 #[] w fun e w' => e = .returned (.bool true) ∧ But No w w') := examples_any
  have CW : Hid (∀ w, Calls Try.prog 18 #[sv s, .int .i64 i] w fun e w' => e = .returned (sv s) ∧ But No w w') := fun w => with_no s i w hi
  have CO : Hid (∀ w, Calls Try.prog 19 #[sv s, .int .i64 i] w fun e w' => e = .returned (sv s) ∧ But No w w') := fun w => without_no s i w hi
  have he := eq4_self s.a s.b s.c s.d
  by_cases h0 : i < 0
  all_goals
    first
    | (have h0' : decide (i < 0) = true := by simpa using h0)
    | (have h0' : decide (i < 0) = false := by simpa using h0
       have h1 : 255 < i := by omega
       have h1' : decide (255 < i) = true := by simpa using h1)
    clear hi
    go_enter Try.func4, Try.ntmps4
    go_wp2_with (first
      | (go_at_call 10; (with_reducible refine (CE.out _).mono ?_); rintro e w1 ⟨rfl, hb1⟩; have HB1 := Lib.hid (((But.refl No w).alloc _).trans hb1); have HA1 := Lib.hid ((Blk.new w (cells4 s) 23).but hb1 (fun f => f)); clear hb1; have a0 := HA1.out.cell (o := 0) rfl; have a1 := HA1.out.cell (o := 1) rfl; have a2 := HA1.out.cell (o := 2) rfl; have a3 := HA1.out.cell (o := 3) rfl)
      | (go_at_call 18; (with_reducible refine (CW.out _).mono ?_); rintro e w2 ⟨rfl, hb2⟩; have HB2 := Lib.hid ((HB1.out.alloc _).trans hb2); have HS2 := Lib.hid ((Blk.new w1 (cells4 s) 26).but hb2 (fun f => f)); clear hb2; have b0 := HS2.out.cell (o := 0) rfl; have b1 := HS2.out.cell (o := 1) rfl; have b2 := HS2.out.cell (o := 2) rfl; have b3 := HS2.out.cell (o := 3) rfl; have hl2 := HS2.out.lt)
      | (go_at_call 19; (with_reducible refine (CO.out _).mono ?_); rintro e w3 ⟨rfl, hb3⟩; have HB3 := Lib.hid ((HB2.out.alloc _).trans hb3); have HS3 := Lib.hid ((HS2.out.alloc _).but hb3 (fun f => f)); have HT3 := Lib.hid ((Blk.new w2 (cells4 s) 26).but hb3 (fun f => f)); clear hb3; have c0 := HS3.out.cell (o := 0) rfl; have c1 := HS3.out.cell (o := 1) rfl; have c2 := HS3.out.cell (o := 2) rfl; have c3 := HS3.out.cell (o := 3) rfl; have d0 := HT3.out.cell (o := 0) rfl; have d1 := HT3.out.cell (o := 1) rfl; have d2 := HT3.out.cell (o := 2) rfl; have d3 := HT3.out.cell (o := 3) rfl; have hl3 := HS3.out.lt; have hl4 := HT3.out.lt))
    go_ret
    exact ⟨rfl, HB3.out.alloc _⟩
set_option maxHeartbeats 8000000 in
set_option maxRecDepth 100000 in
theorem walk_yes (s : Q) (hs : s.ok) (n : Nat) (hn : n < 256) (w : World) : Calls Try.prog 4 #[sv s, .int .i64 n] w fun e w' => e = .returned (.bool true) ∧ But No w w' := by
  have CE : Hid (∀ w, Calls Try.prog 10 #[] w fun e w' => e = .returned (.bool true) ∧ But No w w') := examples_any
  have CW : Hid (∀ w, Calls Try.prog 18 #[sv s, .int .i64 n] w fun e w' => e = .returned (sv (s.with_ n)) ∧ But No w w') := fun w => with_yes s n w hs hn
  have CO : Hid (∀ w, Calls Try.prog 19 #[sv s, .int .i64 n] w fun e w' => e = .returned (sv (s.without n)) ∧ But No w w') := fun w => without_yes s n w hs hn
  have CL : Hid (∀ w, Calls Try.prog 11 #[sv s] w (BlEnd w s.has)) := fun w => levels_any s w hs
  have CX : Hid (∀ w b, Bl w b (fun j => if j = n then true else s.has j) → Calls Try.prog 20 #[.slice (some ⟨b, 0, none⟩) 256 256] w fun e w' => e = .returned (sv (s.with_ n)) ∧ But No w w') := fun w b h => by
    have := words_any b _ w h
    rw [with_words hs hn] at this
    exact this
  have CY : Hid (∀ w b, Bl w b (fun j => if j = n then false else s.has j) → Calls Try.prog 20 #[.slice (some ⟨b, 0, none⟩) 256 256] w fun e w' => e = .returned (sv (s.without n)) ∧ But No w w') := fun w b h => by
    have := words_any b _ w h
    rw [without_words hs hn] at this
    exact this
  generalize s.with_ n = x at CW CX
  generalize s.without n = y at CO CY
  have he := eq4_self s.a s.b s.c s.d
  have hex := eq4_self x.a x.b x.c x.d
  have hey := eq4_self y.a y.b y.c y.d
  have h0' : decide ((n : Int) < 0) = false := by simp
  have h1' : decide (255 < (n : Int)) = false := by simp; omega
  go_enter Try.func4, Try.ntmps4
  go_wp2_with (first
    | (go_at_call 10; (with_reducible refine (CE.out _).mono ?_); rintro e w1 ⟨rfl, hb1⟩; have HB1 := Lib.hid (((But.refl No w).alloc _).trans hb1); have HA1 := Lib.hid ((Blk.new w (cells4 s) 23).but hb1 (fun f => f)); clear hb1; have a0 := HA1.out.cell (o := 0) rfl; have a1 := HA1.out.cell (o := 1) rfl; have a2 := HA1.out.cell (o := 2) rfl; have a3 := HA1.out.cell (o := 3) rfl; have hl1 := HA1.out.lt)
    | (go_at_call 18; (with_reducible refine (CW.out _).mono ?_); rintro e w2 ⟨rfl, hb2⟩; have HB2 := Lib.hid ((HB1.out.alloc _).trans hb2); have HA2 := Lib.hid ((HA1.out.alloc _).but hb2 (fun f => f)); have HS2 := Lib.hid ((Blk.new w1 (cells4 s) 26).but hb2 (fun f => f)); clear hb2; have b0 := HS2.out.cell (o := 0) rfl; have b1 := HS2.out.cell (o := 1) rfl; have b2 := HS2.out.cell (o := 2) rfl; have b3 := HS2.out.cell (o := 3) rfl; have hl2 := HS2.out.lt)
    | (go_at_call 19; (with_reducible refine (CO.out _).mono ?_); rintro e w3 ⟨rfl, hb3⟩; have HB3 := Lib.hid ((HB2.out.alloc _).trans hb3); have HA3 := Lib.hid ((HA2.out.alloc _).but hb3 (fun f => f)); have HS3 := Lib.hid ((HS2.out.alloc _).but hb3 (fun f => f)); have HX3 := Lib.hid ((Blk.new w2 (cells4 x) 26).but hb3 (fun f => f)); clear hb3; have c0 := HA3.out.cell (o := 0) rfl; have c1 := HA3.out.cell (o := 1) rfl; have c2 := HA3.out.cell (o := 2) rfl; have c3 := HA3.out.cell (o := 3) rfl; have hl3 := HA3.out.lt)
    | (go_at_call 11; (with_reducible refine (CL.out _).mono ?_); rintro e w4 ⟨bl, rfl, hbl, hb4, hg⟩; have HB4 := Lib.hid hb4; have HL4 := Lib.hid hbl; have HG : Hid (w3.heap.size + 1 ≤ bl) := (by have := hg; simp at this; exact this); have HM4 : Hid (Bl (w4.setCell ⟨bl, n, none⟩ (.bool true)) bl (fun j => if j = n then true else s.has j)) := bl_set hbl (fun j _ => rfl); have lc := Vals.cell hbl hn; have lf := Vals.frozen hbl n; clear hbl hb4 hg)
    | (go_at_call 20; (with_reducible refine (CX.out _ _ HM4.out).mono ?_); rintro e w5 ⟨rfl, hb5⟩; have HB5 : Hid (But No (w3.alloc (.cells (cells4 y) 26)) w5) := ((HB4.out.setNew (p := ⟨bl, n, none⟩) (by simpa using HG.out) (.bool true)).trans hb5); have HL5 : Hid (Bl w5 bl (fun j => if j = n then true else s.has j)) := HM4.out.but hb5 (fun f => f); clear hb5; have lc5 := Vals.cell HL5.out hn; have lf5 := Vals.frozen HL5.out n; have ll5 := Vals.lt HL5.out; dsimp only at lc5; rw [if_pos rfl] at lc5; have HM5 : Hid (Bl ((w5.setCell ⟨bl, n, none⟩ (.bool false)).alloc (.cells (cells4 x) 23)) bl (fun j => if j = n then false else s.has j)) := Vals.but (S := No) (bl_set HL5.out (fun j _ => by by_cases e : j = n <;> simp [e])) ((But.refl _ _).alloc _) (fun f => f))
    | (go_at_call 20; (with_reducible refine (CY.out _ _ HM5.out).mono ?_); rintro e w6 ⟨rfl, hb6⟩; have HF : Hid (But No (w3.alloc (.cells (cells4 y) 26)) w6) := (((HB5.out.setNew (p := ⟨bl, n, none⟩) (by simpa using HG.out) (.bool false)).alloc _).trans hb6); have HO6 := Lib.hid ((new_set w5 _ _ (cells4 x) 23).but hb6 (fun f => f)); clear hb6; have HA6 := Lib.hid ((HA3.out.alloc _).but HF.out (fun f => f)); have HS6 := Lib.hid ((HS3.out.alloc _).but HF.out (fun f => f)); have HX6 := Lib.hid ((HX3.out.alloc _).but HF.out (fun f => f)); have HY6 := Lib.hid ((Blk.new w3 (cells4 y) 26).but HF.out (fun f => f)); have p0 := HA6.out.cell (o := 0) rfl; have p1 := HA6.out.cell (o := 1) rfl; have p2 := HA6.out.cell (o := 2) rfl; have p3 := HA6.out.cell (o := 3) rfl; have q0 := HS6.out.cell (o := 0) rfl; have q1 := HS6.out.cell (o := 1) rfl; have q2 := HS6.out.cell (o := 2) rfl; have q3 := HS6.out.cell (o := 3) rfl; have r0 := HX6.out.cell (o := 0) rfl; have r1 := HX6.out.cell (o := 1) rfl; have r2 := HX6.out.cell (o := 2) rfl; have r3 := HX6.out.cell (o := 3) rfl; have t0 := HY6.out.cell (o := 0) rfl; have t1 := HY6.out.cell (o := 1) rfl; have t2 := HY6.out.cell (o := 2) rfl; have t3 := HY6.out.cell (o := 3) rfl; have o0 := HO6.out.cell (o := 0) rfl; have o1 := HO6.out.cell (o := 1) rfl; have o2 := HO6.out.cell (o := 2) rfl; have o3 := HO6.out.cell (o := 3) rfl; have m0 := HA6.out.lt; have m1 := HS6.out.lt; have m2 := HX6.out.lt; have m3 := HY6.out.lt; have m4 := HO6.out.lt))
  go_ret
  exact ⟨rfl, ((HB3.out.alloc _).trans HF.out).alloc _⟩
theorem walk (s : Q) (hs : s.ok) (i : Int) (_ : (Lit.int .i64 i).wf = true) (w : World) : Calls Try.prog 4 #[sv s, .int .i64 i] w fun e w' => e = .returned (.bool true) ∧ But No w w' := by
  by_cases h : 0 ≤ i ∧ i < 256
  · obtain ⟨n, rfl⟩ : ∃ n : Nat, i = n := ⟨i.toNat, by omega⟩
    exact walk_yes s hs n (by omega) w
  · exact walk_no s i (by omega) w
end Go.Proofs.Ytgocjgipigjhbaa.bitsTurns
