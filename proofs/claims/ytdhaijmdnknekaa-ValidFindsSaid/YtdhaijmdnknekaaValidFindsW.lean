/- The walk of ValidFinds. -/
import Derived.Test.YtdhaijmdnknekaaE
import Derived.Test.YtdhaijmdnknekaaR
namespace Go.Proofs.Ytdhaijmdnknekaa
open Go.ChangeShapes Go.WideShapes Go.ChangeAt Go.RowKit Go.Deep
namespace validFinds
theorem parts (s : Sys) : ((vFind s).1 = true ∧ fE s = 10 ∧ right s = false) ∨ ((vFind s).1 = false ∧ fE s = 0 ∧ right s = true) := by
  rw [right_find]
  unfold fE
  cases (vFind s).1 with
  | true => exact .inl ⟨rfl, rfl, rfl⟩
  | false => exact .inr ⟨rfl, rfl, rfl⟩
set_option maxRecDepth 100000 in
set_option maxHeartbeats 2000000 in
theorem walk1 (s : Sys) (A : Option Addr) (n c : Nat) (w : World) (h : RSys w A n c s) (e0 : Int) (bd rt : Bool) (hrt : rt = !bd) (hbe : (bd = true ∧ e0 = 10) ∨ (bd = false ∧ e0 = 0)) (h1 : (vFind s).1 = bd) (h2 : (fE s : Int) = e0) (h3 : right s = rt) : Calls Try.prog 3 #[sysV s A n c] w fun e w' => e = .returned (.bool true) ∧ But No w w' := by
  have CX : ∀ W, Hid (Calls Try.prog 7 #[] W fun e w' => e = .returned (.bool true) ∧ But No W w') := fun W => examples_any W
  have CE : Hid (∀ W, But No w W → Calls Try.prog 8 #[sysV s A n c] W fun e w' => e = .returned (.agg #[.int .i64 (fE s : Int), .int .i64 (vFind s).2.1, .int .i64 (vFind s).2.2]) ∧ But No W w') := fun W hb => check_any s A n c W (h.no hb)
  have CR : Hid (∀ W, But No w W → Calls Try.prog 9 #[sysV s A n c] W fun e w' => e = .returned (.tuple #[.bool (vFind s).1, .int .i64 (vFind s).2.1, .int .i64 (vFind s).2.2]) ∧ But No W w') := fun W hb => dcheck_any s A n c W (h.no hb)
  have CT : Hid (∀ W, But No w W → Calls Try.prog 10 #[sysV s A n c] W fun e w' => e = .returned (.bool (right s)) ∧ But No W w') := fun W hb => right_any s A n c W (h.no hb)
  rw [h1] at CR
  rw [h2] at CE
  rw [h3] at CT
  generalize (vFind s).2.1 = f1, (vFind s).2.2 = f2 at CE CR
  clear h1 h2 h3 h
  unfold sysV at CE CR CT ⊢
  go_enter Try.func3, Try.ntmps3
  have HX : Hid (Blk (w.alloc (.cells #[.int .i64 s.co, .int .i64 s.po, .int .i64 s.pr, .int .i64 s.re, .int .i64 s.sw, .int .i64 s.fi, .int .i64 s.la, .int .i64 s.rs, .slice A n c] 24)) w.heap.size (boxS s A n c) 24) := Blk.new w _ _
  go_upto_region 3 with (first | (go_at_call 7; refine (CX _).out.mono ?_; rintro e w1 ⟨rfl, hb1⟩; have HB1 := Lib.hid (((But.refl No w).alloc _).trans hb1); have HX1 := Lib.hid (HX.out.but hb1 (fun f => f)); clear hb1; obtain ⟨d0, d1, d2, d3, d4, d5, d6, d7, d8⟩ := sys_cells HX1.out) | (go_at_call 8; refine (CE.out _ HB1.out).mono ?_; rintro e w2 ⟨rfl, hb2⟩; have HB2 := Lib.hid (HB1.out.trans hb2); have HX2 := Lib.hid (HX1.out.but hb2 (fun f => f)); clear hb2 d0 d1 d2 d3 d4 d5 d6 d7 d8))
  obtain ⟨bf, hbf⟩ : ∃ bf, w2.heap.size = bf := ⟨_, rfl⟩
  obtain ⟨bs, hbs⟩ : ∃ bs, w.heap.size = bs := ⟨_, rfl⟩
  obtain ⟨wa, hwa, HFa, HXa, HBa⟩ : ∃ wa, w2.alloc (.cells #[.int .i64 e0, .int .i64 f1, .int .i64 f2] 28) = wa ∧ Hid (Blk wa bf #[.int .i64 e0, .int .i64 f1, .int .i64 f2] 28) ∧ Hid (Blk wa bs (boxS s A n c) 24) ∧ Hid (But No w wa) := by
    subst hbf hbs
    exact ⟨_, rfl, Blk.new _ _ _, HX2.out.alloc _, HB2.out.alloc _⟩
  rw [hwa, hbf, hbs]
  clear hwa hbf hbs HX HX1 HX2 HB1 HB2
  clear w1 w2
  obtain ⟨d0, d1, d2, d3, d4, d5, d6, d7, d8⟩ := sys_cells HXa.out
  go_upto_region 4 with (go_at_call 9; refine (CR.out _ HBa.out).mono ?_; rintro e w3 ⟨rfl, hb3⟩; have HB3 := Lib.hid (HBa.out.trans hb3); have HX3 := Lib.hid (HXa.out.but hb3 (fun f => f)); have HF3 := Lib.hid (HFa.out.but hb3 (fun f => f)); clear hb3 d0 d1 d2 d3 d4 d5 d6 d7 d8)
  have HB4 := Lib.hid (HB3.out.alloc (.cells #[.int .i64 e0, .int .i64 f1, .int .i64 f2] 28))
  obtain ⟨d0, d1, d2, d3, d4, d5, d6, d7, d8⟩ := sys_cells (HX3.out.alloc (.cells #[.int .i64 e0, .int .i64 f1, .int .i64 f2] 28))
  obtain ⟨a0, a1, a2⟩ := fin_cells (HF3.out.alloc (.cells #[.int .i64 e0, .int .i64 f1, .int .i64 f2] 28))
  subst hrt
  rcases hbe with ⟨rfl, rfl⟩ | ⟨rfl, rfl⟩
  all_goals go_wp2_with (go_at_call 10; refine (CT.out _ HB4.out).mono ?_; rintro e w5 ⟨rfl, hb5⟩; have HB5 := Lib.hid (HB4.out.trans hb5); clear hb5)
  all_goals go_ret
  all_goals exact ⟨rfl, HB5.out⟩
theorem walk (s : Sys) (A : Option Addr) (c : Nat) (w : World) (h : RSys w A s.ts.length c s) : Calls Try.prog 3 #[sysV s A s.ts.length c] w fun e w' => e = .returned (.bool true) ∧ But No w w' := by
  rcases parts s with ⟨h1, h2, h3⟩ | ⟨h1, h2, h3⟩
  · exact walk1 s A _ c w h 10 true false rfl (.inl ⟨rfl, rfl⟩) h1 (by rw [h2]; rfl) h3
  · exact walk1 s A _ c w h 0 false true rfl (.inr ⟨rfl, rfl⟩) h1 (by rw [h2]; rfl) h3
end validFinds
end Go.Proofs.Ytdhaijmdnknekaa
