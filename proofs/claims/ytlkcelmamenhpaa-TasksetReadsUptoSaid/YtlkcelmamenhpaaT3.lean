/- The contract of Encode. -/
import Derived.Test.YtlkcelmamenhpaaT2
namespace Go.Proofs.Ytlkcelmamenhpaa
open Go.ChangeShapes Go.WideShapes Go.ChangeAt Go.RowKit Go.Deep
theorem sys_cells {s : Sys} {A : Option Addr} {n c : Nat} {w : World} {b : Nat} (h : Blk w b (boxS s A n c) 24) : w.cell? ⟨b, 0, none⟩ = some (.int .i64 s.co) ∧ w.cell? ⟨b, 1, none⟩ = some (.int .i64 s.po) ∧ w.cell? ⟨b, 2, none⟩ = some (.int .i64 s.pr) ∧ w.cell? ⟨b, 3, none⟩ = some (.int .i64 s.re) ∧ w.cell? ⟨b, 4, none⟩ = some (.int .i64 s.sw) ∧ w.cell? ⟨b, 5, none⟩ = some (.int .i64 s.fi) ∧ w.cell? ⟨b, 6, none⟩ = some (.int .i64 s.la) ∧ w.cell? ⟨b, 7, none⟩ = some (.int .i64 s.rs) ∧ w.cell? ⟨b, 8, none⟩ = some (.slice A n c) :=
  ⟨h.cell rfl, h.cell rfl, h.cell rfl, h.cell rfl, h.cell rfl, h.cell rfl, h.cell rfl, h.cell rfl, h.cell rfl⟩
def eErr (s : Sys) : Nat := if tooL s = true then 7 else wErr (nums s)
def eOut (s : Sys) : List Nat := if eErr s = 0 then sOut (wOut (nums s)) else []
theorem eErr_cases (s : Sys) : eErr s = 0 ∨ eErr s = 1 ∨ eErr s = 7 := by
  unfold eErr
  by_cases h : tooL s = true
  · rw [if_pos h]; exact .inr (.inr rfl)
  · rw [if_neg h]; exact wErr_cases _
theorem eErr_zero {s : Sys} (h : eErr s = 0) : Fit s ∧ wErr (nums s) = 0 ∧ (nums s).length ≤ 394 := by
  unfold eErr at h
  by_cases hl : tooL s = true
  · rw [if_pos hl] at h; cases h
  · rw [if_neg hl] at h
    obtain ⟨h1, h2⟩ := tooL_no.1 (by simpa using hl)
    exact ⟨⟨h1, h2, fun z hz => ((wErr_zero h).2 z hz).1⟩, h, nums_len h1 h2⟩
set_option maxRecDepth 100000 in
set_option maxHeartbeats 1000000 in
theorem encode_any (s : Sys) (A : Option Addr) (n c : Nat) (w : World) (h : RSys w A n c s) : Calls Try.prog 9 #[sysV s A n c] w (RetStr w (eErr s) (eOut s)) := by
  have HR := Lib.hid h
  have CL : ∀ W, Hid (But No w W) → Hid (Calls Try.prog 19 #[sysV s A n c] W fun e w' => e = .returned (.bool (tooL s)) ∧ But No W w') := fun W hb => tooLong_any s A n c W (h.no hb)
  clear h
  by_cases hl : tooL s = true
  · have HE : Hid (eErr s = 7 ∧ eOut s = []) := by
      have : eErr s = 7 := by unfold eErr; rw [if_pos hl]
      exact ⟨this, by unfold eOut; rw [this]; rfl⟩
    rw [hl] at CL
    unfold sysV at CL ⊢
    go_enter Try.func9, Try.ntmps9
    go_wp2_with (go_at_call 19; refine (CL _ ((But.refl _ _).alloc _)).out.mono ?_; rintro e w1 ⟨rfl, hb1⟩; have HB1 := Lib.hid (((But.refl No w).alloc _).trans hb1); clear hb1)
    go_ret2
    exact ⟨⟨#[]⟩, retse (by rw [HE.out.1]; rfl), by rw [HE.out.2]; rfl, HB1.out⟩
  · have hlf : tooL s = false := by simpa using hl
    obtain ⟨h24, h4⟩ := tooL_no.1 hlf
    have hlen := nums_len h24 h4
    have CN : ∀ W, Hid (But No w W) → Hid (Calls Try.prog 20 #[sysV s A n c] W (RetZ W (nums s))) := fun W hb => numbers_any s A n c W (HR.out.no hb) (by omega)
    have HE : Hid (eErr s = wErr (nums s)) := by show _ = _; unfold eErr; rw [if_neg hl]
    rw [hlf] at CL
    have hol := wOut_len (nums s)
    obtain ⟨u, hu⟩ : ∃ u, nl u = wOut (nums s) := ⟨_, nl_bl (wOut_lt _)⟩
    have hus : u.size ≤ 100000 := by rw [← nl_len, hu]; omega
    obtain ⟨E, hE⟩ : ∃ E, wErr (nums s) = E := ⟨_, rfl⟩
    have CW : Hid (∀ (W : World) (A : Option Addr) (n c : Nat), Rl W A n (nums s) → Calls Try.prog 17 #[.slice A n c] W fun e w' => e = .returned (.tuple #[.string u, .int .i64 (E : Int)]) ∧ But No W w') := fun W A n c hz => write_to hu hE W hz
    have CS : Hid (∀ W : World, Calls Try.prog 18 #[.string u] W (RetStr W 0 (sOut (wOut (nums s))))) := fun W => by
      have := seal_any u W (by omega)
      rw [hu] at this
      have e1 : sErr (wOut (nums s)) = 0 := by unfold sErr; rw [if_neg (by omega)]
      have e2 : sAns (wOut (nums s)) = sOut (wOut (nums s)) := by unfold sAns; rw [if_neg (by omega)]
      rw [e1, e2] at this
      exact this
    rw [hE] at HE
    have HLEN := Lib.hid hlen
    clear hl hlf h24 h4 hlen hol hu hE
    unfold sysV at CL CN ⊢
    by_cases he : E = 0
    · subst he
      go_enter Try.func9, Try.ntmps9
      have HX : Hid (Blk (w.alloc (.cells #[.int .i64 s.co, .int .i64 s.po, .int .i64 s.pr, .int .i64 s.re, .int .i64 s.sw, .int .i64 s.fi, .int .i64 s.la, .int .i64 s.rs, .slice A n c] 24)) w.heap.size (boxS s A n c) 24) := Blk.new w _ _
      go_wp2_with (first | (go_at_call 19; refine (CL _ ((But.refl _ _).alloc _)).out.mono ?_; rintro e w1 ⟨rfl, hb1⟩; have HB1 := Lib.hid (((But.refl No w).alloc _).trans hb1); have hx := HX.out.but hb1 (fun f => f); clear hb1; obtain ⟨d0, d1, d2, d3, d4, d5, d6, d7, d8⟩ := sys_cells hx; clear hx) | (go_at_call 20; refine (CN _ HB1).out.mono ?_; rintro e w2 ⟨A2, n2, c2, rfl, hn2, ho2⟩; have HR2 := Lib.hid (ho2.rl (by have := HLEN.out; omega)); have HB2 := Lib.hid (HB1.out.trans ho2.but); clear hn2 ho2) | (go_at_call 17; refine (CW.out _ _ _ _ HR2.out).mono ?_; rintro e w3 ⟨rfl, hb3⟩; have HB3 := Lib.hid (HB2.out.trans hb3); clear hb3) | (go_at_call 18; refine (CS.out _).mono ?_; rintro e w4 ⟨t, rfl, ht, hb4⟩; have HB4 := Lib.hid (HB3.out.trans hb4); have HTT := Lib.hid ht; clear ht hb4))
      go_ret2
      exact ⟨t, retse (by rw [HE.out]; rfl), by unfold eOut; rw [HE.out, if_pos rfl]; exact HTT.out, HB4.out⟩
    · have hne : ((E : Int) != 0) = true := by rw [bne_iff_ne]; omega
      go_enter Try.func9, Try.ntmps9
      have HX : Hid (Blk (w.alloc (.cells #[.int .i64 s.co, .int .i64 s.po, .int .i64 s.pr, .int .i64 s.re, .int .i64 s.sw, .int .i64 s.fi, .int .i64 s.la, .int .i64 s.rs, .slice A n c] 24)) w.heap.size (boxS s A n c) 24) := Blk.new w _ _
      go_wp2_with (first | (go_at_call 19; refine (CL _ ((But.refl _ _).alloc _)).out.mono ?_; rintro e w1 ⟨rfl, hb1⟩; have HB1 := Lib.hid (((But.refl No w).alloc _).trans hb1); have hx := HX.out.but hb1 (fun f => f); clear hb1; obtain ⟨d0, d1, d2, d3, d4, d5, d6, d7, d8⟩ := sys_cells hx; clear hx) | (go_at_call 20; refine (CN _ HB1).out.mono ?_; rintro e w2 ⟨A2, n2, c2, rfl, hn2, ho2⟩; have HR2 := Lib.hid (ho2.rl (by have := HLEN.out; omega)); have HB2 := Lib.hid (HB1.out.trans ho2.but); clear hn2 ho2) | (go_at_call 17; refine (CW.out _ _ _ _ HR2.out).mono ?_; rintro e w3 ⟨rfl, hb3⟩; have HB3 := Lib.hid (HB2.out.trans hb3); clear hb3))
      go_ret2
      exact ⟨⟨#[]⟩, retse (by rw [HE.out]), by unfold eOut; rw [HE.out, if_neg he]; rfl, HB3.out⟩
end Go.Proofs.Ytlkcelmamenhpaa
