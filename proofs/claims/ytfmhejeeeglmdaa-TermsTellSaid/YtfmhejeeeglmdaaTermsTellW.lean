/- The walk of TermsTell. -/
import Derived.Test.YtfmhejeeeglmdaaE
import Derived.Test.YtfmhejeeeglmdaaTeR3
namespace Go.Proofs.Ytfmhejeeeglmdaa
open Go.ChangeShapes Go.WideShapes Go.ChangeAt Go.RowKit Go.Deep val ter
namespace termsTell
set_option maxRecDepth 100000 in
set_option maxHeartbeats 8000000 in
theorem walk (s : Sys) (A : Option Addr) (c : Nat) (B : Option Addr) (m d : Nat) (wh : List Int) (_ : m ≤ d) (task : Int) (_ : (Lit.int .i64 task).wf = true) (k : Int) (_ : (Lit.int .i64 k).wf = true) (core : Int) (hc : (Lit.int .i64 core).wf = true) (res : Int) (hr : (Lit.int .i64 res).wf = true) (w0 : World) (h : RSys w0 A s.ts.length c s) (hz : Rd w0 B m wh) :
    Calls Try.prog 3 #[sysV s A s.ts.length c, .slice B m d, .int .i64 task, .int .i64 k, .int .i64 core, .int .i64 res] w0 fun e w' => e = .returned (.bool true) ∧ But No w0 w' := by
  obtain ⟨n, hn⟩ : ∃ n, s.ts.length = n := ⟨_, rfl⟩
  rw [hn] at h ⊢
  have CX : Hid (∀ W, Calls Try.prog 7 #[] W fun e w' => e = .returned (.bool true) ∧ But No W w') := examples_ok
  have HH := Lib.hid h
  have HZ := Lib.hid hz
  clear hn h hz
  unfold sysV
  go_enter Try.func3, Try.ntmps3
  have HX : Hid (Blk (w0.alloc (.cells #[.int .i64 s.co, .int .i64 s.po, .int .i64 s.pr, .int .i64 s.re, .int .i64 s.sw, .int .i64 s.fi, .int .i64 s.la, .int .i64 s.rs, .slice A n c] 24)) w0.heap.size (boxS s A n c) 24) := Blk.new w0 _ _
  go_upto_region 2 with (go_at_call 7; (with_reducible refine (CX.out _).mono ?_); rintro e w ⟨rfl, hb1⟩; have HB1 := Lib.hid (((But.refl No w0).alloc _).trans hb1); have HX1 := Lib.hid (HX.out.but hb1 (fun f => f)); clear hb1)
  generalize w0.heap.size = bx at HX1 ⊢
  have h := HH.out.no HB1.out
  have hz := HZ.out.no HB1.out
  have C8 : Hid (∀ W, But No w W → Calls Try.prog 8 #[.agg #[.int .i64 s.co, .int .i64 s.po, .int .i64 s.pr, .int .i64 s.re, .int .i64 s.sw, .int .i64 s.fi, .int .i64 s.la, .int .i64 s.rs, .slice A n c], .slice B m d, .int .i64 core, .int .i64 res] W fun e w' => e = .returned (.int .i64 (longV s wh core res)) ∧ But No w w') := Lib.hid (fun W hb => (longest_any s A n c B m d wh core res W (h.no hb) (hz.no hb) (inR_of hc) (inR_of hr)).mono (fun e w' ⟨h1, h2⟩ => ⟨h1, hb.trans h2⟩))
  have C9 : Hid (∀ W, But No w W → Calls Try.prog 9 #[.agg #[.int .i64 s.co, .int .i64 s.po, .int .i64 s.pr, .int .i64 s.re, .int .i64 s.sw, .int .i64 s.fi, .int .i64 s.la, .int .i64 s.rs, .slice A n c], .slice B m d, .int .i64 core, .int .i64 res] W fun e w' => e = .returned (.int .i64 (longV s wh core res)) ∧ But No w w') := Lib.hid (fun W hb => (dlongest_any s A n c B m d wh core res W (h.no hb) (hz.no hb)).mono (fun e w' ⟨h1, h2⟩ => ⟨h1, hb.trans h2⟩))
  have C10 : Hid (∀ W, But No w W → Calls Try.prog 10 #[.agg #[.int .i64 s.co, .int .i64 s.po, .int .i64 s.pr, .int .i64 s.re, .int .i64 s.sw, .int .i64 s.fi, .int .i64 s.la, .int .i64 s.rs, .slice A n c], .slice B m d, .int .i64 task, .int .i64 k] W fun e w' => e = .returned (.int .i64 (waitV s wh task k)) ∧ But No w w') := Lib.hid (fun W hb => (waits_any s A n c B m d wh task k W (h.no hb) (hz.no hb)).mono (fun e w' ⟨h1, h2⟩ => ⟨h1, hb.trans h2⟩))
  have C11 : Hid (∀ W, But No w W → Calls Try.prog 11 #[.agg #[.int .i64 s.co, .int .i64 s.po, .int .i64 s.pr, .int .i64 s.re, .int .i64 s.sw, .int .i64 s.fi, .int .i64 s.la, .int .i64 s.rs, .slice A n c], .slice B m d, .int .i64 task, .int .i64 k] W fun e w' => e = .returned (.int .i64 (waitV s wh task k)) ∧ But No w w') := Lib.hid (fun W hb => (dwait_any s A n c B m d wh task k W (h.no hb) (hz.no hb)).mono (fun e w' ⟨h1, h2⟩ => ⟨h1, hb.trans h2⟩))
  have C12 : Hid (∀ W, But No w W → Calls Try.prog 12 #[.agg #[.int .i64 s.co, .int .i64 s.po, .int .i64 s.pr, .int .i64 s.re, .int .i64 s.sw, .int .i64 s.fi, .int .i64 s.la, .int .i64 s.rs, .slice A n c], .slice B m d, .int .i64 task, .int .i64 k] W fun e w' => e = .returned (.int .i64 (holdV s wh task k)) ∧ But No w w') := Lib.hid (fun W hb => (hold_any s A n c B m d wh task k W (h.no hb) (hz.no hb)).mono (fun e w' ⟨h1, h2⟩ => ⟨h1, hb.trans h2⟩))
  have C13 : Hid (∀ W, But No w W → Calls Try.prog 13 #[.agg #[.int .i64 s.co, .int .i64 s.po, .int .i64 s.pr, .int .i64 s.re, .int .i64 s.sw, .int .i64 s.fi, .int .i64 s.la, .int .i64 s.rs, .slice A n c], .slice B m d, .int .i64 task, .int .i64 k] W fun e w' => e = .returned (.int .i64 (holdV s wh task k)) ∧ But No w w') := Lib.hid (fun W hb => (dhold_any s A n c B m d wh task k W (h.no hb) (hz.no hb)).mono (fun e w' ⟨h1, h2⟩ => ⟨h1, hb.trans h2⟩))
  have C14 : Hid (∀ W, But No w W → Calls Try.prog 14 #[.agg #[.int .i64 s.co, .int .i64 s.po, .int .i64 s.pr, .int .i64 s.re, .int .i64 s.sw, .int .i64 s.fi, .int .i64 s.la, .int .i64 s.rs, .slice A n c], .slice B m d, .int .i64 task] W fun e w' => e = .returned (.int .i64 (extraV s wh task)) ∧ But No w w') := Lib.hid (fun W hb => (extra_any s A n c B m d wh task W (h.no hb) (hz.no hb)).mono (fun e w' ⟨h1, h2⟩ => ⟨h1, hb.trans h2⟩))
  have C15 : Hid (∀ W, But No w W → Calls Try.prog 15 #[.agg #[.int .i64 s.co, .int .i64 s.po, .int .i64 s.pr, .int .i64 s.re, .int .i64 s.sw, .int .i64 s.fi, .int .i64 s.la, .int .i64 s.rs, .slice A n c], .slice B m d, .int .i64 task] W fun e w' => e = .returned (.int .i64 (extraV s wh task)) ∧ But No w w') := Lib.hid (fun W hb => (dextra_any s A n c B m d wh task W (h.no hb) (hz.no hb)).mono (fun e w' ⟨h1, h2⟩ => ⟨h1, hb.trans h2⟩))
  have C16 : Hid (∀ W, But No w W → Calls Try.prog 16 #[.agg #[.int .i64 s.co, .int .i64 s.po, .int .i64 s.pr, .int .i64 s.re, .int .i64 s.sw, .int .i64 s.fi, .int .i64 s.la, .int .i64 s.rs, .slice A n c], .int .i64 task] W fun e w' => e = .returned (.bool (usesV s task)) ∧ But No w w') := Lib.hid (fun W hb => (uses_any s A n c task W (h.no hb)).mono (fun e w' ⟨h1, h2⟩ => ⟨h1, hb.trans h2⟩))
  have C17 : Hid (∀ W, But No w W → Calls Try.prog 17 #[.agg #[.int .i64 s.co, .int .i64 s.po, .int .i64 s.pr, .int .i64 s.re, .int .i64 s.sw, .int .i64 s.fi, .int .i64 s.la, .int .i64 s.rs, .slice A n c], .int .i64 task] W fun e w' => e = .returned (.bool (usesV s task)) ∧ But No w w') := Lib.hid (fun W hb => (duses_any s A n c task W (h.no hb)).mono (fun e w' ⟨h1, h2⟩ => ⟨h1, hb.trans h2⟩))
  have KEEP : Hid (∀ w', But No w w' → (w'.cell? ⟨bx, 0, none⟩ = some (.int .i64 s.co) ∧ w'.cell? ⟨bx, 1, none⟩ = some (.int .i64 s.po) ∧ w'.cell? ⟨bx, 2, none⟩ = some (.int .i64 s.pr) ∧ w'.cell? ⟨bx, 3, none⟩ = some (.int .i64 s.re) ∧ w'.cell? ⟨bx, 4, none⟩ = some (.int .i64 s.sw) ∧ w'.cell? ⟨bx, 5, none⟩ = some (.int .i64 s.fi) ∧ w'.cell? ⟨bx, 6, none⟩ = some (.int .i64 s.la) ∧ w'.cell? ⟨bx, 7, none⟩ = some (.int .i64 s.rs) ∧ w'.cell? ⟨bx, 8, none⟩ = some (.slice A n c)) ∧ But No w w') := Lib.hid (fun w' hb => by
    obtain ⟨d0, d1, d2, d3, d4, d5, d6, d7, d8⟩ := sys_cells (HX1.out.but hb (fun f => f))
    exact ⟨⟨d0, d1, d2, d3, d4, d5, d6, d7, d8⟩, hb⟩)
  clear h hz HH HZ CX HX
  generalize longV s wh core res = v1 at C8 C9
  generalize waitV s wh task k = v2 at C10 C11
  generalize holdV s wh task k = v3 at C12 C13
  generalize extraV s wh task = v4 at C14 C15
  generalize usesV s task = v5 at C16 C17
  have q1 : (v1 == v1) = true := by simp
  have q2 : (v2 == v2) = true := by simp
  have q3 : (v3 == v3) = true := by simp
  have q4 : (v4 == v4) = true := by simp
  have q5 : (v5 == v5) = true := by simp
  go_region_held3 (fun w' => (w'.cell? ⟨bx, 0, none⟩ = some (.int .i64 s.co) ∧ w'.cell? ⟨bx, 1, none⟩ = some (.int .i64 s.po) ∧ w'.cell? ⟨bx, 2, none⟩ = some (.int .i64 s.pr) ∧ w'.cell? ⟨bx, 3, none⟩ = some (.int .i64 s.re) ∧ w'.cell? ⟨bx, 4, none⟩ = some (.int .i64 s.sw) ∧ w'.cell? ⟨bx, 5, none⟩ = some (.int .i64 s.fi) ∧ w'.cell? ⟨bx, 6, none⟩ = some (.int .i64 s.la) ∧ w'.cell? ⟨bx, 7, none⟩ = some (.int .i64 s.rs) ∧ w'.cell? ⟨bx, 8, none⟩ = some (.slice A n c)) ∧ But No w w')
    (first | exact KEEP.out _ (But.refl No w).drew | exact KEEP.out _ g8 | exact KEEP.out _ g9)
    (first | (go_at_call 8; ((with_reducible refine (C8.out _ (But.refl No w).drew).mono ?_); rintro e w8 ⟨rfl, g8⟩)) | (go_at_call 9; ((with_reducible refine (C9.out _ g8).mono ?_); rintro e w9 ⟨rfl, g9⟩)))
  rename_i hHeld
  clear hHeld
  have G9 := Lib.hid g9
  clear g8 g9 C8 C9
  go_upto_region 3 with fail
  go_region_held3 (fun w' => (w'.cell? ⟨bx, 0, none⟩ = some (.int .i64 s.co) ∧ w'.cell? ⟨bx, 1, none⟩ = some (.int .i64 s.po) ∧ w'.cell? ⟨bx, 2, none⟩ = some (.int .i64 s.pr) ∧ w'.cell? ⟨bx, 3, none⟩ = some (.int .i64 s.re) ∧ w'.cell? ⟨bx, 4, none⟩ = some (.int .i64 s.sw) ∧ w'.cell? ⟨bx, 5, none⟩ = some (.int .i64 s.fi) ∧ w'.cell? ⟨bx, 6, none⟩ = some (.int .i64 s.la) ∧ w'.cell? ⟨bx, 7, none⟩ = some (.int .i64 s.rs) ∧ w'.cell? ⟨bx, 8, none⟩ = some (.slice A n c)) ∧ But No w w')
    (first | exact KEEP.out _ G9.out.drew | exact KEEP.out _ g10 | exact KEEP.out _ g11)
    (first | (go_at_call 10; ((with_reducible refine (C10.out _ G9.out.drew).mono ?_); rintro e w10 ⟨rfl, g10⟩)) | (go_at_call 11; ((with_reducible refine (C11.out _ g10).mono ?_); rintro e w11 ⟨rfl, g11⟩)))
  rename_i hHeld
  clear hHeld
  have G11 := Lib.hid g11
  clear g10 g11 C10 C11
  go_upto_region 4 with fail
  go_region_held3 (fun w' => (w'.cell? ⟨bx, 0, none⟩ = some (.int .i64 s.co) ∧ w'.cell? ⟨bx, 1, none⟩ = some (.int .i64 s.po) ∧ w'.cell? ⟨bx, 2, none⟩ = some (.int .i64 s.pr) ∧ w'.cell? ⟨bx, 3, none⟩ = some (.int .i64 s.re) ∧ w'.cell? ⟨bx, 4, none⟩ = some (.int .i64 s.sw) ∧ w'.cell? ⟨bx, 5, none⟩ = some (.int .i64 s.fi) ∧ w'.cell? ⟨bx, 6, none⟩ = some (.int .i64 s.la) ∧ w'.cell? ⟨bx, 7, none⟩ = some (.int .i64 s.rs) ∧ w'.cell? ⟨bx, 8, none⟩ = some (.slice A n c)) ∧ But No w w')
    (first | exact KEEP.out _ G11.out.drew | exact KEEP.out _ g12 | exact KEEP.out _ g13)
    (first | (go_at_call 12; ((with_reducible refine (C12.out _ G11.out.drew).mono ?_); rintro e w12 ⟨rfl, g12⟩)) | (go_at_call 13; ((with_reducible refine (C13.out _ g12).mono ?_); rintro e w13 ⟨rfl, g13⟩)))
  rename_i hHeld
  clear hHeld
  have G13 := Lib.hid g13
  clear g12 g13 C12 C13
  go_upto_region 5 with fail
  go_region_held3 (fun w' => (w'.cell? ⟨bx, 0, none⟩ = some (.int .i64 s.co) ∧ w'.cell? ⟨bx, 1, none⟩ = some (.int .i64 s.po) ∧ w'.cell? ⟨bx, 2, none⟩ = some (.int .i64 s.pr) ∧ w'.cell? ⟨bx, 3, none⟩ = some (.int .i64 s.re) ∧ w'.cell? ⟨bx, 4, none⟩ = some (.int .i64 s.sw) ∧ w'.cell? ⟨bx, 5, none⟩ = some (.int .i64 s.fi) ∧ w'.cell? ⟨bx, 6, none⟩ = some (.int .i64 s.la) ∧ w'.cell? ⟨bx, 7, none⟩ = some (.int .i64 s.rs) ∧ w'.cell? ⟨bx, 8, none⟩ = some (.slice A n c)) ∧ But No w w')
    (first | exact KEEP.out _ G13.out.drew | exact KEEP.out _ g14 | exact KEEP.out _ g15)
    (first | (go_at_call 14; ((with_reducible refine (C14.out _ G13.out.drew).mono ?_); rintro e w14 ⟨rfl, g14⟩)) | (go_at_call 15; ((with_reducible refine (C15.out _ g14).mono ?_); rintro e w15 ⟨rfl, g15⟩)))
  rename_i hHeld
  clear hHeld
  have G15 := Lib.hid g15
  clear g14 g15 C14 C15
  go_upto_region 6 with fail
  go_region_held3 (fun w' => (w'.cell? ⟨bx, 0, none⟩ = some (.int .i64 s.co) ∧ w'.cell? ⟨bx, 1, none⟩ = some (.int .i64 s.po) ∧ w'.cell? ⟨bx, 2, none⟩ = some (.int .i64 s.pr) ∧ w'.cell? ⟨bx, 3, none⟩ = some (.int .i64 s.re) ∧ w'.cell? ⟨bx, 4, none⟩ = some (.int .i64 s.sw) ∧ w'.cell? ⟨bx, 5, none⟩ = some (.int .i64 s.fi) ∧ w'.cell? ⟨bx, 6, none⟩ = some (.int .i64 s.la) ∧ w'.cell? ⟨bx, 7, none⟩ = some (.int .i64 s.rs) ∧ w'.cell? ⟨bx, 8, none⟩ = some (.slice A n c)) ∧ But No w w')
    (first | exact KEEP.out _ G15.out.drew | exact KEEP.out _ g16 | exact KEEP.out _ g17)
    (first | (go_at_call 16; ((with_reducible refine (C16.out _ G15.out.drew).mono ?_); rintro e w16 ⟨rfl, g16⟩)) | (go_at_call 17; ((with_reducible refine (C17.out _ g16).mono ?_); rintro e w17 ⟨rfl, g17⟩)))
  rename_i hHeld
  clear hHeld
  have G17 := Lib.hid g17
  clear g16 g17 C16 C17
  go_wp2
  go_ret
  exact ⟨rfl, HB1.out.trans G17.out⟩
end termsTell
end Go.Proofs.Ytfmhejeeeglmdaa
