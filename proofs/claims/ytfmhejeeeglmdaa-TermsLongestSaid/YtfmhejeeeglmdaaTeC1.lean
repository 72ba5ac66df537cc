/- The contracts of coreOf and wait. -/
import Derived.Test.YtfmhejeeeglmdaaTeM
import Derived.Test.YtfmhejeeeglmdaaSy
import Derived.Test.YtfmhejeeeglmdaaKy2
import Derived.Test.YtfmhejeeeglmdaaV0
import Derived.WalkMore
namespace Go.Proofs.Ytfmhejeeeglmdaa.ter
open Go.ChangeShapes Go.WideShapes Go.ChangeAt Go.RowKit Go.Deep
theorem _root_.Go.Proofs.Ytfmhejeeeglmdaa.Rd.at1 {w : World} {A : Option Addr} {n : Nat} {zs : List Int} (h : Rd w A n zs) {k : Nat} (hk : k < n) : ∃ b off, A = some ⟨b, off, none⟩ ∧ b < w.heap.size ∧ w.cell? ⟨b, off + k, none⟩ = some (.int .i64 (zs.getD k 0)) := by
  obtain ⟨b, off, e, hl, hc⟩ := h.at_ (by omega)
  exact ⟨b, off, e, hl, hc k hk⟩
theorem cell_alloc {w : World} {b o : Nat} {v : Value} (h : w.cell? ⟨b, o, none⟩ = some v) (x : Obj) : (w.alloc x).cell? ⟨b, o, none⟩ = some v := cell_keep h ((But.refl No w).alloc x)
set_option maxRecDepth 100000 in
set_option maxHeartbeats 4000000 in
theorem coreOf_any (s : Sys) (A : Option Addr) (n c : Nat) (B : Option Addr) (m d : Nat) (wh : List Int) (i : Nat) (w : World) (hz : Rd w B m wh) : Calls Try.prog 25 #[sysV s A n c, .slice B m d, .int .i64 i] w fun e w' => e = .returned (.int .i64 (cr s.co wh i)) ∧ But No w w' := by
  have HL := Lib.hid hz.len
  have hi0 : (0:Int) ≤ (i:Int) := Int.natCast_nonneg i
  by_cases h1 : i < m
  · obtain ⟨b, off, rfl, hl, hc⟩ := hz.at1 h1
    clear hz
    have him : (i:Int) < (m:Int) := by omega
    have e1 : decide (m ≤ i) = false := by simp; omega
    have hc2 := cell_alloc hc (.cells #[.int .i64 s.co, .int .i64 s.po, .int .i64 s.pr, .int .i64 s.re, .int .i64 s.sw, .int .i64 s.fi, .int .i64 s.la, .int .i64 s.rs, .slice A n c] 24)
    have HC : Hid (cr s.co wh i = if 0 ≤ wh.getD i 0 ∧ wh.getD i 0 < s.co then wh.getD i 0 else -1) := Lib.hid (by unfold cr; simp only [HL.out, h1, true_and])
    clear hc hl
    generalize wh.getD i 0 = z at hc2 HC
    by_cases h2 : z < 0
    · have e2 : decide (z < 0) = true := by simp [h2]
      have HC2 := Lib.hid (HC.out.trans (if_neg (by omega)))
      clear HC
      unfold sysV
      go_enter Try.func25, Try.ntmps25
      go_wp2_with fail
      have hb0 : But No w (w.alloc (.cells #[.int .i64 s.co, .int .i64 s.po, .int .i64 s.pr, .int .i64 s.re, .int .i64 s.sw, .int .i64 s.fi, .int .i64 s.la, .int .i64 s.rs, .slice A n c] 24)) := (But.refl No w).alloc _
      have hs0 : (w.alloc (.cells #[.int .i64 s.co, .int .i64 s.po, .int .i64 s.pr, .int .i64 s.re, .int .i64 s.sw, .int .i64 s.fi, .int .i64 s.la, .int .i64 s.rs, .slice A n c] 24)).cell? ⟨w.heap.size, 0, none⟩ = some (.int .i64 s.co) := (Blk.new w _ _).cell rfl
      generalize w.alloc (.cells #[.int .i64 s.co, .int .i64 s.po, .int .i64 s.pr, .int .i64 s.re, .int .i64 s.sw, .int .i64 s.fi, .int .i64 s.la, .int .i64 s.rs, .slice A n c] 24) = W at *
      generalize w.heap.size = b0 at *
      have HB := Lib.hid hb0
      clear hb0
      go_quiet (fail)
      go_wp2
      go_ret
      exact ⟨ret1 HC2.out.symm, HB.out.drewN _⟩
    · have e2 : decide (z < 0) = false := by simp; omega
      by_cases h3 : s.co ≤ z
      · have e3 : decide (s.co ≤ z) = true := by simp [h3]
        have HC2 := Lib.hid (HC.out.trans (if_neg (by omega)))
        clear HC
        unfold sysV
        go_enter Try.func25, Try.ntmps25
        go_wp2_with fail
        have hb0 : But No w (w.alloc (.cells #[.int .i64 s.co, .int .i64 s.po, .int .i64 s.pr, .int .i64 s.re, .int .i64 s.sw, .int .i64 s.fi, .int .i64 s.la, .int .i64 s.rs, .slice A n c] 24)) := (But.refl No w).alloc _
        have hs0 : (w.alloc (.cells #[.int .i64 s.co, .int .i64 s.po, .int .i64 s.pr, .int .i64 s.re, .int .i64 s.sw, .int .i64 s.fi, .int .i64 s.la, .int .i64 s.rs, .slice A n c] 24)).cell? ⟨w.heap.size, 0, none⟩ = some (.int .i64 s.co) := (Blk.new w _ _).cell rfl
        generalize w.alloc (.cells #[.int .i64 s.co, .int .i64 s.po, .int .i64 s.pr, .int .i64 s.re, .int .i64 s.sw, .int .i64 s.fi, .int .i64 s.la, .int .i64 s.rs, .slice A n c] 24) = W at *
        generalize w.heap.size = b0 at *
        have HB := Lib.hid hb0
        clear hb0
        go_quiet (fail)
        go_wp2
        go_ret
        exact ⟨ret1 HC2.out.symm, HB.out.drewN _⟩
      · have e3 : decide (s.co ≤ z) = false := by simp; omega
        have HC2 := Lib.hid (HC.out.trans (if_pos (by omega)))
        clear HC
        unfold sysV
        go_enter Try.func25, Try.ntmps25
        go_wp2_with fail
        have hb0 : But No w (w.alloc (.cells #[.int .i64 s.co, .int .i64 s.po, .int .i64 s.pr, .int .i64 s.re, .int .i64 s.sw, .int .i64 s.fi, .int .i64 s.la, .int .i64 s.rs, .slice A n c] 24)) := (But.refl No w).alloc _
        have hs0 : (w.alloc (.cells #[.int .i64 s.co, .int .i64 s.po, .int .i64 s.pr, .int .i64 s.re, .int .i64 s.sw, .int .i64 s.fi, .int .i64 s.la, .int .i64 s.rs, .slice A n c] 24)).cell? ⟨w.heap.size, 0, none⟩ = some (.int .i64 s.co) := (Blk.new w _ _).cell rfl
        generalize w.alloc (.cells #[.int .i64 s.co, .int .i64 s.po, .int .i64 s.pr, .int .i64 s.re, .int .i64 s.sw, .int .i64 s.fi, .int .i64 s.la, .int .i64 s.rs, .slice A n c] 24) = W at *
        generalize w.heap.size = b0 at *
        have HB := Lib.hid hb0
        clear hb0
        go_quiet (fail)
        go_wp2
        go_ret
        exact ⟨ret1 HC2.out.symm, HB.out.drewN _⟩
  · clear hz
    have e1 : decide (m ≤ i) = true := by simp; omega
    have HC2 : Hid (cr s.co wh i = -1) := Lib.hid (by unfold cr; rw [if_neg (by rw [HL.out]; exact fun h => h1 h.1)])
    unfold sysV
    go_enter Try.func25, Try.ntmps25
    go_wp2_with fail
    have hb0 : But No w (w.alloc (.cells #[.int .i64 s.co, .int .i64 s.po, .int .i64 s.pr, .int .i64 s.re, .int .i64 s.sw, .int .i64 s.fi, .int .i64 s.la, .int .i64 s.rs, .slice A n c] 24)) := (But.refl No w).alloc _
    have hs0 : (w.alloc (.cells #[.int .i64 s.co, .int .i64 s.po, .int .i64 s.pr, .int .i64 s.re, .int .i64 s.sw, .int .i64 s.fi, .int .i64 s.la, .int .i64 s.rs, .slice A n c] 24)).cell? ⟨w.heap.size, 0, none⟩ = some (.int .i64 s.co) := (Blk.new w _ _).cell rfl
    generalize w.alloc (.cells #[.int .i64 s.co, .int .i64 s.po, .int .i64 s.pr, .int .i64 s.re, .int .i64 s.sw, .int .i64 s.fi, .int .i64 s.la, .int .i64 s.rs, .slice A n c] 24) = W at *
    generalize w.heap.size = b0 at *
    have HB := Lib.hid hb0
    clear hb0
    go_quiet (fail)
    go_wp2
    go_ret
    exact ⟨ret1 HC2.out.symm, HB.out.drewN _⟩
end Go.Proofs.Ytfmhejeeeglmdaa.ter
