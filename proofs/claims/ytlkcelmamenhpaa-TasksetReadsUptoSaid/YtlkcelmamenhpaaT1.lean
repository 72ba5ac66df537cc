/- The types of a System; the contracts of systemHead, taskHead and tooLong. -/
import Derived.Test.YtlkcelmamenhpaaSy
import Derived.Test.YtlkcelmamenhpaaPkL
namespace Go.Proofs.Ytlkcelmamenhpaa
open Go.ChangeShapes Go.WideShapes Go.ChangeAt Go.RowKit Go.Deep
theorem sysT : ∃ fS ft fc, SysT Try.prog 24 22 39 37 41 fS ft fc :=
  ⟨_, _, _, Try.underlying24, Try.underlying22, Try.underlying39, Try.underlying37, Try.underlying41, Try.underlying3, by kernel_rfl, by kernel_rfl, by kernel_rfl, by kernel_rfl, by kernel_rfl, by kernel_rfl, by simp, by simp, by simp⟩
/-- A task by value. -/
abbrev tskV (t : Tsk) (A : Option Addr) (n c : Nat) : Value := .agg #[.int .i64 t.p, .int .i64 t.d, .int .i64 t.w, .slice A n c]
abbrev headV (s : Sys) (n : Nat) : Value := .agg #[.int .i64 1, .int .i64 s.co, .int .i64 s.po, .int .i64 s.pr, .int .i64 s.re, .int .i64 s.sw, .int .i64 s.fi, .int .i64 s.la, .int .i64 s.rs, .int .i64 (n : Int)]
abbrev theadV (t : Tsk) (n : Nat) : Value := .agg #[.int .i64 t.p, .int .i64 t.d, .int .i64 t.w, .int .i64 (n : Int)]
set_option maxRecDepth 100000 in
theorem systemHead_any (s : Sys) (A : Option Addr) (n c : Nat) (w : World) : Calls Try.prog 29 #[sysV s A n c] w fun e w' => e = .returned (headV s n) ∧ But No w w' := by
  obtain ⟨a1, a2, a3, a4, a5, a6, a7, a8, ts⟩ := s
  unfold sysV
  go_enter Try.func29, Try.ntmps29
  go_wp2
  refine bodyPost_ret (v := headV ⟨a1, a2, a3, a4, a5, a6, a7, a8, ts⟩ n) (by simp [results, Try.results29, go_sem]) rfl ?_
  exact ⟨rfl, ((But.refl _ _).alloc _).alloc _⟩
set_option maxRecDepth 100000 in
theorem taskHead_any (t : Tsk) (A : Option Addr) (n c : Nat) (w : World) : Calls Try.prog 34 #[tskV t A n c] w fun e w' => e = .returned (theadV t n) ∧ But No w w' := by
  obtain ⟨a1, a2, a3, ts⟩ := t
  go_enter Try.func34, Try.ntmps34
  go_wp2
  refine bodyPost_ret (v := theadV ⟨a1, a2, a3, ts⟩ n) (by simp [results, Try.results34, go_sem]) rfl ?_
  exact ⟨rfl, ((But.refl _ _).alloc _).alloc _⟩
def tooL (s : Sys) : Bool := decide (24 < s.ts.length) || s.ts.any (fun t => decide (4 < t.secs.length))
theorem tooL_big {s : Sys} (h : 24 < s.ts.length) : tooL s = true := by unfold tooL; simp [h]
theorem tooL_at {s : Sys} {k : Nat} {t : Tsk} (h : s.ts[k]? = some t) (h4 : 4 < t.secs.length) : tooL s = true := by
  unfold tooL
  have : s.ts.any (fun t => decide (4 < t.secs.length)) = true := List.any_eq_true.2 ⟨t, List.mem_of_getElem? h, by simp [h4]⟩
  simp [this]
theorem tooL_no {s : Sys} : tooL s = false ↔ s.ts.length ≤ 24 ∧ ∀ t ∈ s.ts, t.secs.length ≤ 4 := by
  unfold tooL
  rw [Bool.or_eq_false_iff, decide_eq_false_iff_not, List.any_eq_false]
  simp
theorem retb2 {a b : Bool} (h : a = b) : Ending.returned (.bool a) = .returned (.bool b) := by rw [h]
set_option maxRecDepth 100000 in
set_option maxHeartbeats 1000000 in
theorem tooLong_any (s : Sys) (A : Option Addr) (n c : Nat) (w : World) (h : RSys w A n c s) : Calls Try.prog 19 #[sysV s A n c] w fun e w' => e = .returned (.bool (tooL s)) ∧ But No w w' := by
  have HT := Lib.hid h.ts
  have HN := Lib.hid h.ts.len
  have hmx := h.ts.max
  clear h
  unfold sysV
  by_cases hn : 24 < n
  · have HE : Hid (tooL s = true) := tooL_big (by rw [HN.out]; exact hn)
    go_enter Try.func19, Try.ntmps19
    go_wp2
    go_ret
    exact ⟨retb2 HE.out.symm, (But.refl _ _).alloc _⟩
  · go_enter Try.func19, Try.ntmps19
    go_wp2
    go_loopw [12] (fun i wr => ∃ k : Nat, i = .int .i64 (k : Int) ∧ k ≤ n ∧ Hid (But No w wr) ∧ Hid (∀ j t, j < k → s.ts[j]? = some t → t.secs.length ≤ 4)) (fun i _ => n - (intOf i).toNat)
    case atStart => exact ⟨0, rfl, by omega, (But.refl _ _).alloc _, fun j _ hj => absurd hj (by omega)⟩
    case round =>
      obtain ⟨k, rfl, hk, HB, HG⟩ := hrel
      by_cases hlt : k < n
      · obtain ⟨b, off, rfl, hb, hc⟩ := (HT.out.no HB.out).at_ (by omega)
        obtain ⟨t, ht⟩ : ∃ t, s.ts[k]? = some t := ⟨_, List.getElem?_eq_getElem (by rw [HN.out]; exact hlt)⟩
        obtain ⟨c0, c1, c2, A', c', c3, hcc, hS⟩ := hc k t ht
        have HTK := Lib.hid ht
        have hm := hS.max
        clear hc hS ht
        obtain ⟨t0, t1, t2, ts⟩ := t
        obtain ⟨m, hm4⟩ : ∃ m, ts.length = m := ⟨_, rfl⟩
        simp only [hm4] at c3 hcc hm
        have HM := Lib.hid hm4
        clear hm4
        by_cases h4 : 4 < m
        · have HE : Hid (tooL s = true) := tooL_at HTK.out (by show 4 < ts.length; rw [HM.out]; exact h4)
          go_wp2
          go_ret
          exact ⟨retb2 HE.out.symm, HB.out.alloc _⟩
        · go_wp2
          go_roundw
          case rel =>
            refine ⟨k + 1, by go_num, by omega, HB.out.alloc _, fun j t hj hjt => ?_⟩
            by_cases e : j = k
            · subst e
              rw [HTK.out] at hjt
              cases hjt
              show ts.length ≤ 4
              rw [HM.out]; omega
            · exact HG.out j t (by omega) hjt
          case measure => simp [intOf]; omega
      · have HE : Hid (tooL s = false) := tooL_no.2 ⟨by rw [HN.out]; omega, fun t ht => by
          obtain ⟨j, hj, rfl⟩ := List.getElem_of_mem ht
          exact HG.out j _ (by rw [HN.out] at hj; omega) (List.getElem?_eq_getElem hj)⟩
        go_wp2
        go_ret
        exact ⟨retb2 HE.out.symm, HB.out⟩
end Go.Proofs.Ytlkcelmamenhpaa
