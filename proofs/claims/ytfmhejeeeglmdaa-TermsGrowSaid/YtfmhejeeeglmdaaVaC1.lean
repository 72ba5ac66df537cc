/- The contracts of within, rightProtocol, fault, rightSystem, rightTask and rightSection, and of the document's within and whole. -/
import Derived.Test.YtfmhejeeeglmdaaSy
import Derived.Test.YtfmhejeeeglmdaaVdM
import Derived.Test.YtfmhejeeeglmdaaV0
namespace Go.Proofs.Ytfmhejeeeglmdaa.val
open Go.ChangeShapes Go.WideShapes Go.ChangeAt Go.RowKit Go.Deep
theorem sysT : ∃ fS ft fc, SysT Try.prog 24 22 34 32 36 fS ft fc :=
  ⟨_, _, _, Try.underlying24, Try.underlying22, Try.underlying34, Try.underlying32, Try.underlying36, Try.underlying3, by kernel_rfl, by kernel_rfl, by kernel_rfl, by kernel_rfl, by kernel_rfl, by kernel_rfl, by simp, by simp, by simp⟩
/-- A task by value. -/
abbrev tskV (t : Tsk) (A : Option Addr) (n c : Nat) : Value := .agg #[.int .i64 t.p, .int .i64 t.d, .int .i64 t.w, .slice A n c]
/-- A section by value. -/
abbrev secV (x : Int × Int × Int) : Value := .agg #[.int .i64 x.1, .int .i64 x.2.1, .int .i64 x.2.2]
/-- A finding by value. -/
abbrev finV (e : Nat) (i k : Int) : Value := .agg #[.int .i64 (e : Int), .int .i64 i, .int .i64 k]
theorem within_any (n a b : Int) (w : World) : Calls Try.prog 36 #[.int .i64 n, .int .i64 a, .int .i64 b] w fun e w' => e = .returned (.bool (wi n a b)) ∧ w' = w := by
  cases h : wi n a b with
  | true =>
    obtain ⟨h1, h2⟩ := wi_true.1 h
    go_enter Try.func36, Try.ntmps36
    go_wp2
    all_goals go_ret
    all_goals exact ⟨by simp_all, rfl⟩
  | false =>
    rcases wi_false.1 h with h1 | h1
    · have h2 : decide (a ≤ n) = false := by simp; omega
      go_enter Try.func36, Try.ntmps36
      go_wp2
      all_goals go_ret
      all_goals exact ⟨by simp_all, rfl⟩
    · have h2 : decide (n ≤ b) = false := by simp; omega
      by_cases h3 : a ≤ n
      · go_enter Try.func36, Try.ntmps36
        go_wp2
        all_goals go_ret
        all_goals exact ⟨by simp_all, rfl⟩
      · have h4 : decide (a ≤ n) = false := by simp; omega
        go_enter Try.func36, Try.ntmps36
        go_wp2
        all_goals go_ret
        all_goals exact ⟨by simp_all, rfl⟩
theorem dwithin_any (n a b : Int) (w : World) : Calls Try.prog 35 #[.int .i64 n, .int .i64 a, .int .i64 b] w fun e w' => e = .returned (.bool (wi n a b)) ∧ w' = w := by
  cases h : wi n a b with
  | true =>
    obtain ⟨h1, h2⟩ := wi_true.1 h
    go_enter Try.func35, Try.ntmps35
    go_wp2
    all_goals go_ret
    all_goals exact ⟨by simp_all, rfl⟩
  | false =>
    rcases wi_false.1 h with h1 | h1
    · have h2 : decide (a ≤ n) = false := by simp; omega
      go_enter Try.func35, Try.ntmps35
      go_wp2
      all_goals go_ret
      all_goals exact ⟨by simp_all, rfl⟩
    · have h2 : decide (n ≤ b) = false := by simp; omega
      by_cases h3 : a ≤ n
      · go_enter Try.func35, Try.ntmps35
        go_wp2
        all_goals go_ret
        all_goals exact ⟨by simp_all, rfl⟩
      · have h4 : decide (a ≤ n) = false := by simp; omega
        go_enter Try.func35, Try.ntmps35
        go_wp2
        all_goals go_ret
        all_goals exact ⟨by simp_all, rfl⟩
/-- The policy and the protocol. -/
def vPro (po pr : Int) : Bool := wi po 1 2 && (wi pr 1 2 && !(decide (pr = 2) && !decide (po = 1)))
theorem vPro_eq (po pr : Int) : vPro po pr = (if po = 1 then decide (pr = 1) || decide (pr = 2) else if po = 2 then decide (pr = 1) else false) := by
  unfold vPro wi
  by_cases h1 : po = 1
  · subst h1
    by_cases h3 : pr = 1
    · subst h3; rfl
    · by_cases h4 : pr = 2
      · subst h4; rfl
      · have : (decide (1 ≤ pr) && decide (pr ≤ 2)) = false := by rw [Bool.and_eq_false_iff, decide_eq_false_iff_not, decide_eq_false_iff_not]; omega
        simp [this, h3, h4]
  · by_cases h2 : po = 2
    · subst h2
      by_cases h3 : pr = 1
      · subst h3; rfl
      · by_cases h4 : pr = 2
        · subst h4; rfl
        · have : (decide (1 ≤ pr) && decide (pr ≤ 2)) = false := by rw [Bool.and_eq_false_iff, decide_eq_false_iff_not, decide_eq_false_iff_not]; omega
          simp [this, h3]
    · have : (decide (1 ≤ po) && decide (po ≤ 2)) = false := by rw [Bool.and_eq_false_iff, decide_eq_false_iff_not, decide_eq_false_iff_not]; omega
      simp [this, h1, h2]
theorem protocol_any (po pr : Int) (w : World) : Calls Try.prog 37 #[.int .i64 po, .int .i64 pr] w fun e w' => e = .returned (.bool (vPro po pr)) ∧ w' = w := by
  rw [vPro_eq]
  by_cases h1 : po = 1
  · have e1 : (po == 1) = true := by simp [h1]
    by_cases h3 : pr = 1
    · have e2 : (pr == 1) = true := by simp [h3]
      go_enter Try.func37, Try.ntmps37
      go_wp2
      all_goals go_ret
      all_goals exact ⟨by first | (simp_all; done) | (simp_all; rfl), rfl⟩
    · have e2 : (pr == 1) = false := by simp [h3]
      go_enter Try.func37, Try.ntmps37
      go_wp2
      all_goals go_ret
      all_goals exact ⟨by first | (simp_all; done) | (simp_all; rfl), rfl⟩
  · have e1 : (po == 1) = false := by simp [h1]
    by_cases h2 : po = 2
    · have e2 : (po == 2) = true := by simp [h2]
      go_enter Try.func37, Try.ntmps37
      go_wp2
      all_goals go_ret
      all_goals exact ⟨by first | (simp_all; done) | (simp_all; rfl), rfl⟩
    · have e2 : (po == 2) = false := by simp [h2]
      go_enter Try.func37, Try.ntmps37
      go_wp2
      all_goals go_ret
      all_goals exact ⟨by first | (simp_all; done) | (simp_all; rfl), rfl⟩
set_option maxRecDepth 100000 in
theorem fault_any (i k : Int) (w : World) : Calls Try.prog 31 #[.int .i64 i, .int .i64 k] w fun e w' => e = .returned (finV 10 i k) ∧ But No w w' := by
  go_enter Try.func31, Try.ntmps31
  go_wp2
  refine bodyPost_ret (v := finV 10 i k) (by simp [results, Try.results31, go_sem]) rfl ?_
  exact ⟨rfl, (But.refl _ _).alloc _⟩
theorem vWhole_pro (s : Sys) : vWhole s = (wi s.co 1 8 && (vPro s.po s.pr && (wi s.re 0 50 && (wi s.sw 0 50 && (wi s.fi 0 50 && (wi s.la 1 50 && (wi s.rs 0 8 && wi (s.ts.length : Int) 1 24))))))) := by
  unfold vWhole vPro
  simp only [Bool.and_assoc]
set_option maxRecDepth 100000 in
set_option maxHeartbeats 1000000 in
theorem system_any (s : Sys) (A : Option Addr) (n c : Nat) (w : World) (hn : s.ts.length = n) : Calls Try.prog 30 #[sysV s A n c] w fun e w' => e = .returned (.bool (vWhole s)) ∧ But No w w' := by
  have CW : Hid (∀ n a b w, Calls Try.prog 36 #[.int .i64 n, .int .i64 a, .int .i64 b] w fun e w' => e = .returned (.bool (wi n a b)) ∧ w' = w) := within_any
  have CP : Hid (∀ a b w, Calls Try.prog 37 #[.int .i64 a, .int .i64 b] w fun e w' => e = .returned (.bool (vPro a b)) ∧ w' = w) := protocol_any
  rw [vWhole_pro, hn]
  obtain ⟨a1, a2, a3, a4, a5, a6, a7, a8, ts⟩ := s
  clear hn
  unfold sysV
  go_enter Try.func30, Try.ntmps30
  go_wp2_with (first | (go_at_call 36; (with_reducible refine (CW.out _ _ _ _).mono ?_); rintro e w1 ⟨rfl, rfl⟩) | (go_at_call 37; (with_reducible refine (CP.out _ _ _).mono ?_); rintro e w1 ⟨rfl, rfl⟩))
  all_goals go_ret
  all_goals exact ⟨by simp_all, (But.refl _ _).alloc _⟩
set_option maxRecDepth 100000 in
set_option maxHeartbeats 1000000 in
theorem dwhole_any (s : Sys) (A : Option Addr) (n c : Nat) (w : World) (hn : s.ts.length = n) : Calls Try.prog 34 #[sysV s A n c] w fun e w' => e = .returned (.bool (vWhole s)) ∧ But No w w' := by
  have CW : Hid (∀ n a b w, Calls Try.prog 35 #[.int .i64 n, .int .i64 a, .int .i64 b] w fun e w' => e = .returned (.bool (wi n a b)) ∧ w' = w) := dwithin_any
  have HV : Hid (vWhole s = (wi s.co 1 8 && (wi s.po 1 2 && (wi s.pr 1 2 && (!(decide (s.pr = 2) && !decide (s.po = 1)) && (wi s.re 0 50 && (wi s.sw 0 50 && (wi s.fi 0 50 && (wi s.la 1 50 && (wi s.rs 0 8 && wi (n : Int) 1 24)))))))))) := by subst hn; rfl
  generalize vWhole s = V at HV ⊢
  obtain ⟨a1, a2, a3, a4, a5, a6, a7, a8, ts⟩ := s
  clear hn
  unfold sysV
  go_enter Try.func34, Try.ntmps34
  go_wp2_with (go_at_call 35; (with_reducible refine (CW.out _ _ _ _).mono ?_); rintro e w1 ⟨rfl, rfl⟩)
  all_goals go_ret
  all_goals exact ⟨by rw [HV.out]; simp_all, (But.refl _ _).alloc _⟩
set_option maxRecDepth 100000 in
set_option maxHeartbeats 1000000 in
theorem task_any (t : Tsk) (A : Option Addr) (n c : Nat) (w : World) (hn : t.secs.length = n) : Calls Try.prog 32 #[tskV t A n c] w fun e w' => e = .returned (.bool (vHead t)) ∧ But No w w' := by
  have CW : Hid (∀ n a b w, Calls Try.prog 36 #[.int .i64 n, .int .i64 a, .int .i64 b] w fun e w' => e = .returned (.bool (wi n a b)) ∧ w' = w) := within_any
  have HV : Hid (vHead t = (wi t.p 1 1099511627776 && (wi t.d 1 t.p && (wi t.w 1 t.d && decide (n ≤ 4))))) := by subst hn; rfl
  generalize vHead t = V at HV ⊢
  obtain ⟨a1, a2, a3, ts⟩ := t
  clear hn
  go_enter Try.func32, Try.ntmps32
  go_wp2_with (go_at_call 36; (with_reducible refine (CW.out _ _ _ _).mono ?_); rintro e w1 ⟨rfl, rfl⟩)
  all_goals go_ret
  all_goals exact ⟨by rw [HV.out]; first | (simp_all; done) | (simp_all; omega), (But.refl _ _).alloc _⟩
set_option maxRecDepth 100000 in
set_option maxHeartbeats 1000000 in
theorem section_any (x : Int × Int × Int) (e0 wc rs : Int) (w : World) (hx : inR x.1) (he : 0 ≤ e0) (hw : 0 ≤ wc) (hwc : inR wc) (hr : 0 ≤ rs) (hrs : inR rs) : Calls Try.prog 33 #[secV x, .int .i64 e0, .int .i64 wc, .int .i64 rs] w fun e w' => e = .returned (.bool (vSec rs wc e0 x)) ∧ But No w w' := by
  have CW : Hid (∀ n a b w, Calls Try.prog 36 #[.int .i64 n, .int .i64 a, .int .i64 b] w fun e w' => e = .returned (.bool (wi n a b)) ∧ w' = w) := within_any
  obtain ⟨x0, x1, x2⟩ := x
  have HV : Hid (vSec rs wc e0 (x0, x1, x2) = (decide (e0 ≤ x0) && (wi x1 0 (rs - 1) && wi x2 1 (wc - x0)))) := by
    show _ = _
    unfold vSec
    cases h : decide (e0 ≤ x0) && (wi x1 0 (rs - 1) && wi x2 1 (wc - x0)) with
    | true =>
      simp only [Bool.and_eq_true, decide_eq_true_eq] at h
      obtain ⟨h1, h2, h3⟩ := h
      have h4 := wi_true.1 h3
      have h5 : wi x0 e0 wc = true := wi_true.2 ⟨h1, by omega⟩
      simp [h2, h3, h5]
    | false =>
      cases g : wi x0 e0 wc with
      | false => simp
      | true =>
        have := (wi_true.1 g).1
        have h6 : decide (e0 ≤ x0) = true := by simpa using this
        rw [h6, Bool.true_and] at h
        simp only [Bool.true_and]
        exact h
  generalize vSec rs wc e0 (x0, x1, x2) = V at HV ⊢
  unfold inR at hx hwc hrs
  simp only at hx
  by_cases hlt : e0 ≤ x0
  · go_enter Try.func33, Try.ntmps33
    go_wp2_with (go_at_call 36; (with_reducible refine (CW.out _ _ _ _).mono ?_); rintro e w1 ⟨rfl, rfl⟩)
    all_goals go_ret
    all_goals exact ⟨by rw [HV.out]; simp_all, (But.refl _ _).alloc _⟩
  · have hd : decide (e0 ≤ x0) = false := by simp; omega
    go_enter Try.func33, Try.ntmps33
    go_wp2_with (go_at_call 36; (with_reducible refine (CW.out _ _ _ _).mono ?_); rintro e w1 ⟨rfl, rfl⟩)
    all_goals go_ret
    all_goals exact ⟨by rw [HV.out]; simp_all; exact fun h => absurd h (by omega), (But.refl _ _).alloc _⟩
end Go.Proofs.Ytfmhejeeeglmdaa.val
