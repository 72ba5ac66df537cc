/- Plain mathematics of valid systems: where the first fault is; what stays valid. -/
import Derived.Test.YtfmhejeeeglmdaaTkM
namespace Go.Proofs.Ytfmhejeeeglmdaa
/-- Is a number from one to another one? -/
def wi (n a b : Int) : Bool := decide (a ≤ n) && decide (n ≤ b)
theorem wi_true {n a b : Int} : wi n a b = true ↔ a ≤ n ∧ n ≤ b := by unfold wi; simp
theorem wi_false {n a b : Int} : wi n a b = false ↔ n < a ∨ b < n := by
  unfold wi
  rw [Bool.and_eq_false_iff, decide_eq_false_iff_not, decide_eq_false_iff_not]; omega
/-- What is asked of the system alone. -/
def vWhole (s : Sys) : Bool := wi s.co 1 8 && (wi s.po 1 2 && (wi s.pr 1 2 && (!(decide (s.pr = 2) && !decide (s.po = 1)) && (wi s.re 0 50 && (wi s.sw 0 50 && (wi s.fi 0 50 && (wi s.la 1 50 && (wi s.rs 0 8 && wi (s.ts.length : Int) 1 24))))))))
def vHead (t : Tsk) : Bool := wi t.p 1 1099511627776 && (wi t.d 1 t.p && (wi t.w 1 t.d && decide (t.secs.length ≤ 4)))
def vSec (res w e : Int) (x : Int × Int × Int) : Bool := wi x.1 e w && (wi x.2.1 0 (res - 1) && wi x.2.2 1 (w - x.1))
/-- The first wrong section, counted from k on, behind the end e. -/
def vSecs (res w : Int) : Nat → Int → List (Int × Int × Int) → Option Nat
  | _, _, [] => none
  | k, e, x :: r => if vSec res w e x = true then vSecs res w (k + 1) (x.1 + x.2.2) r else some k
/-- The end of so many sections. -/
def vEnd : Nat → List (Int × Int × Int) → Int
  | 0, _ => 0
  | k + 1, l => (l.getD k (0, 0, 0)).1 + (l.getD k (0, 0, 0)).2.2
def vTsk (res : Int) (t : Tsk) : Bool := vHead t && (vSecs res t.w 0 0 t.secs).isNone
/-- The first wrong task, counted from i on, and its section, or -1. -/
def vTasks (res : Int) : Nat → List Tsk → Option (Nat × Int)
  | _, [] => none
  | i, t :: r =>
    if vHead t = true then
      match vSecs res t.w 0 0 t.secs with
      | some k => some (i, (k : Int))
      | none => vTasks res (i + 1) r
    else some (i, -1)
/-- Is there a fault, and where? -/
def vFind (s : Sys) : Bool × Int × Int :=
  if vWhole s = true then
    match vTasks s.rs 0 s.ts with
    | some (i, k) => (true, (i : Int), k)
    | none => (false, -1, -1)
  else (true, -1, -1)
def right (s : Sys) : Bool := vWhole s && s.ts.all (vTsk s.rs)
theorem vTasks_none (res : Int) : ∀ (i : Nat) (ts : List Tsk), (vTasks res i ts).isNone = ts.all (vTsk res)
  | _, [] => rfl
  | i, t :: r => by
    have ih := vTasks_none res (i + 1) r
    unfold vTasks
    rw [List.all_cons]
    by_cases h : vHead t = true
    · rw [if_pos h]
      cases hs : vSecs res t.w 0 0 t.secs with
      | none =>
        have : vTsk res t = true := by unfold vTsk; rw [h, hs]; rfl
        rw [this, Bool.true_and]
        exact ih
      | some k =>
        have : vTsk res t = false := by unfold vTsk; rw [h, hs]; rfl
        rw [this]; rfl
    · rw [if_neg h]
      have : vTsk res t = false := by
        unfold vTsk
        rw [Bool.not_eq_true] at h
        rw [h]; rfl
      rw [this]; rfl
theorem right_find (s : Sys) : right s = !(vFind s).1 := by
  unfold right vFind
  by_cases h : vWhole s = true
  · rw [if_pos h, h, Bool.true_and, ← vTasks_none s.rs 0]
    cases vTasks s.rs 0 s.ts with
    | none => rfl
    | some x => rfl
  · rw [if_neg h]
    rw [Bool.not_eq_true] at h
    rw [h]; rfl
/-- Ahead of a task all is well: the search goes on there. -/
theorem vTasks_skip {res : Int} : ∀ {i k : Nat} {ts : List Tsk}, (∀ j t, j < k → ts[j]? = some t → vTsk res t = true) → vTasks res i ts = vTasks res (i + k) (ts.drop k)
  | i, 0, ts, _ => by simp
  | i, k + 1, [], _ => by simp [vTasks]
  | i, k + 1, t :: r, h => by
    have h0 := h 0 t (by omega) rfl
    have ih := vTasks_skip (res := res) (i := i + 1) (k := k) (ts := r) (fun j x hj hx => h (j + 1) x (by omega) (by simpa using hx))
    unfold vTsk at h0
    rw [Bool.and_eq_true] at h0
    rw [vTasks, if_pos h0.1]
    cases hs : vSecs res t.w 0 0 t.secs with
    | none => show vTasks res (i + 1) r = _; rw [ih, List.drop_succ_cons, show i + 1 + k = i + (k + 1) by omega]
    | some q => rw [hs] at h0; simp at h0
/-- The first wrong task by its head. -/
theorem vTasks_head {res : Int} {ts : List Tsk} {k : Nat} {t : Tsk} (h : ∀ j t, j < k → ts[j]? = some t → vTsk res t = true) (ht : ts[k]? = some t) (hh : vHead t = false) : vTasks res 0 ts = some (k, -1) := by
  rw [vTasks_skip h]
  obtain ⟨hk, rfl⟩ := List.getElem?_eq_some_iff.1 ht
  rw [List.drop_eq_getElem_cons hk, vTasks, if_neg (by rw [hh]; simp), Nat.zero_add]
/-- The first wrong task by a section. -/
theorem vTasks_sec {res : Int} {ts : List Tsk} {k q : Nat} {t : Tsk} (h : ∀ j t, j < k → ts[j]? = some t → vTsk res t = true) (ht : ts[k]? = some t) (hh : vHead t = true) (hs : vSecs res t.w 0 0 t.secs = some q) : vTasks res 0 ts = some (k, (q : Int)) := by
  rw [vTasks_skip h]
  obtain ⟨hk, rfl⟩ := List.getElem?_eq_some_iff.1 ht
  rw [List.drop_eq_getElem_cons hk, vTasks, if_pos hh, hs, Nat.zero_add]
/-- Ahead of a section all is well: the search goes on there, behind the last one's end. -/
theorem vSecs_skip {res w : Int} : ∀ {i k : Nat} {e : Int} {l : List (Int × Int × Int)}, k ≤ l.length → (∀ j x, j < k → l[j]? = some x → vSec res w (if j = 0 then e else vEnd j l) x = true) → vSecs res w i e l = vSecs res w (i + k) (if k = 0 then e else vEnd k l) (l.drop k)
  | i, 0, e, l, _, _ => by simp
  | i, k + 1, e, [], hk, _ => by simp at hk
  | i, k + 1, e, x :: r, hk, h => by
    have h0 := h 0 x (by omega) rfl
    rw [if_pos rfl] at h0
    have ih := vSecs_skip (res := res) (w := w) (i := i + 1) (k := k) (e := x.1 + x.2.2) (l := r) (by simpa using hk) (fun j y hj hy => by
      have := h (j + 1) y (by omega) (by simpa using hy)
      rw [if_neg (by omega)] at this
      cases j with
      | zero => rw [if_pos rfl]; simpa [vEnd] using this
      | succ j => rw [if_neg (by omega)]; simpa [vEnd] using this)
    have e1 : (if k + 1 = 0 then e else vEnd (k + 1) (x :: r)) = (if k = 0 then x.1 + x.2.2 else vEnd k r) := by
      cases k with
      | zero => simp [vEnd]
      | succ k => simp [vEnd]
    rw [vSecs, if_pos h0, ih, List.drop_succ_cons, e1, show i + 1 + k = i + (k + 1) by omega]
theorem vSecs_bad {res w : Int} {k : Nat} {l : List (Int × Int × Int)} {x : Int × Int × Int} (h : ∀ j y, j < k → l[j]? = some y → vSec res w (vEnd j l) y = true) (hx : l[k]? = some x) (hb : vSec res w (vEnd k l) x = false) : vSecs res w 0 0 l = some k := by
  obtain ⟨hk, rfl⟩ := List.getElem?_eq_some_iff.1 hx
  have e0 : ∀ j, (if j = 0 then (0 : Int) else vEnd j l) = vEnd j l := fun j => by cases j <;> simp [vEnd]
  rw [vSecs_skip (i := 0) (k := k) (e := 0) (by omega) (fun j y hj hy => by rw [e0]; exact h j y hj hy), e0, List.drop_eq_getElem_cons hk, vSecs, if_neg (by rw [hb]; simp), Nat.zero_add]
theorem vSecs_good {res w : Int} {l : List (Int × Int × Int)} (h : ∀ j y, l[j]? = some y → vSec res w (vEnd j l) y = true) : vSecs res w 0 0 l = none := by
  have e0 : ∀ j, (if j = 0 then (0 : Int) else vEnd j l) = vEnd j l := fun j => by cases j <;> simp [vEnd]
  rw [vSecs_skip (i := 0) (k := l.length) (e := 0) (Nat.le_refl _) (fun j y _ hy => by rw [e0]; exact h j y hy), List.drop_length, vSecs]
/-- What is asked of the system alone hangs on how many tasks there are, not on which. -/
theorem vWhole_with (s : Sys) (ts : List Tsk) (h : wi (ts.length : Int) 1 24 = wi (s.ts.length : Int) 1 24) : vWhole { s with ts := ts } = vWhole s := by
  unfold vWhole
  rw [h]
theorem right_rev (s : Sys) : right { s with ts := s.ts.reverse } = right s := by
  unfold right
  rw [vWhole_with s _ (by rw [List.length_reverse])]
  congr 1
  exact List.all_reverse
theorem right_twice (s : Sys) (h : 2 * s.ts.length ≤ 24) : right { s with ts := s.ts.reverse ++ s.ts } = right s := by
  unfold right
  rw [vWhole_with s _ (by
    rw [List.length_append, List.length_reverse]
    cases h1 : wi (s.ts.length : Int) 1 24 with
    | true =>
      rw [wi_true] at h1 ⊢
      omega
    | false =>
      rw [wi_false] at h1 ⊢
      omega)]
  congr 1
  show (s.ts.reverse ++ s.ts).all (vTsk s.rs) = _
  rw [List.all_append, List.all_reverse, Bool.and_self]
/-- What a valid system's parts are. -/
theorem right_parts {s : Sys} (h : right s = true) : vWhole s = true ∧ ∀ t ∈ s.ts, vTsk s.rs t = true := by
  unfold right at h
  rw [Bool.and_eq_true, List.all_eq_true] at h
  exact h
theorem right_of {s : Sys} (h1 : vWhole s = true) (h2 : ∀ t ∈ s.ts, vTsk s.rs t = true) : right s = true := by
  unfold right
  rw [Bool.and_eq_true, List.all_eq_true]
  exact ⟨h1, h2⟩
/-- With one task less, if one is left. -/
theorem right_less {s : Sys} (h : right s = true) {i : Nat} (hi : i < s.ts.length) : right { s with ts := s.ts.take i ++ s.ts.drop (i + 1) } = decide (1 < s.ts.length) := by
  obtain ⟨h1, h2⟩ := right_parts h
  have hl : (s.ts.take i ++ s.ts.drop (i + 1)).length = s.ts.length - 1 := by rw [List.length_append, List.length_take, List.length_drop]; omega
  have hw : wi (s.ts.length : Int) 1 24 = true := by
    unfold vWhole at h1
    simp only [Bool.and_eq_true] at h1
    exact h1.2.2.2.2.2.2.2.2.2
  have hw2 := wi_true.1 hw
  by_cases hd : 1 < s.ts.length
  · rw [decide_eq_true hd]
    refine right_of ?_ (fun t ht => h2 t ?_)
    · rw [vWhole_with s _ (by rw [hl, hw, wi_true]; omega)]; exact h1
    · rcases List.mem_append.1 ht with ht | ht
      · exact List.mem_of_mem_take ht
      · exact List.mem_of_mem_drop ht
  · rw [decide_eq_false hd]
    have hz : wi ((s.ts.take i ++ s.ts.drop (i + 1)).length : Int) 1 24 = false := by rw [hl, wi_false]; omega
    cases hr : right { s with ts := s.ts.take i ++ s.ts.drop (i + 1) } with
    | false => rfl
    | true =>
      have h3 := (right_parts hr).1
      unfold vWhole at h3
      simp only [Bool.and_eq_true] at h3
      have h4 := h3.2.2.2.2.2.2.2.2.2
      rw [hz] at h4
      cases h4
end Go.Proofs.Ytfmhejeeeglmdaa
