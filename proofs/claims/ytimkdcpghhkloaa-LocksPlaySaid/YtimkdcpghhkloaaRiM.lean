/- Plain mathematics of a ring: places on a circular slice, lists of ids with tickets. -/
import Derived.Test.YtimkdcpghhkloaaBase
import Derived.Laws.BitsAllLaws
namespace Go.Proofs.Ytimkdcpghhkloaa.rin
structure It where
  id : Int
  tk : Int
/-- The position of the item that has i others ahead of it. -/
def ps (F sz i : Nat) : Nat := if F + i < sz then F + i else F + i - sz
theorem ps_lt {F sz i : Nat} (hF : F < sz) (hi : i < sz) : ps F sz i < sz := by unfold ps; split <;> omega
theorem ps_zero {F sz : Nat} (hF : F < sz) : ps F sz 0 = F := by unfold ps; rw [if_pos (by omega)]; rfl
theorem ps_mod {F sz i : Nat} (hF : F < sz) (hi : i ≤ sz) : (F + i) % sz = ps F sz i := by
  unfold ps
  split
  · exact Nat.mod_eq_of_lt (by assumption)
  · rw [Nat.mod_eq_sub_mod (by omega)]; exact Nat.mod_eq_of_lt (by omega)
theorem ps_one {F sz : Nat} (hF : F < sz) : ps F sz 1 < sz := by unfold ps; split <;> omega
theorem ps_next {F sz i : Nat} (hF : F < sz) (hi : i + 1 ≤ sz) : ps (ps F sz 1) sz i = ps F sz (i + 1) := by
  unfold ps; split <;> split <;> split <;> omega
def lst (F sz n : Nat) (g : Nat → It) : List It := (List.range n).map fun i => g (ps F sz i)
@[simp] theorem lst_length (F sz n : Nat) (g : Nat → It) : (lst F sz n g).length = n := by simp [lst]
def it0 : It := ⟨0, 0⟩
theorem lst_get {F sz n i : Nat} (g : Nat → It) (hi : i < n) : (lst F sz n g).getD i it0 = g (ps F sz i) := by
  simp [lst, List.getD, hi]
theorem lst_getElem? {F sz n i : Nat} (g : Nat → It) : (lst F sz n g)[i]? = if i < n then some (g (ps F sz i)) else none := by
  by_cases h : i < n <;> simp [lst, h]
/-- Items behind the gap move forward. -/
def gapA (g : Nat → It) (gap last : Nat) : Nat → It := fun j => if gap ≤ j ∧ j < last then g (j + 1) else g j
def gapB (g : Nat → It) (gap sz : Nat) : Nat → It := fun j => if gap ≤ j ∧ j < sz - 1 then g (j + 1) else g j
def gapC (g : Nat → It) (sz : Nat) : Nat → It := fun j => if j = sz - 1 then g 0 else g j
def closed (g : Nat → It) (sz gap last : Nat) : Nat → It := if last < gap then gapA (gapC (gapB g gap sz) sz) 0 last else gapA g gap last
def cj (sz gap last j : Nat) : Nat := if last < gap then (if j < last then j + 1 else if j = sz - 1 then 0 else if gap ≤ j then j + 1 else j) else if gap ≤ j ∧ j < last then j + 1 else j
theorem closed_at {g : Nat → It} {sz gap last j : Nat} (hg : gap < sz) (hj : j < sz) : closed g sz gap last j = g (cj sz gap last j) := by
  unfold closed cj
  by_cases h : last < gap
  · rw [if_pos h, if_pos h]
    unfold gapA gapC gapB
    by_cases h1 : j < last
    · rw [if_pos h1, if_pos (by omega), if_neg (by omega), if_neg (by omega)]
    · rw [if_neg h1, if_neg (by omega)]
      by_cases h2 : j = sz - 1
      · rw [if_pos h2, if_pos h2, if_neg (by omega)]
      · rw [if_neg h2, if_neg h2]
        by_cases h3 : gap ≤ j
        · rw [if_pos h3, if_pos (by omega)]
        · rw [if_neg h3, if_neg (by omega)]
  · rw [if_neg h, if_neg h]
    unfold gapA
    split <;> rfl
theorem cj_ps {F sz n pl i : Nat} (hF : F < sz) (hn : n ≤ sz) (h0 : 0 < pl) (hp : pl < n) (hi : i < n - 1) :
    cj sz (ps F sz pl) (ps F sz (n - 1)) (ps F sz i) = if i < pl then ps F sz i else ps F sz (i + 1) := by
  unfold cj ps
  (repeat' split) <;> omega
theorem lst_closed {F sz n pl : Nat} {g : Nat → It} (hF : F < sz) (hn : n ≤ sz) (h0 : 0 < pl) (hp : pl < n) :
    lst F sz (n - 1) (closed g sz (ps F sz pl) (ps F sz (n - 1))) = (lst F sz n g).eraseIdx pl := by
  apply List.ext_getElem?
  intro i
  rw [lst_getElem?, List.getElem?_eraseIdx]
  by_cases hi : i < n - 1
  · rw [if_pos hi, closed_at (ps_lt hF (by omega)) (ps_lt hF (by omega)), cj_ps hF hn h0 hp hi]
    by_cases hip : i < pl
    · rw [if_pos hip, if_pos hip, lst_getElem?, if_pos (by omega)]
    · rw [if_neg hip, if_neg hip, lst_getElem?, if_pos (by omega)]
  · rw [if_neg hi]
    split
    · omega
    · rw [lst_getElem?, if_neg (by omega)]
theorem lst_tail {F sz n : Nat} {g : Nat → It} (hF : F < sz) (hn : n ≤ sz) : lst (ps F sz 1) sz (n - 1) g = (lst F sz n g).eraseIdx 0 := by
  apply List.ext_getElem?
  intro i
  rw [lst_getElem?, List.getElem?_eraseIdx]
  simp only [Nat.not_lt_zero, if_false]
  rw [lst_getElem?]
  by_cases hi : i < n - 1
  · rw [if_pos hi, if_pos (by omega), ps_next hF (by omega)]
  · rw [if_neg hi, if_neg (by omega)]
def upd (g : Nat → It) (j : Nat) (x : It) : Nat → It := fun k => if k = j then x else g k
theorem lst_put {F sz n : Nat} {g : Nat → It} (x : It) (hn : n < sz) : lst F sz (n + 1) (upd g (ps F sz n) x) = lst F sz n g ++ [x] := by
  apply List.ext_getElem?
  intro i
  rw [lst_getElem?, List.getElem?_append, lst_length, lst_getElem?]
  by_cases hi : i < n
  · rw [if_pos (by omega), if_pos hi, if_pos hi]
    congr 1
    unfold upd
    rw [if_neg]
    unfold ps
    split <;> split <;> omega
  · by_cases e : i = n
    · subst e; rw [if_pos (by omega), if_neg hi, Nat.sub_self]; simp [upd]
    · rw [if_neg (by omega), if_neg hi, List.getElem?_eq_none (by simp; omega)]
/-- The first place of an id: -1 where it is not. -/
def idx (L : List It) (a : Int) : Int := match L.findIdx? (fun y => y.id == a) with | some k => k | none => -1
theorem idx_in {L : List It} {a : Int} {k : Nat} (hk : k < L.length) (h : (L.getD k it0).id = a) (hno : ∀ j, j < k → (L.getD j it0).id ≠ a) : idx L a = k := by
  unfold idx
  have : L.findIdx? (fun y => y.id == a) = some k := by
    rw [List.findIdx?_eq_some_iff_getElem]
    refine ⟨hk, ?_, fun j hj => ?_⟩
    · simp only [List.getD, List.getElem?_eq_getElem hk, Option.getD_some] at h; simpa using h
    · have := hno j hj
      simp only [List.getD, List.getElem?_eq_getElem (show j < L.length by omega), Option.getD_some] at this
      simpa using this
  rw [this]
theorem idx_out {L : List It} {a : Int} (h : ∀ k, k < L.length → (L.getD k it0).id ≠ a) : idx L a = -1 := by
  unfold idx
  have : L.findIdx? (fun y => y.id == a) = none := by
    rw [List.findIdx?_eq_none_iff]
    intro x hx
    obtain ⟨k, hk, e⟩ := List.getElem_of_mem hx
    have := h k hk
    simp only [List.getD, List.getElem?_eq_getElem hk, Option.getD_some, e] at this
    simpa using this
  rw [this]
theorem idx_cases (L : List It) (a : Int) : (∃ k : Nat, idx L a = k ∧ k < L.length ∧ (L.getD k it0).id = a ∧ ∀ j, j < k → (L.getD j it0).id ≠ a) ∨ (idx L a = -1 ∧ ∀ k, k < L.length → (L.getD k it0).id ≠ a) := by
  cases h : L.findIdx? (fun y => y.id == a) with
  | none =>
    right
    refine ⟨by unfold idx; rw [h], fun k hk e => ?_⟩
    rw [List.findIdx?_eq_none_iff] at h
    have := h _ (List.getElem_mem hk)
    simp only [List.getD, List.getElem?_eq_getElem hk, Option.getD_some] at e
    simp [e] at this
  | some k =>
    left
    have h' := h
    rw [List.findIdx?_eq_some_iff_getElem] at h'
    obtain ⟨hk, h1, h2⟩ := h'
    refine ⟨k, by unfold idx; rw [h], hk, ?_, fun j hj => ?_⟩
    · simp only [List.getD, List.getElem?_eq_getElem hk, Option.getD_some]; simpa using h1
    · have := h2 j hj
      simp only [List.getD, List.getElem?_eq_getElem (show j < L.length by omega), Option.getD_some]
      simpa using this
theorem idx_ge (L : List It) (a : Int) : -1 ≤ idx L a := by
  rcases idx_cases L a with ⟨k, h, _⟩ | ⟨h, _⟩ <;> omega
theorem idx_lt (L : List It) (a : Int) : idx L a < L.length := by
  rcases idx_cases L a with ⟨k, h, hk, _⟩ | ⟨h, _⟩ <;> omega
/-- What is without an id. -/
def rmv (L : List It) (a : Int) : List It := if 0 ≤ idx L a then L.eraseIdx (idx L a).toNat else L
def fst1 (L : List It) : Int := match L with | [] => 0 | x :: _ => x.id
def fst3 (L : List It) : Bool := match L with | [] => false | _ :: _ => true
def tkt (L : List It) (a : Int) : Int := if 0 ≤ idx L a then (L.getD (idx L a).toNat it0).tk else 0
def putE (R : Int) (L : List It) (a : Int) : Int := if 0 ≤ idx L a then 4 else if R ≤ L.length then 3 else 0
def putK (R T : Int) (L : List It) (a : Int) : Int := if putE R L a = 0 then T + 1 else 0
def putT (R T : Int) (L : List It) (a : Int) : Int := if putE R L a = 0 then T + 1 else T
def putL (R T : Int) (L : List It) (a : Int) : List It := if putE R L a = 0 then L ++ [⟨a, T + 1⟩] else L
/-- A size that is a power of two; the mask. -/
def Pow (sz : Nat) : Prop := ∃ m, m ≤ 8 ∧ sz = 2 ^ m
theorem Pow.pos {sz : Nat} (h : Pow sz) : 0 < sz := by obtain ⟨m, _, rfl⟩ := h; exact Nat.two_pow_pos _
theorem Pow.le {sz : Nat} (h : Pow sz) : sz ≤ 256 := by obtain ⟨m, hm, rfl⟩ := h; exact Nat.pow_le_pow_right (by omega) (show m ≤ 8 from hm)
theorem i64_and_nat (a b : Nat) (ha : a < 9223372036854775808) (hb : b < 9223372036854775808) : bits .and .i64 (a : Int) (b : Int) = ((a &&& b : Nat) : Int) := by
  have hx : a &&& b < 2 ^ 63 := Nat.and_lt_two_pow _ (by omega)
  show IntKind.i64.wrap ((BitVec.ofInt 64 (a : Int) &&& BitVec.ofInt 64 (b : Int)).toNat : Int) = _
  rw [BitVec.toNat_and, ofInt_u64 a (by omega), ofInt_u64 b (by omega)]
  simp only [IntKind.wrap, IntKind.bits, IntKind.signed]
  simp
  omega
theorem i64_or_nat (a b : Nat) (ha : a < 9223372036854775808) (hb : b < 9223372036854775808) : bits .or .i64 (a : Int) (b : Int) = ((a ||| b : Nat) : Int) := by
  have hx : a ||| b < 2 ^ 63 := Nat.or_lt_two_pow (by omega) (by omega)
  show IntKind.i64.wrap ((BitVec.ofInt 64 (a : Int) ||| BitVec.ofInt 64 (b : Int)).toNat : Int) = _
  rw [BitVec.toNat_or, ofInt_u64 a (by omega), ofInt_u64 b (by omega)]
  simp only [IntKind.wrap, IntKind.bits, IntKind.signed]
  simp
  omega
theorem mask_ps {F sz i : Nat} (h : Pow sz) (hF : F < sz) (hi : i ≤ sz) : bits .and .i64 ((F : Int) + (i : Int)) ((sz : Int) - 1) = (ps F sz i : Int) := by
  have hp := h.pos
  have hl := h.le
  have e1 : (F : Int) + (i : Int) = ((F + i : Nat) : Int) := by omega
  have e2 : (sz : Int) - 1 = ((sz - 1 : Nat) : Int) := by omega
  rw [e1, e2, i64_and_nat _ _ (by omega) (by omega), ← ps_mod hF hi]
  obtain ⟨m, hm, rfl⟩ := h
  rw [Nat.and_two_pow_sub_one_eq_mod]
end Go.Proofs.Ytimkdcpghhkloaa.rin
