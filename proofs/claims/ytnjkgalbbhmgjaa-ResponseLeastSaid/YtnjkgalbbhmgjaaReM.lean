/- Plain mathematics of layer 16: what there may be to do within some ticks, how long a job takes. -/
import Derived.Test.YtnjkgalbbhmgjaaBase
namespace Go.Proofs.Ytnjkgalbbhmgjaa.rsp
/-- What goes ahead, or comes beside. -/
structure Ld where
  w : Int
  p : Int
  j : Int
def ld0 : Ld := ⟨0, 0, 0⟩
instance : Inhabited Ld := ⟨ld0⟩
def inT (a b : Int) : Bool := decide (a ≤ b) && decide (b ≤ 1099511627776)
theorem inT_true {a b : Int} : inT a b = true ↔ a ≤ b ∧ b ≤ 1099511627776 := by unfold inT; simp
theorem inT_false {a b : Int} : inT a b = false ↔ b < a ∨ 1099511627776 < b := by
  unfold inT
  rw [Bool.and_eq_false_iff, decide_eq_false_iff_not, decide_eq_false_iff_not]; omega
def okD (x : Ld) : Bool := inT 0 x.w && (inT 1 x.p && inT 0 x.j)
theorem okD_iff {x : Ld} : okD x = true ↔ (0 ≤ x.w ∧ x.w ≤ 1099511627776) ∧ (1 ≤ x.p ∧ x.p ≤ 1099511627776) ∧ 0 ≤ x.j ∧ x.j ≤ 1099511627776 := by
  unfold okD; simp only [Bool.and_eq_true, inT_true]
def okLs (l : List Ld) : Bool := decide (l.length ≤ 72) && l.all okD
theorem okLs_iff {l : List Ld} : okLs l = true ↔ l.length ≤ 72 ∧ ∀ x ∈ l, okD x = true := by
  unfold okLs; simp only [Bool.and_eq_true, decide_eq_true_eq, List.all_eq_true]
def right (own bl rl : Int) (a b : List Ld) : Bool := okLs a && (okLs b && (inT 0 own && (inT 0 bl && inT 0 rl)))
theorem right_iff {own bl rl : Int} {a b : List Ld} : right own bl rl a b = true ↔ okLs a = true ∧ okLs b = true ∧ (0 ≤ own ∧ own ≤ 1099511627776) ∧ (0 ≤ bl ∧ bl ≤ 1099511627776) ∧ 0 ≤ rl ∧ rl ≤ 1099511627776 := by
  unfold right; simp only [Bool.and_eq_true, inT_true]
/-- n by d, rounded up. -/
def up (n d : Int) : Int := n / d + if 0 < n % d then 1 else 0
theorem up_bd {n d : Int} (hn : 0 ≤ n) (hd : 1 ≤ d) : 0 ≤ up n d ∧ up n d ≤ n := by
  unfold up
  have h1 := Int.emod_add_mul_ediv n d
  have h2 := Int.emod_nonneg n (show d ≠ 0 by omega)
  have h3 := Int.emod_lt_of_pos n (show 0 < d by omega)
  have hq : 0 ≤ n / d := Int.ediv_nonneg (by omega) (by omega)
  have hle : n / d ≤ d * (n / d) := by
    have := Int.mul_le_mul_of_nonneg_right hd hq
    omega
  constructor <;> split <;> omega
/-- Within more ticks no less. -/
theorem up_mono {m n d : Int} (_ : 0 ≤ m) (hmn : m ≤ n) (hd : 1 ≤ d) : up m d ≤ up n d := by
  unfold up
  have h1 := Int.emod_add_mul_ediv n d
  have h2 := Int.emod_nonneg n (show d ≠ 0 by omega)
  have h3 := Int.emod_lt_of_pos n (show 0 < d by omega)
  have k1 := Int.emod_add_mul_ediv m d
  have k2 := Int.emod_nonneg m (show d ≠ 0 by omega)
  have k3 := Int.emod_lt_of_pos m (show 0 < d by omega)
  have hle : m / d ≤ n / d := Int.ediv_le_ediv (by omega) hmn
  rcases (show m / d = n / d ∨ m / d + 1 ≤ n / d by omega) with e | e
  · rw [e] at k1 ⊢
    split <;> split <;> omega
  · split <;> split <;> omega
def fA (n : Int) (x : Ld) : Int := up (n + x.j) x.p * x.w
def fB (rl n : Int) (x : Ld) : Int := (up (n + x.j) x.p + 1) * rl
theorem fA_pos {n : Int} {x : Ld} (hn : 0 ≤ n) (hx : okD x = true) : 0 ≤ fA n x := by
  obtain ⟨⟨w0, _⟩, ⟨p0, _⟩, j0, _⟩ := okD_iff.1 hx
  have := up_bd (n := n + x.j) (by omega) p0
  exact Int.mul_nonneg (by omega) w0
theorem fB_pos {rl n : Int} {x : Ld} (hn : 0 ≤ n) (hr : 0 ≤ rl) (hx : okD x = true) : 0 ≤ fB rl n x := by
  obtain ⟨_, ⟨p0, _⟩, j0, _⟩ := okD_iff.1 hx
  have := up_bd (n := n + x.j) (by omega) p0
  exact Int.mul_nonneg (by omega) hr
theorem fA_mono {m n : Int} {x : Ld} (hm : 0 ≤ m) (h : m ≤ n) (hx : okD x = true) : fA m x ≤ fA n x := by
  obtain ⟨⟨w0, _⟩, ⟨p0, _⟩, j0, _⟩ := okD_iff.1 hx
  exact Int.mul_le_mul_of_nonneg_right (up_mono (by omega) (by omega) p0) w0
theorem fB_mono {rl m n : Int} {x : Ld} (hm : 0 ≤ m) (h : m ≤ n) (hr : 0 ≤ rl) (hx : okD x = true) : fB rl m x ≤ fB rl n x := by
  obtain ⟨_, ⟨p0, _⟩, j0, _⟩ := okD_iff.1 hx
  exact Int.mul_le_mul_of_nonneg_right (by have := up_mono (m := m + x.j) (n := n + x.j) (by omega) (by omega) p0; omega) hr
/-- The sum over the first i. -/
def sN (s : Int) (f : Ld → Int) (l : List Ld) : Nat → Int
  | 0 => s
  | i + 1 => sN s f l i + f (l.getD i ld0)
theorem getD_some {l : List Ld} {i : Nat} {x : Ld} (h : l[i]? = some x) : l.getD i ld0 = x := by simp [List.getD, h]
theorem sN_succ {s : Int} {f : Ld → Int} {l : List Ld} {i : Nat} {x : Ld} (h : l[i]? = some x) : sN s f l (i + 1) = sN s f l i + f x := by rw [sN, getD_some h]
theorem sN_mono {s : Int} {f : Ld → Int} {l : List Ld} (hf : ∀ x ∈ l, 0 ≤ f x) {i j : Nat} (hij : i ≤ j) (hj : j ≤ l.length) : sN s f l i ≤ sN s f l j := by
  induction j with
  | zero => obtain rfl : i = 0 := by omega
            exact Int.le_refl _
  | succ j ih =>
    by_cases e : i = j + 1
    · rw [e]; exact Int.le_refl _
    · have h := ih (by omega) (by omega)
      have hx : l[j]? = some l[j] := List.getElem?_eq_getElem (by omega)
      rw [sN_succ hx]
      have := hf _ (List.mem_of_getElem? hx)
      omega
theorem sN_ge {s : Int} {f : Ld → Int} {l : List Ld} (hf : ∀ x ∈ l, 0 ≤ f x) {i : Nat} (hi : i ≤ l.length) : s ≤ sN s f l i := by
  have := sN_mono (s := s) hf (Nat.zero_le i) hi
  rwa [sN] at this
def sL (f : Ld → Int) : List Ld → Int
  | [] => 0
  | x :: l => f x + sL f l
theorem sL_app (f : Ld → Int) (a b : List Ld) : sL f (a ++ b) = sL f a + sL f b := by
  induction a with
  | nil => simp [sL]
  | cons x a ih => rw [List.cons_append, sL, sL, ih]; omega
theorem sN_take (s : Int) (f : Ld → Int) (l : List Ld) {i : Nat} (hi : i ≤ l.length) : sN s f l i = s + sL f (l.take i) := by
  induction i with
  | zero => simp [sN, sL]
  | succ i ih =>
    have hx : l[i]? = some l[i] := List.getElem?_eq_getElem (by omega)
    rw [sN_succ hx, ih (by omega), List.take_add_one, hx, sL_app]
    simp [sL]; omega
theorem sN_all (s : Int) (f : Ld → Int) (l : List Ld) : sN s f l l.length = s + sL f l := by
  rw [sN_take s f l (Nat.le_refl _), List.take_length]
theorem sL_le {f g : Ld → Int} {l : List Ld} (h : ∀ x ∈ l, f x ≤ g x) : sL f l ≤ sL g l := by
  induction l with
  | nil => exact Int.le_refl 0
  | cons x l ih =>
    rw [sL, sL]
    have := h x (by simp)
    have := ih (fun y hy => h y (by simp [hy]))
    omega
theorem sL_pos {f : Ld → Int} {l : List Ld} (h : ∀ x ∈ l, 0 ≤ f x) : 0 ≤ sL f l := by
  induction l with
  | nil => exact Int.le_refl 0
  | cons x l ih =>
    rw [sL]
    have := h x (by simp)
    have := ih (fun y hy => h y (by simp [hy]))
    omega
/-- What there may be to do within n ticks. -/
def wiA (own bl : Int) (a : List Ld) (n : Int) : Int := sN (own + bl) (fA n) a a.length
def wiS (own bl rl : Int) (a b : List Ld) (n : Int) : Int := sN (wiA own bl a n) (fB rl n) b b.length
theorem wiS_L (own bl rl : Int) (a b : List Ld) (n : Int) : wiS own bl rl a b n = own + bl + sL (fA n) a + sL (fB rl n) b := by
  unfold wiS wiA; rw [sN_all, sN_all]
def wiE (own bl rl : Int) (a b : List Ld) (n : Int) : Int := if right own bl rl a b = true ∧ 0 ≤ n ∧ n ≤ 4611686018427387904 then (if 4611686018427387904 < wiS own bl rl a b n then 2 else 0) else 1
def wiV (own bl rl : Int) (a b : List Ld) (n : Int) : Int := if wiE own bl rl a b n = 0 then wiS own bl rl a b n else 0
theorem wi_cases (own bl rl : Int) (a b : List Ld) (n : Int) : (wiE own bl rl a b n = 1 ∧ wiV own bl rl a b n = 0 ∧ ¬ (right own bl rl a b = true ∧ 0 ≤ n ∧ n ≤ 4611686018427387904)) ∨ ((right own bl rl a b = true ∧ 0 ≤ n ∧ n ≤ 4611686018427387904) ∧ 4611686018427387904 < wiS own bl rl a b n ∧ wiE own bl rl a b n = 2 ∧ wiV own bl rl a b n = 0) ∨
    ((right own bl rl a b = true ∧ 0 ≤ n ∧ n ≤ 4611686018427387904) ∧ wiS own bl rl a b n ≤ 4611686018427387904 ∧ wiE own bl rl a b n = 0 ∧ wiV own bl rl a b n = wiS own bl rl a b n) := by
  unfold wiV wiE
  by_cases h : right own bl rl a b = true ∧ 0 ≤ n ∧ n ≤ 4611686018427387904
  · rw [if_pos h]
    by_cases ho : 4611686018427387904 < wiS own bl rl a b n
    · rw [if_pos ho]; exact .inr (.inl ⟨h, ho, rfl, by simp⟩)
    · rw [if_neg ho]; exact .inr (.inr ⟨h, by omega, rfl, by simp⟩)
  · rw [if_neg h]
    exact .inl ⟨rfl, by simp, h⟩
def bnGo (own bl rl : Int) (a b : List Ld) (limit : Int) : Nat → Int → Int × Int
  | 0, _ => (0, 11)
  | k + 1, n => if wiE own bl rl a b n ≠ 0 then (0, wiE own bl rl a b n) else if wiV own bl rl a b n ≤ n then (n, 0) else if limit < wiV own bl rl a b n then (0, 12) else bnGo own bl rl a b limit k (wiV own bl rl a b n)
def bnP (own bl rl : Int) (a b : List Ld) (limit : Int) : Int × Int := if right own bl rl a b = true ∧ 1 ≤ limit ∧ limit ≤ 1099511627776 then bnGo own bl rl a b limit 5000 1 else (0, 1)
theorem wi_mono {own bl rl : Int} {a b : List Ld} {m n : Int} (h : right own bl rl a b = true) (hm : 0 ≤ m) (hn : m ≤ n) : wiS own bl rl a b m ≤ wiS own bl rl a b n := by
  obtain ⟨h1, h2, _, _, h3, _⟩ := right_iff.1 h
  have e1 := sL_le (f := fA m) (g := fA n) (l := a) (fun x hx => fA_mono hm hn ((okLs_iff.1 h1).2 x hx))
  have e2 := sL_le (f := fB rl m) (g := fB rl n) (l := b) (fun x hx => fB_mono hm hn h3 ((okLs_iff.1 h2).2 x hx))
  rw [wiS_L, wiS_L]; omega
theorem wi_pos {own bl rl : Int} {a b : List Ld} {n : Int} (h : right own bl rl a b = true) (hn : 0 ≤ n) : 0 ≤ wiS own bl rl a b n := by
  obtain ⟨h1, h2, ⟨o0, _⟩, ⟨b0, _⟩, h3, _⟩ := right_iff.1 h
  have e1 := sL_pos (f := fA n) (l := a) (fun x hx => fA_pos hn ((okLs_iff.1 h1).2 x hx))
  have e2 := sL_pos (f := fB rl n) (l := b) (fun x hx => fB_pos hn h3 ((okLs_iff.1 h2).2 x hx))
  rw [wiS_L]; omega
/-- The search, from n on: it ends at the least number that is not less than what there is to do. -/
theorem bn_go {own bl rl : Int} {a b : List Ld} {limit : Int} (h : right own bl rl a b = true) (hl : limit ≤ 1099511627776) : ∀ (k : Nat) (n : Int), 1 ≤ n → n ≤ 1099511627776 → (∀ m, 1 ≤ m → m < n → m < wiS own bl rl a b m) → (bnGo own bl rl a b limit k n).2 = 0 →
    n ≤ (bnGo own bl rl a b limit k n).1 ∧ (bnGo own bl rl a b limit k n).1 ≤ 1099511627776 ∧ ((bnGo own bl rl a b limit k n).1 = n ∨ (bnGo own bl rl a b limit k n).1 ≤ limit) ∧ wiS own bl rl a b (bnGo own bl rl a b limit k n).1 ≤ (bnGo own bl rl a b limit k n).1 ∧ ∀ m, 1 ≤ m → m < (bnGo own bl rl a b limit k n).1 → m < wiS own bl rl a b m
  | 0, n, _, _, _, h0 => by rw [bnGo] at h0; cases h0
  | k + 1, n, h1, h2, hm, h0 => by
    rw [bnGo] at h0 ⊢
    rcases wi_cases own bl rl a b n with ⟨_, _, e⟩ | ⟨_, _, e, _⟩ | ⟨_, _, e, v⟩
    · exact absurd ⟨h, by omega, by omega⟩ e
    · rw [if_pos (by omega), e] at h0; cases h0
    · rw [if_neg (by omega), v] at h0
      rw [if_neg (by omega), v]
      by_cases hc : wiS own bl rl a b n ≤ n
      · rw [if_pos hc]
        exact ⟨Int.le_refl _, h2, .inl rfl, hc, hm⟩
      · rw [if_neg hc] at h0 ⊢
        by_cases hx : limit < wiS own bl rl a b n
        · rw [if_pos hx] at h0; cases h0
        · rw [if_neg hx] at h0 ⊢
          obtain ⟨i1, i2, i3, i4, i5⟩ := bn_go h hl k (wiS own bl rl a b n) (by omega) (by omega) (fun m m1 m2 => by
            by_cases e : m < n
            · exact hm m m1 e
            · have := wi_mono h (show 0 ≤ n by omega) (show n ≤ m by omega)
              omega) h0
          exact ⟨by omega, i2, .inr (by rcases i3 with i3 | i3 <;> omega), i4, i5⟩
/-- What it means that Bound says OK. -/
theorem bn_ok {own bl rl : Int} {a b : List Ld} {limit : Int} (h0 : (bnP own bl rl a b limit).2 = 0) : right own bl rl a b = true ∧ (1 ≤ limit ∧ limit ≤ 1099511627776) ∧ 1 ≤ (bnP own bl rl a b limit).1 ∧ (bnP own bl rl a b limit).1 ≤ 1099511627776 ∧ ((bnP own bl rl a b limit).1 = 1 ∨ (bnP own bl rl a b limit).1 ≤ limit) ∧ wiS own bl rl a b (bnP own bl rl a b limit).1 ≤ (bnP own bl rl a b limit).1 ∧ ∀ m, 1 ≤ m → m < (bnP own bl rl a b limit).1 → m < wiS own bl rl a b m := by
  unfold bnP at h0 ⊢
  by_cases h : right own bl rl a b = true ∧ 1 ≤ limit ∧ limit ≤ 1099511627776
  · rw [if_pos h] at h0 ⊢
    obtain ⟨i1, i2, i3, i4, i5⟩ := bn_go h.1 h.2.2 5000 1 (by omega) (by omega) (fun m m1 m2 => by omega) h0
    exact ⟨h.1, h.2, i1, i2, i3, i4, i5⟩
  · rw [if_neg h] at h0; cases h0
/-- Where some number of ticks is enough, the search ends there or before, or the steps are too many. -/
theorem bn_under {own bl rl : Int} {a b : List Ld} {limit r : Int} (h : right own bl rl a b = true) (r2 : r ≤ 1099511627776) (hr : wiS own bl rl a b r ≤ r) (hl : r = 1 ∨ r ≤ limit) : ∀ (k : Nat) (n : Int), 1 ≤ n → n ≤ r → bnGo own bl rl a b limit k n = (0, 11) ∨ ((bnGo own bl rl a b limit k n).2 = 0 ∧ 1 ≤ (bnGo own bl rl a b limit k n).1 ∧ (bnGo own bl rl a b limit k n).1 ≤ r)
  | 0, _, _, _ => .inl rfl
  | k + 1, n, n1, n2 => by
    rw [bnGo]
    have hm := wi_mono h (show 0 ≤ n by omega) n2
    rcases wi_cases own bl rl a b n with ⟨_, _, e⟩ | ⟨_, o, _, _⟩ | ⟨_, _, e, v⟩
    · exact absurd ⟨h, by omega, by omega⟩ e
    · omega
    · rw [if_neg (by omega), v]
      by_cases hc : wiS own bl rl a b n ≤ n
      · rw [if_pos hc]; exact .inr ⟨rfl, n1, n2⟩
      · rw [if_neg hc, if_neg (by omega)]
        exact bn_under h r2 hr hl k _ (by omega) (by omega)
end Go.Proofs.Ytnjkgalbbhmgjaa.rsp
