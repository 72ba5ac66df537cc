/- Cores as states; isCount, isOperation, bitOf, areCosts, find. -/
import Derived.Test.YtaichiodlbdpjaaV0
namespace Go.Proofs.Ytaichiodlbdpjaa
open Go.ChangeShapes Go.WideShapes Go.ChangeAt Go.RowKit Go.Deep
/-- What is known of a core: what it owes, its last task, its steps. -/
structure St where
  o : Int
  l : Int
  s : Int
/-- The costs of the three operations. -/
structure Cs where
  a : Int
  b : Int
  c : Int
def flat (f : Nat → St) (j : Nat) : Value := .int .i64 (if j % 3 = 0 then (f (j / 3)).o else if j % 3 = 1 then (f (j / 3)).l else (f (j / 3)).s)
theorem flat0 (f : Nat → St) (k : Nat) : flat f (k * 3) = .int .i64 (f k).o := by
  unfold flat; rw [if_pos (by omega), show k * 3 / 3 = k by omega]
theorem flat1 (f : Nat → St) (k : Nat) : flat f (k * 3 + 1) = .int .i64 (f k).l := by
  unfold flat; rw [if_neg (by omega), if_pos (by omega), show (k * 3 + 1) / 3 = k by omega]
theorem flat2 (f : Nat → St) (k : Nat) : flat f (k * 3 + 2) = .int .i64 (f k).s := by
  unfold flat; rw [if_neg (by omega), if_neg (by omega), show (k * 3 + 2) / 3 = k by omega]
def upd (f : Nat → St) (k : Nat) (s : St) : Nat → St := fun j => if j = k then s else f j
theorem flat_o (f : Nat → St) (k : Nat) (v : Int) : (fun j => if j = k * 3 then Value.int .i64 v else flat f j) = flat (upd f k ⟨v, (f k).l, (f k).s⟩) := by
  funext j
  unfold flat upd
  by_cases h : j / 3 = k
  · by_cases h0 : j % 3 = 0
    · rw [if_pos (by omega), if_pos h0, if_pos h]
    · rw [if_neg (by omega), if_neg h0, if_neg h0, if_pos h, h]
  · rw [if_neg (by omega), if_neg h]
theorem flat_l (f : Nat → St) (k : Nat) (v : Int) : (fun j => if j = k * 3 + 1 then Value.int .i64 v else flat f j) = flat (upd f k ⟨(f k).o, v, (f k).s⟩) := by
  funext j
  unfold flat upd
  by_cases h : j / 3 = k
  · by_cases h0 : j % 3 = 1
    · rw [if_pos (by omega), if_neg (by omega), if_pos h0, if_pos h]
    · rw [if_neg (by omega), if_neg h0, if_neg h0, if_pos h, h]
  · rw [if_neg (by omega), if_neg h]
theorem flat_s (f : Nat → St) (k : Nat) (v : Int) : (fun j => if j = k * 3 + 2 then Value.int .i64 v else flat f j) = flat (upd f k ⟨(f k).o, (f k).l, v⟩) := by
  funext j
  unfold flat upd
  by_cases h : j / 3 = k
  · by_cases h0 : j % 3 = 2
    · rw [if_pos (by omega), if_neg (by omega), if_neg (by omega), if_pos h]
    · rw [if_neg (by omega), if_pos h, h]
      by_cases h1 : j % 3 = 0
      · rw [if_pos h1, if_pos h1]
      · rw [if_neg h1, if_neg h1, if_pos (by omega), if_pos (by omega)]
  · rw [if_neg (by omega), if_neg h]
/-- The blocks of some cores. -/
structure Cr (w : World) (p q n : Nat) (C : Cs) (f : Nat → St) : Prop where
  pq : p ≠ q
  hp : Blk w p #[.int .i64 C.a, .int .i64 C.b, .int .i64 C.c, .slice (some ⟨q, 0, none⟩) n n] 49
  hq : Vals w q 47 (n * 3) (flat f)
  n8 : n ≤ 8
def Own (p q : Nat) : Nat → Prop := fun k => k = p ∨ k = q
theorem Cr.but {w w' : World} {p q n : Nat} {C : Cs} {f : Nat → St} {S : Nat → Prop} (h : Cr w p q n C f) (hb : But S w w') (hs : ∀ k, Own p q k → ¬ S k) : Cr w' p q n C f :=
  ⟨h.pq, h.hp.but hb (hs p (.inl rfl)), h.hq.but hb (hs q (.inr rfl)), h.n8⟩
theorem Cr.no {w w' : World} {p q n : Nat} {C : Cs} {f : Nat → St} (h : Cr w p q n C f) (hb : But No w w') : Cr w' p q n C f := h.but hb (fun _ _ x => x)
theorem Cr.set {w : World} {p q n : Nat} {C : Cs} {f g : Nat → St} (h : Cr w p q n C f) {o : Nat} (v : Int) (hg : (fun j => if j = o then Value.int .i64 v else flat f j) = flat g) : Cr (w.setCell ⟨q, o, none⟩ (.int .i64 v)) p q n C g :=
  ⟨h.pq, h.hp.other (a := ⟨q, o, none⟩) h.pq _, by have := h.hq.set (k := o) (.int .i64 v); rw [hg] at this; exact this, h.n8⟩
theorem isCount_any (n : Int) (w : World) : Calls Try.prog 20 #[.int .i64 n] w fun r w' => r = .returned (.bool (decide (1 ≤ n ∧ n ≤ 8))) ∧ w = w' := by
  by_cases h : 1 ≤ n
  · have b1 : decide (1 ≤ n) = true := by simpa using h
    by_cases h2 : n ≤ 8
    · have b2 : decide (n ≤ 8) = true := by simpa using h2
      have HE : Hid (decide (1 ≤ n ∧ n ≤ 8) = true) := by show _ = _; simp; omega
      clear h h2
      go_enter Try.func20, Try.ntmps20
      go_wp2
      go_ret
      exact ⟨by rw [HE.out]; rfl, rfl⟩
    · have b2 : decide (n ≤ 8) = false := by simp; omega
      have HE : Hid (decide (1 ≤ n ∧ n ≤ 8) = false) := by show _ = _; simp; omega
      clear h h2
      go_enter Try.func20, Try.ntmps20
      go_wp2
      go_ret
      exact ⟨by rw [HE.out]; rfl, rfl⟩
  · have b1 : decide (1 ≤ n) = false := by simp; omega
    have HE : Hid (decide (1 ≤ n ∧ n ≤ 8) = false) := by show _ = _; simp; omega
    clear h
    go_enter Try.func20, Try.ntmps20
    go_wp2
    go_ret
    exact ⟨by rw [HE.out]; rfl, rfl⟩
theorem isOp_any (n : Int) (w : World) : Calls Try.prog 24 #[.int .i64 n] w fun r w' => r = .returned (.bool (decide (1 ≤ n ∧ n ≤ 3))) ∧ w = w' := by
  by_cases h : 1 ≤ n
  · have b1 : decide (1 ≤ n) = true := by simpa using h
    by_cases h2 : n ≤ 3
    · have b2 : decide (n ≤ 3) = true := by simpa using h2
      have HE : Hid (decide (1 ≤ n ∧ n ≤ 3) = true) := by show _ = _; simp; omega
      clear h h2
      go_enter Try.func24, Try.ntmps24
      go_wp2
      go_ret
      exact ⟨by rw [HE.out]; rfl, rfl⟩
    · have b2 : decide (n ≤ 3) = false := by simp; omega
      have HE : Hid (decide (1 ≤ n ∧ n ≤ 3) = false) := by show _ = _; simp; omega
      clear h h2
      go_enter Try.func24, Try.ntmps24
      go_wp2
      go_ret
      exact ⟨by rw [HE.out]; rfl, rfl⟩
  · have b1 : decide (1 ≤ n) = false := by simp; omega
    have HE : Hid (decide (1 ≤ n ∧ n ≤ 3) = false) := by show _ = _; simp; omega
    clear h
    go_enter Try.func24, Try.ntmps24
    go_wp2
    go_ret
    exact ⟨by rw [HE.out]; rfl, rfl⟩
theorem bitOf_any (k : Nat) (w : World) (hk : k < 8) : Calls Try.prog 21 #[.int .i64 k] w fun r w' => r = .returned (.int .u64 ((2 ^ k : Nat) : Int)) ∧ w = w' := by
  obtain rfl | rfl | rfl | rfl | rfl | rfl | rfl | rfl : k = 0 ∨ k = 1 ∨ k = 2 ∨ k = 3 ∨ k = 4 ∨ k = 5 ∨ k = 6 ∨ k = 7 := by omega
  all_goals
    go_enter Try.func21, Try.ntmps21
    go_wp2
    go_ret
    exact ⟨rfl, rfl⟩
theorem find_in (p q n k : Nat) (C : Cs) (f : Nat → St) (w : World) (h : Cr w p q n C f) (hk : k < n) :
    Calls Try.prog 23 #[.pointer (some ⟨p, 0, none⟩), .int .i64 k] w fun r w' => r = .returned (.pointer (some ⟨q, k * 3, none⟩)) ∧ w = w' := by
  have c3 : w.cell? ⟨p, 3, none⟩ = some (.slice (some ⟨q, 0, none⟩) n n) := h.hp.cell (o := 3) rfl
  have n8 := h.n8
  have b1 : decide ((k : Int) < 0) = false := by simp
  have b2 : decide ((n : Int) ≤ (k : Int)) = false := by simp; omega
  have kn' : (k : Int) < (n : Int) := by omega
  clear h
  go_enter Try.func23, Try.ntmps23
  go_wp2
  go_ret
  exact ⟨by simp, rfl⟩
theorem find_out (p q n : Nat) (k : Int) (C : Cs) (f : Nat → St) (w : World) (h : Cr w p q n C f) (hk : k < 0 ∨ n ≤ k) :
    Calls Try.prog 23 #[.pointer (some ⟨p, 0, none⟩), .int .i64 k] w fun r w' => r = .returned (.pointer none) ∧ w = w' := by
  have c3 : w.cell? ⟨p, 3, none⟩ = some (.slice (some ⟨q, 0, none⟩) n n) := h.hp.cell (o := 3) rfl
  have n8 := h.n8
  clear h
  by_cases h0 : k < 0
  · have b1 : decide (k < 0) = true := by simpa using h0
    go_enter Try.func23, Try.ntmps23
    go_wp2
    go_ret
    exact ⟨rfl, rfl⟩
  · have b1 : decide (k < 0) = false := by simpa using h0
    have b2 : decide ((n : Int) ≤ k) = true := by simp; omega
    go_enter Try.func23, Try.ntmps23
    go_wp2
    go_ret
    exact ⟨rfl, rfl⟩
end Go.Proofs.Ytaichiodlbdpjaa
