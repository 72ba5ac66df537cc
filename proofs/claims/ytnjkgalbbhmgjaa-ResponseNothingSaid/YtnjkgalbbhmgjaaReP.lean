/- Plain mathematics of layer 16: nothing ahead; what a refusal answers. -/
import Derived.Test.YtnjkgalbbhmgjaaReM
namespace Go.Proofs.Ytnjkgalbbhmgjaa.rsp
theorem bn_zero_go {own bl rl : Int} {a b : List Ld} {limit : Int} : ∀ (k : Nat) (n : Int), (bnGo own bl rl a b limit k n).2 ≠ 0 → (bnGo own bl rl a b limit k n).1 = 0
  | 0, n, _ => rfl
  | k + 1, n, h0 => by
    rw [bnGo] at h0 ⊢
    by_cases h1 : wiE own bl rl a b n ≠ 0
    · rw [if_pos h1]
    · rw [if_neg h1] at h0 ⊢
      by_cases h2 : wiV own bl rl a b n ≤ n
      · rw [if_pos h2] at h0; exact absurd rfl h0
      · rw [if_neg h2] at h0 ⊢
        by_cases h3 : limit < wiV own bl rl a b n
        · rw [if_pos h3]
        · rw [if_neg h3] at h0 ⊢
          exact bn_zero_go k _ h0
/-- Who is refused gets nought. -/
theorem bn_zero {own bl rl : Int} {a b : List Ld} {limit : Int} (h0 : (bnP own bl rl a b limit).2 ≠ 0) : (bnP own bl rl a b limit).1 = 0 := by
  unfold bnP at h0 ⊢
  by_cases h : right own bl rl a b = true ∧ 1 ≤ limit ∧ limit ≤ 1099511627776
  · rw [if_pos h] at h0 ⊢; exact bn_zero_go 5000 1 h0
  · rw [if_neg h]
theorem bn_err_go (own bl rl : Int) (a b : List Ld) (limit : Int) : ∀ (k : Nat) (n : Int), 0 ≤ (bnGo own bl rl a b limit k n).2 ∧ (bnGo own bl rl a b limit k n).2 ≤ 12
  | 0, n => by rw [bnGo]; exact ⟨by decide, by decide⟩
  | k + 1, n => by
    rw [bnGo]
    by_cases h1 : wiE own bl rl a b n ≠ 0
    · rw [if_pos h1]
      rcases wi_cases own bl rl a b n with ⟨e, _⟩ | ⟨_, _, e, _⟩ | ⟨_, _, e, _⟩ <;> dsimp only <;> omega
    · rw [if_neg h1]
      by_cases h2 : wiV own bl rl a b n ≤ n
      · rw [if_pos h2]; dsimp only; omega
      · rw [if_neg h2]
        by_cases h3 : limit < wiV own bl rl a b n
        · rw [if_pos h3]; dsimp only; omega
        · rw [if_neg h3]; exact bn_err_go own bl rl a b limit k _
theorem bn_err (own bl rl : Int) (a b : List Ld) (limit : Int) : 0 ≤ (bnP own bl rl a b limit).2 ∧ (bnP own bl rl a b limit).2 ≤ 12 := by
  unfold bnP
  by_cases h : right own bl rl a b = true ∧ 1 ≤ limit ∧ limit ≤ 1099511627776
  · rw [if_pos h]; exact bn_err_go own bl rl a b limit 5000 1
  · rw [if_neg h]; dsimp only; omega
theorem wi_ok {own bl rl : Int} {a b : List Ld} {n : Int} (h : right own bl rl a b = true) (hn : 0 ≤ n ∧ n ≤ 4611686018427387904) (hs : wiS own bl rl a b n ≤ 4611686018427387904) : wiE own bl rl a b n = 0 ∧ wiV own bl rl a b n = wiS own bl rl a b n := by
  rcases wi_cases own bl rl a b n with ⟨_, _, e⟩ | ⟨_, o, _, _⟩ | ⟨_, _, e, v⟩
  · exact absurd ⟨h, hn⟩ e
  · omega
  · exact ⟨e, v⟩
theorem right_nil {own bl : Int} (h : (0 ≤ own ∧ own ≤ 1099511627776) ∧ 0 ≤ bl ∧ bl ≤ 1099511627776) : right own bl 0 [] [] = true := right_iff.2 ⟨rfl, rfl, h.1, h.2, by omega, by omega⟩
theorem wi_nil {own bl n : Int} (h : (0 ≤ own ∧ own ≤ 1099511627776) ∧ 0 ≤ bl ∧ bl ≤ 1099511627776) (hn : 0 ≤ n ∧ n ≤ 4611686018427387904) : wiE own bl 0 [] [] n = 0 ∧ wiV own bl 0 [] [] n = own + bl := by
  have hs : wiS own bl 0 [] [] n = own + bl := by rw [wiS_L]; simp [sL]
  rcases wi_cases own bl 0 [] [] n with ⟨_, _, e⟩ | ⟨_, o, _, _⟩ | ⟨_, _, e, v⟩
  · exact absurd ⟨right_nil h, hn⟩ e
  · omega
  · exact ⟨e, by rw [v, hs]⟩
theorem alone_go {own bl : Int} (h : (0 ≤ own ∧ own ≤ 1099511627776) ∧ 0 ≤ bl ∧ bl ≤ 1099511627776) (k : Nat) : bnGo own bl 0 [] [] 1099511627776 (k + 2) 1 = if 1099511627776 < own + bl then (0, 12) else if 1 < own + bl then (own + bl, 0) else (1, 0) := by
  rw [bnGo]
  obtain ⟨e1, v1⟩ := wi_nil h (n := 1) (by omega)
  rw [if_neg (by omega), v1]
  by_cases h1 : own + bl ≤ 1
  · rw [if_pos h1, if_neg (by omega), if_neg (by omega)]
  · rw [if_neg h1]
    by_cases h2 : 1099511627776 < own + bl
    · rw [if_pos h2, if_pos h2]
    · rw [if_neg h2, if_neg h2, if_pos (by omega), bnGo]
      obtain ⟨e2, v2⟩ := wi_nil h (n := own + bl) (by omega)
      rw [if_neg (by omega), v2, if_pos (Int.le_refl _)]
theorem alone_bad {own bl : Int} (h : ¬ ((0 ≤ own ∧ own ≤ 1099511627776) ∧ 0 ≤ bl ∧ bl ≤ 1099511627776)) : bnP own bl 0 [] [] 1099511627776 = (0, 1) := by
  unfold bnP; rw [if_neg (fun h9 => by have := right_iff.1 h9.1; omega)]
theorem alone_good {own bl : Int} (h : (0 ≤ own ∧ own ≤ 1099511627776) ∧ 0 ≤ bl ∧ bl ≤ 1099511627776) : bnP own bl 0 [] [] 1099511627776 = if 1099511627776 < own + bl then (0, 12) else if 1 < own + bl then (own + bl, 0) else (1, 0) := by
  unfold bnP; rw [if_pos ⟨right_nil h, by omega, by omega⟩]; exact alone_go h 4998
end Go.Proofs.Ytnjkgalbbhmgjaa.rsp
