/- The load of two lists, one behind the other. -/
import Derived.Test.YtjonlpoiiffalaaL2
namespace Go.Proofs.Ytjonlpoiiffalaa
open Go.ChangeShapes Go.WideShapes Go.ChangeAt Go.RowKit
theorem ldGo_app : ∀ (l1 l2 : List (Int × Int)) (s V : Int), ldGo s (l1 ++ l2) = (V, 0) → ∃ V1, ldGo s l1 = (V1, 0) ∧ ldGo V1 l2 = (V, 0)
  | [], l2, s, V, h => ⟨s, rfl, h⟩
  | x :: l1, l2, s, V, h => by
    rw [List.cons_append, ldGo] at h
    by_cases h1 : inR (tm x.1 x.2)
    · rw [if_pos h1] at h
      by_cases h2 : inR (s + tm x.1 x.2)
      · rw [if_pos h2] at h
        obtain ⟨V1, a, b⟩ := ldGo_app l1 l2 _ V h
        exact ⟨V1, by rw [ldGo, if_pos h1, if_pos h2]; exact a, b⟩
      · rw [if_neg h2] at h; simp at h
    · rw [if_neg h1] at h; simp at h
theorem ldGo_shift : ∀ (l : List (Int × Int)) (s s' V : Int), (∀ x ∈ l, 0 ≤ tm x.1 x.2) → 0 ≤ s' → s' ≤ s → ldGo s l = (V, 0) → ldGo s' l = (V - s + s', 0) ∧ s ≤ V
  | [], s, s', V, _, _, _, h => by
    rw [ldGo] at h
    obtain rfl : s = V := by simpa using h
    exact ⟨by rw [ldGo]; simp, by omega⟩
  | x :: l, s, s', V, hp, h0, h1, h => by
    rw [ldGo] at h
    have hx := hp x List.mem_cons_self
    by_cases g1 : inR (tm x.1 x.2)
    · rw [if_pos g1] at h
      by_cases g2 : inR (s + tm x.1 x.2)
      · rw [if_pos g2] at h
        have g3 : inR (s' + tm x.1 x.2) := by unfold inR at *; omega
        obtain ⟨k1, k2⟩ := ldGo_shift l _ (s' + tm x.1 x.2) V (fun y hy => hp y (List.mem_cons_of_mem _ hy)) (by omega) (by omega) h
        refine ⟨by rw [ldGo, if_pos g1, if_pos g3, k1]; congr 1; omega, by omega⟩
      · rw [if_neg g2] at h; simp at h
    · rw [if_neg g1] at h; simp at h
theorem ldGo_inR : ∀ (l : List (Int × Int)) (s V : Int), inR s → ldGo s l = (V, 0) → inR V
  | [], s, V, hs, h => by rw [ldGo] at h; obtain rfl : s = V := by simpa using h
                          exact hs
  | x :: l, s, V, hs, h => by
    rw [ldGo] at h
    by_cases g1 : inR (tm x.1 x.2)
    · rw [if_pos g1] at h
      by_cases g2 : inR (s + tm x.1 x.2)
      · rw [if_pos g2] at h; exact ldGo_inR l _ V g2 h
      · rw [if_neg g2] at h; simp at h
    · rw [if_neg g1] at h; simp at h
theorem ldGo_err : ∀ (l : List (Int × Int)) (s : Int), (ldGo s l).2 ≠ 0 → (ldGo s l).1 = 0
  | [], s, h => by rw [ldGo] at h; simp at h
  | x :: l, s, h => by
    rw [ldGo] at h ⊢
    by_cases g1 : inR (tm x.1 x.2)
    · rw [if_pos g1] at h ⊢
      by_cases g2 : inR (s + tm x.1 x.2)
      · rw [if_pos g2] at h ⊢; exact ldGo_err l _ h
      · rw [if_neg g2]
    · rw [if_neg g1]
theorem ld_err {zs ts : List Int} (h : ldE zs ts ≠ 0) : ldV zs ts = 0 := by
  unfold ldV ldE at *
  by_cases hk : okL zs ts = true
  · rw [if_pos hk] at h ⊢; exact ldGo_err _ _ h
  · rw [if_neg hk]
theorem okL_take {zs ts : List Int} (k : Nat) (h : okL zs ts = true) : okL (zs.take k) (ts.take k) = true := by
  obtain ⟨hl, ha⟩ := okL_at h
  refine okL_true (by rw [List.length_take, List.length_take, hl]) (fun j hj => ?_)
  rw [List.length_take] at hj
  have := ha j (by omega)
  have e1 : (zs.take k).getD j 0 = zs.getD j 0 := by simp [List.getD, show j < k by omega]
  have e2 : (ts.take k).getD j 0 = ts.getD j 0 := by simp [List.getD, show j < k by omega]
  rw [e1, e2]; exact this
theorem okL_drop {zs ts : List Int} (k : Nat) (h : okL zs ts = true) : okL (zs.drop k) (ts.drop k) = true := by
  obtain ⟨hl, ha⟩ := okL_at h
  refine okL_true (by rw [List.length_drop, List.length_drop, hl]) (fun j hj => ?_)
  rw [List.length_drop] at hj
  have := ha (k + j) (by omega)
  have e1 : (zs.drop k).getD j 0 = zs.getD (k + j) 0 := by simp [List.getD]
  have e2 : (ts.drop k).getD j 0 = ts.getD (k + j) 0 := by simp [List.getD]
  rw [e1, e2]; exact this
theorem zip_good {zs ts : List Int} (h : okL zs ts = true) : ∀ x ∈ zs.zip ts, 0 ≤ tm x.1 x.2 := by
  obtain ⟨hl, ha⟩ := okL_at h
  intro x hx
  obtain ⟨j, hj, rfl⟩ := List.getElem_of_mem hx
  rw [List.length_zip] at hj
  have := ha j (by omega)
  rw [List.getElem_zip]
  have e1 : zs.getD j 0 = zs[j] := by simp [List.getD, List.getElem?_eq_getElem (show j < zs.length by omega)]
  have e2 : ts.getD j 0 = ts[j] := by simp [List.getD, List.getElem?_eq_getElem (show j < ts.length by omega)]
  rw [e1, e2] at this
  exact tm_nonneg this.1 this.2
theorem ld_split {zs ts : List Int} (k : Nat) (h : ldE zs ts = 0) :
    zs.length = ts.length ∧ ldE (zs.take k) (ts.take k) = 0 ∧ ldE (zs.drop k) (ts.drop k) = 0 ∧ ldV (zs.take k) (ts.take k) + ldV (zs.drop k) (ts.drop k) = ldV zs ts ∧
      inR (ldV (zs.take k) (ts.take k)) ∧ inR (ldV (zs.drop k) (ts.drop k)) ∧ inR (ldV zs ts) := by
  have hok : okL zs ts = true := by
    cases e : okL zs ts with
    | true => rfl
    | false => have := (ld_bad e).2; omega
  obtain ⟨hl, ha⟩ := okL_at hok
  have g := ld_good hok
  have g1 := ld_good (okL_take k hok)
  have g2 := ld_good (okL_drop k hok)
  rw [h] at g
  have e0 : ldGo 0 (zs.zip ts) = (ldV zs ts, 0) := by rw [g.1]; exact Prod.ext rfl g.2.symm
  have hz : (zs.take k).zip (ts.take k) ++ (zs.drop k).zip (ts.drop k) = zs.zip ts := by
    rw [← List.zip_append (by rw [List.length_take, List.length_take, hl]), List.take_append_drop, List.take_append_drop]
  have e1 := e0
  rw [← hz] at e1
  obtain ⟨V1, a1, a2⟩ := ldGo_app _ _ _ _ e1
  have p1 := zip_good (okL_take k hok)
  have p2 := zip_good (okL_drop k hok)
  obtain ⟨_, q1⟩ := ldGo_shift _ _ 0 _ p1 (by omega) (by omega) a1
  obtain ⟨b1, q2⟩ := ldGo_shift _ _ 0 _ p2 (by omega) q1 a2
  rw [a1] at g1
  rw [b1] at g2
  simp only at g1 g2
  have i0 : inR 0 := by unfold inR; omega
  have i1 := ldGo_inR _ _ _ i0 a1
  have i2 := ldGo_inR _ _ _ i0 b1
  have i3 := ldGo_inR _ _ _ i0 e0
  refine ⟨hl, g1.2, g2.2, by rw [g1.1, g2.1]; omega, by rw [g1.1]; exact i1, by rw [g2.1]; exact i2, i3⟩
theorem Rd.take {w : World} {A : Option Addr} {n : Nat} {zs : List Int} (h : Rd w A n zs) {k : Nat} (hk : k ≤ n) : Rd w A k (zs.take k) := by
  have hl := h.len
  refine ⟨by rw [List.length_take]; omega, by have := h.max; omega, fun hn => ?_, fun j => ?_⟩
  · obtain ⟨b, off, e, hb, hc⟩ := h.at_ (by omega)
    refine ⟨b, off, e, hb, fun j hj => ?_⟩
    rw [hc j (by omega)]
    simp [List.getD, hj]
  · by_cases hj : j < k
    · have : (zs.take k).getD j 0 = zs.getD j 0 := by simp [List.getD, hj]
      rw [this]; exact h.fit j
    · have : (zs.take k).getD j 0 = 0 := by simp only [List.getD]; rw [List.getElem?_eq_none (by rw [List.length_take]; omega)]; rfl
      rw [this]; unfold inR; omega
theorem Rd.drop {w : World} {A A' : Option Addr} {n : Nat} {zs : List Int} (h : Rd w A n zs) {k : Nat} (hk : k ≤ n) (hA : k < n → A' = A.map (·.add k)) : Rd w A' (n - k) (zs.drop k) := by
  have hl := h.len
  refine ⟨by rw [List.length_drop]; omega, by have := h.max; omega, fun hn => ?_, fun j => ?_⟩
  · obtain ⟨b, off, e, hb, hc⟩ := h.at_ (by omega)
    refine ⟨b, off + k, by rw [hA (by omega), e]; simp [add_plain], hb, fun j hj => ?_⟩
    rw [Nat.add_assoc, hc (k + j) (by omega)]
    simp [List.getD]
  · have : (zs.drop k).getD j 0 = zs.getD (k + j) 0 := by simp [List.getD]
    rw [this]; exact h.fit (k + j)
end Go.Proofs.Ytjonlpoiiffalaa
