/- Lists of numbers in memory; what Load answers; the contract of isLoad. -/
import Derived.Test.YtfpcnilcbaiojaaQaC8
namespace Go.Proofs.Ytfpcnilcbaiojaa.qar
open Go.ChangeShapes Go.WideShapes Go.ChangeAt Go.RowKit
theorem _root_.Go.Proofs.Ytfpcnilcbaiojaa.Rd.grew {w w' : World} {A : Option Addr} {n : Nat} {zs : List Int} (h : Rd w A n zs) (hg : Grew w w') : Rd w' A n zs :=
  ⟨h.len, h.max, fun hn => by
    obtain ⟨b, off, e, hb, hc⟩ := h.at_ hn
    exact ⟨b, off, e, Nat.lt_of_lt_of_le hb hg.size, fun k hk => by rw [hg.cells _ _ hb]; exact hc k hk⟩, h.fit⟩
def okL (zs ts : List Int) : Bool := zs.length == ts.length && (List.range zs.length).all fun k => decide (0 ≤ zs.getD k 0) && decide (0 < ts.getD k 0)
theorem okL_false_len {zs ts : List Int} (h : zs.length ≠ ts.length) : okL zs ts = false := by unfold okL; simp [h]
theorem okL_false_at {zs ts : List Int} {k : Nat} (hk : k < zs.length) (h : zs.getD k 0 < 0 ∨ ts.getD k 0 ≤ 0) : okL zs ts = false := by
  cases hb : okL zs ts with
  | false => rfl
  | true =>
    unfold okL at hb
    rw [Bool.and_eq_true, List.all_eq_true] at hb
    have := hb.2 k (List.mem_range.2 hk)
    rw [Bool.and_eq_true, decide_eq_true_eq, decide_eq_true_eq] at this
    omega
theorem okL_true {zs ts : List Int} (hl : zs.length = ts.length) (h : ∀ k, k < zs.length → 0 ≤ zs.getD k 0 ∧ 0 < ts.getD k 0) : okL zs ts = true := by
  unfold okL
  rw [Bool.and_eq_true, List.all_eq_true]
  refine ⟨by simpa using hl, fun k hk => ?_⟩
  have := h k (List.mem_range.1 hk)
  rw [Bool.and_eq_true, decide_eq_true_eq, decide_eq_true_eq]
  exact this
theorem okL_at {zs ts : List Int} (h : okL zs ts = true) : zs.length = ts.length ∧ ∀ k, k < zs.length → 0 ≤ zs.getD k 0 ∧ 0 < ts.getD k 0 := by
  unfold okL at h
  rw [Bool.and_eq_true, List.all_eq_true] at h
  refine ⟨by simpa using h.1, fun k hk => ?_⟩
  have := h.2 k (List.mem_range.2 hk)
  rw [Bool.and_eq_true, decide_eq_true_eq, decide_eq_true_eq] at this
  exact this
theorem retb {a b : Bool} (h : a = b) : Ending.returned (.bool a) = .returned (.bool b) := by rw [h]
set_option maxHeartbeats 1000000 in
theorem isload_any (A B : Option Addr) (n m c d : Nat) (zs ts : List Int) (w : World) (hz : Rd w A n zs) (ht : Rd w B m ts) :
    Calls Try.prog 58 #[.slice A n c, .slice B m d] w fun e w' => e = .returned (.bool (okL zs ts)) ∧ w = w' := by
  have hlz := hz.len
  have hlt := ht.len
  have hmx := hz.max
  have hmy := ht.max
  by_cases hnm : n = m
  · subst hnm
    have HL : Hid (zs.length = n ∧ ts.length = n) := ⟨hlz, hlt⟩
    have HZ := Lib.hid hz
    have HT := Lib.hid ht
    clear hz ht hlz hlt
    go_enter Try.func58, Try.ntmps58
    go_wp2
    go_loop [13] (fun i => ∃ k : Nat, k ≤ n ∧ i = .int .i64 k ∧ Hid (∀ j, j < k → 0 ≤ zs.getD j 0 ∧ 0 < ts.getD j 0)) (fun i => n - (intOf i).toNat)
    case atStart => exact ⟨0, by omega, rfl, fun j hj => absurd hj (by omega)⟩
    case round =>
      obtain ⟨k, hk, rfl, hall⟩ := hrel
      by_cases hlt : k < n
      · obtain ⟨b, off, rfl, hb, hc⟩ := HZ.out.at_ (by omega)
        obtain ⟨b', off', rfl, hb', hc'⟩ := HT.out.at_ (by omega)
        have hck := hc k hlt
        have hck' := hc' k hlt
        clear hc hc'
        obtain ⟨z, hze⟩ : ∃ z, z = zs.getD k 0 := ⟨_, rfl⟩
        obtain ⟨t, hte⟩ : ∃ t, t = ts.getD k 0 := ⟨_, rfl⟩
        rw [← hze] at hck
        rw [← hte] at hck'
        by_cases h1 : z < 0
        · have hE : Hid (okL zs ts = false) := okL_false_at (k := k) (by rw [HL.out.1]; exact hlt) (by omega)
          clear hze hte
          go_wp2
          go_ret
          exact ⟨retb hE.out.symm, rfl⟩
        · by_cases h2 : t ≤ 0
          · have hE : Hid (okL zs ts = false) := okL_false_at (k := k) (by rw [HL.out.1]; exact hlt) (by omega)
            clear hze hte
            go_wp2
            go_ret
            exact ⟨retb hE.out.symm, rfl⟩
          · have hall' : Hid (∀ j, j < k + 1 → 0 ≤ zs.getD j 0 ∧ 0 < ts.getD j 0) := by
              intro j hj
              by_cases e : j = k
              · subst e; omega
              · exact hall.out j (by omega)
            clear hze hte
            go_wp2
            go_round
            case rel => exact ⟨k + 1, by omega, by go_num, hall'⟩
            case measure => simp [intOf]; omega
      · have hE : Hid (okL zs ts = true) := okL_true (by rw [HL.out.1, HL.out.2]) (fun j hj => hall.out j (by have := HL.out.1; omega))
        go_wp2
        go_ret
        exact ⟨retb hE.out.symm, rfl⟩
  · have hE : Hid (okL zs ts = false) := okL_false_len (by rw [hlz, hlt]; exact hnm)
    have hne : ((n : Int) != (m : Int)) = true := by simp; omega
    clear hz ht hlz hlt
    go_enter Try.func58, Try.ntmps58
    go_wp2
    all_goals go_ret
    all_goals exact ⟨retb hE.out.symm, rfl⟩
end Go.Proofs.Ytfpcnilcbaiojaa.qar
