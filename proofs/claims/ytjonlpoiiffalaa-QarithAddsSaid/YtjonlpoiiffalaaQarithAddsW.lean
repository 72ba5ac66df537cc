/- The load of two lists, one behind the other, is that of the first one and that of the second one: QarithAdds returns true. (The walk.) -/
import Derived.Test.YtjonlpoiiffalaaL4
namespace Go.Proofs.Ytjonlpoiiffalaa.qarithAdds
open Go.ChangeShapes Go.WideShapes Go.ChangeAt Go.RowKit
set_option maxHeartbeats 2000000 in
theorem walk (A B : Option Addr) (n m c d : Nat) (zs ts : List Int) (a2 : Int) (w2 : (Lit.int .i64 a2).wf = true) (w : World) (hz : Rd w A n zs) (ht : Rd w B m ts) (hn : n ≤ 140737488355328) (hnc : n ≤ c) (hmd : m ≤ d) :
    Calls Try.prog 13 #[.slice A n c, .slice B m d, .int .i64 a2] w fun e w' => e = .returned (.bool true) ∧ Grew w w' := by
  have h2 := inR_of w2
  unfold inR at h2
  have HZ := Lib.hid hz
  have HT := Lib.hid ht
  obtain ⟨V, hV⟩ : ∃ V, V = ldV zs ts := ⟨_, rfl⟩
  obtain ⟨E, hE⟩ : ∃ E, E = ldE zs ts := ⟨_, rfl⟩
  have cL : Hid (∀ w, Rd w A n zs → Rd w B m ts → Calls Try.prog 33 #[.slice A n c, .slice B m d] w fun e w' => e = .returned (.tuple #[.int .i64 V, .int .i64 E]) ∧ Grew w w') := by
    intro w h1 h2; rw [hV, hE]; exact load_any A B n m c d zs ts w h1 h2
  by_cases e0 : E = 0
  · obtain ⟨x, hx⟩ : ∃ x : Int, x = if a2 < 0 then -(a2 + 1) else a2 := ⟨_, rfl⟩
    have x0 : 0 ≤ x ∧ x ≤ 9223372036854775807 := by rw [hx]; split <;> omega
    obtain ⟨k, hk⟩ : ∃ k : Nat, (k : Int) = x % ((n : Int) + 1) := ⟨(x % ((n : Int) + 1)).toNat, by have := Int.emod_nonneg x (show (n : Int) + 1 ≠ 0 by omega); omega⟩
    have kn : k ≤ n := by have := Int.emod_lt_of_pos x (show 0 < (n : Int) + 1 by omega); omega
    obtain ⟨hl, s1, s2, s3, s4, s5, s6⟩ := ld_split (zs := zs) (ts := ts) k (by rw [← hE]; exact e0)
    have hnm : m = n := by rw [← hz.len, ← ht.len, hl]
    subst hnm
    have e0' : (E != 0) = false := by simpa using e0
    have k0 : (0 : Int) ≤ (k : Int) := by omega
    have k1 : (k : Int) ≤ (m : Int) := by omega
    have k2 : (k : Int) ≤ (c : Int) := by omega
    have k3 : (k : Int) ≤ (d : Int) := by omega
    obtain ⟨P, hP⟩ : ∃ P, P = ldV (zs.take k) (ts.take k) := ⟨_, rfl⟩
    obtain ⟨Q, hQ⟩ : ∃ Q, Q = ldV (zs.drop k) (ts.drop k) := ⟨_, rfl⟩
    rw [← hP, ← hQ, ← hV] at s3
    rw [← hP] at s4
    rw [← hQ] at s5
    rw [← hV] at s6
    have cP : Hid (∀ w c d, Rd w A m zs → Rd w B m ts → Calls Try.prog 33 #[.slice A k c, .slice B k d] w fun e w' => e = .returned (.tuple #[.int .i64 P, .int .i64 0]) ∧ Grew w w') := by
      intro w c d h1 h2; rw [hP, ← s1]; exact load_any A B k k c d _ _ w (h1.take kn) (h2.take kn)
    have cQ : Hid (∀ w A' B' c d, (k < m → A' = A.map (·.add k)) → (k < m → B' = B.map (·.add k)) → Rd w A m zs → Rd w B m ts → Calls Try.prog 33 #[.slice A' (m - k) c, .slice B' (m - k) d] w fun e w' => e = .returned (.tuple #[.int .i64 Q, .int .i64 0]) ∧ Grew w w') := by
      intro w A' B' c d g1 g2 h1 h2; rw [hQ, ← s2]; exact load_any A' B' (m - k) (m - k) c d _ _ w (h1.drop kn g1) (h2.drop kn g2)
    have s3' : (P + Q == V) = true := by simpa using s3
    have s7 : inR (P + Q) := by rw [s3]; exact s6
    clear hz ht hE e0 hP hQ hV s1 s2 s3 hl
    obtain ⟨A', hA'⟩ : ∃ A', (if c = k then A else A.map (·.add k)) = A' := ⟨_, rfl⟩
    obtain ⟨B', hB'⟩ : ∃ B', (if d = k then B else B.map (·.add k)) = B' := ⟨_, rfl⟩
    have gA : Hid (k < m → A' = A.map (·.add k)) := fun h => by rw [← hA']; exact if_neg (by omega)
    have gB : Hid (k < m → B' = B.map (·.add k)) := fun h => by rw [← hB']; exact if_neg (by omega)
    by_cases neg : a2 < 0
    · rw [if_pos neg] at hx
      have hmod : (a2 + 1).tmod ((m : Int) + 1) = -(k : Int) := by
        have := Int.tmod_eq_emod_of_nonneg (a := x) (b := (m : Int) + 1) x0.1
        rw [← hk, hx, Int.neg_tmod] at this
        omega
      clear hk hx
      go_enter Try.func13, Try.ntmps13
      go_wp2_with (first | (go_at_call 15; refine (examples_any _).mono ?_; rintro e we ⟨rfl, hg⟩) | (go_at_call 33; ((with_reducible refine (cL.out _ (HZ.out.grew hg) (HT.out.grew hg)).mono ?_); rintro e w2 ⟨rfl, hg2⟩; have hg := hg.trans hg2)))
      go_region_held3 (fun w' => Grew w w')
        (first | exact hg.drew | exact hg.drew.trans hg3)
        (first | (go_at_call 33; ((with_reducible refine (cP.out _ _ _ (HZ.out.grew ‹_›) (HT.out.grew ‹_›)).mono ?_); rintro e w3 ⟨rfl, hg3⟩)))
      have hg4 := hg.drew.trans hg3
      go_wp2
      go_region_held3 (fun w' => Grew w w')
        (first | exact hg4.drew | exact hg4.drew.trans hg5)
        (first | (go_at_call 33; ((with_reducible refine (cQ.out _ A' B' _ _ gA.out gB.out (HZ.out.grew ‹_›) (HT.out.grew ‹_›)).mono ?_); rintro e w5 ⟨rfl, hg5⟩)))
      have hg6 := hg4.drew.trans hg5
      go_wp2_with (go_at_call 16; ((with_reducible refine (add_in P Q s4 s5 s7 _).mono ?_); rintro e w' ⟨rfl, rfl⟩))
      go_ret
      exact ⟨rfl, hg6⟩
    · rw [if_neg neg] at hx
      have hmod : a2 % ((m : Int) + 1) = (k : Int) := by rw [← hx]; exact hk.symm
      clear hk hx
      go_enter Try.func13, Try.ntmps13
      go_wp2_with (first | (go_at_call 15; refine (examples_any _).mono ?_; rintro e we ⟨rfl, hg⟩) | (go_at_call 33; ((with_reducible refine (cL.out _ (HZ.out.grew hg) (HT.out.grew hg)).mono ?_); rintro e w2 ⟨rfl, hg2⟩; have hg := hg.trans hg2)))
      go_region_held3 (fun w' => Grew w w')
        (first | exact hg.drew | exact hg.drew.trans hg3)
        (first | (go_at_call 33; ((with_reducible refine (cP.out _ _ _ (HZ.out.grew ‹_›) (HT.out.grew ‹_›)).mono ?_); rintro e w3 ⟨rfl, hg3⟩)))
      have hg4 := hg.drew.trans hg3
      go_wp2
      go_region_held3 (fun w' => Grew w w')
        (first | exact hg4.drew | exact hg4.drew.trans hg5)
        (first | (go_at_call 33; ((with_reducible refine (cQ.out _ A' B' _ _ gA.out gB.out (HZ.out.grew ‹_›) (HT.out.grew ‹_›)).mono ?_); rintro e w5 ⟨rfl, hg5⟩)))
      have hg6 := hg4.drew.trans hg5
      go_wp2_with (go_at_call 16; ((with_reducible refine (add_in P Q s4 s5 s7 _).mono ?_); rintro e w' ⟨rfl, rfl⟩))
      go_ret
      exact ⟨rfl, hg6⟩
  · have e0' : (E != 0) = true := by simpa using e0
    have v0 : (V == 0) = true := by rw [hV, ld_err (by rw [← hE]; exact e0)]; rfl
    clear hz ht hV hE e0
    go_enter Try.func13, Try.ntmps13
    go_wp2_with (first | (go_at_call 15; refine (examples_any _).mono ?_; rintro e we ⟨rfl, hg⟩) | (go_at_call 33; ((with_reducible refine (cL.out _ (HZ.out.grew hg) (HT.out.grew hg)).mono ?_); rintro e w2 ⟨rfl, hg2⟩; have hg := hg.trans hg2)))
    go_ret
    exact ⟨rfl, hg⟩
end Go.Proofs.Ytjonlpoiiffalaa.qarithAdds
