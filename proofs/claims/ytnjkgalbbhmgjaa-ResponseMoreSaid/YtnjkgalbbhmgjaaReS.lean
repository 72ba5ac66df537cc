/- Plain mathematics of layer 16: more of anything never makes the result smaller. -/
import Derived.Test.YtnjkgalbbhmgjaaReP
namespace Go.Proofs.Ytnjkgalbbhmgjaa.rsp
/-- Where more is done in time, less is, and no later, or the steps were too many. -/
theorem bn_less {own own' bl bl' rl rl' : Int} {a b a' b' : List Ld} {limit : Int} (h : right own' bl' rl' a' b' = true) (hle : ∀ m, 0 ≤ m → wiS own' bl' rl' a' b' m ≤ wiS own bl rl a b m) (h0 : (bnP own bl rl a b limit).2 = 0) :
    (bnP own' bl' rl' a' b' limit).2 = 11 ∨ ((bnP own' bl' rl' a' b' limit).2 = 0 ∧ (bnP own' bl' rl' a' b' limit).1 ≤ (bnP own bl rl a b limit).1) := by
  obtain ⟨_, hl, r1, r2, r3, r4, _⟩ := bn_ok h0
  generalize (bnP own bl rl a b limit).1 = r at r1 r2 r3 r4 ⊢
  have e : bnP own' bl' rl' a' b' limit = bnGo own' bl' rl' a' b' limit 5000 1 := by unfold bnP; rw [if_pos ⟨h, hl⟩]
  rw [e]
  rcases bn_under (own := own') (bl := bl') (rl := rl') (a := a') (b := b') (limit := limit) (r := r) h r2 (by have := hle r (by omega); omega) r3 5000 1 (by omega) r1 with g | ⟨g1, _, g3⟩
  · exact .inl (by rw [g])
  · exact .inr ⟨g1, g3⟩
theorem okLs_app {l : List Ld} {x : Ld} (h : okLs (l ++ [x]) = true) : okLs l = true ∧ okD x = true := by
  obtain ⟨h1, h2⟩ := okLs_iff.1 h
  rw [List.length_append] at h1
  exact ⟨okLs_iff.2 ⟨by omega, fun y hy => h2 y (by simp [hy])⟩, h2 x (by simp)⟩
theorem right_app {own bl rl : Int} {a b : List Ld} {x : Ld} (h : right own bl rl (a ++ [x]) b = true) : right own bl rl a b = true ∧ okD x = true := by
  obtain ⟨h1, h2, h3, h4, h5⟩ := right_iff.1 h
  exact ⟨right_iff.2 ⟨(okLs_app h1).1, h2, h3, h4, h5⟩, (okLs_app h1).2⟩
theorem wi_app {own bl rl : Int} {a b : List Ld} {x : Ld} {m : Int} (hm : 0 ≤ m) (h : okD x = true) : wiS own bl rl a b m ≤ wiS own bl rl (a ++ [x]) b m := by
  rw [wiS_L, wiS_L, sL_app]
  have := fA_pos hm h
  simp only [sL]; omega
theorem right_own {own own' bl rl : Int} {a b : List Ld} (h : right own bl rl a b = true) (h0 : 0 ≤ own') (h1 : own' ≤ own) : right own' bl rl a b = true := by
  obtain ⟨k1, k2, k3, k4, k5⟩ := right_iff.1 h
  exact right_iff.2 ⟨k1, k2, by omega, k4, k5⟩
theorem wi_own {own own' bl rl : Int} {a b : List Ld} {m : Int} (h1 : own' ≤ own) : wiS own' bl rl a b m ≤ wiS own bl rl a b m := by
  rw [wiS_L, wiS_L]; omega
end Go.Proofs.Ytnjkgalbbhmgjaa.rsp
