/- Plain mathematics of layer 16: what has no work makes no difference, nor what comes at no cost. -/
import Derived.Test.YtnjkgalbbhmgjaaReP
namespace Go.Proofs.Ytnjkgalbbhmgjaa.rsp
def nul (x : Ld) : Ld := ⟨0, x.p, x.j⟩
theorem sL_zero {f : Ld → Int} {l : List Ld} (h : ∀ x ∈ l, f x = 0) : sL f l = 0 := by
  induction l with
  | nil => rfl
  | cons x l ih =>
    rw [sL, h x (by simp), ih (fun y hy => h y (by simp [hy]))]
    rfl
theorem wi_nul {own bl : Int} {a b : List Ld} {n : Int} : wiS own bl 0 (a ++ a.map nul) b n = wiS own bl 0 a [] n := by
  rw [wiS_L, wiS_L, sL_app, sL_zero (f := fA n) (l := a.map nul) (fun x hx => by
    obtain ⟨y, _, rfl⟩ := List.mem_map.1 hx
    exact Int.mul_zero _), sL_zero (f := fB 0 n) (l := b) (fun x _ => Int.mul_zero _)]
  simp [sL]
theorem right_nul {own bl : Int} {a b : List Ld} (h : right own bl 0 (a ++ a.map nul) b = true) : right own bl 0 a [] = true := by
  obtain ⟨h1, h2, h3, h4, h5⟩ := right_iff.1 h
  obtain ⟨g1, g2⟩ := okLs_iff.1 h1
  rw [List.length_append] at g1
  exact right_iff.2 ⟨okLs_iff.2 ⟨by omega, fun x hx => g2 x (by simp [hx])⟩, rfl, h3, h4, h5⟩
theorem nul_wi {own bl : Int} {a b : List Ld} (h : right own bl 0 (a ++ a.map nul) b = true) (n : Int) : wiE own bl 0 (a ++ a.map nul) b n = wiE own bl 0 a [] n ∧ wiV own bl 0 (a ++ a.map nul) b n = wiV own bl 0 a [] n := by
  have h' := right_nul h
  unfold wiV wiE
  rw [wi_nul, h, h']
  exact ⟨rfl, rfl⟩
theorem nul_go {own bl : Int} {a b : List Ld} (h : right own bl 0 (a ++ a.map nul) b = true) (limit : Int) : ∀ (k : Nat) (n : Int), bnGo own bl 0 (a ++ a.map nul) b limit k n = bnGo own bl 0 a [] limit k n
  | 0, _ => rfl
  | k + 1, n => by
    rw [bnGo, bnGo, (nul_wi h n).1, (nul_wi h n).2, nul_go h limit k]
theorem nul_bn {own bl : Int} {a b : List Ld} (h : right own bl 0 (a ++ a.map nul) b = true) (limit : Int) : bnP own bl 0 (a ++ a.map nul) b limit = bnP own bl 0 a [] limit := by
  unfold bnP; rw [h, right_nul h, nul_go h]
theorem nul_bad {own bl : Int} {a b : List Ld} (h : right own bl 0 (a ++ a.map nul) b = false) (n limit : Int) : wiE own bl 0 (a ++ a.map nul) b n = 1 ∧ (bnP own bl 0 (a ++ a.map nul) b limit).2 = 1 := by
  unfold wiE bnP; rw [h]; simp
end Go.Proofs.Ytnjkgalbbhmgjaa.rsp
