/- Contracts of find and placeFor. -/
import Derived.Test.YtfejnokljddomaaW
namespace Go.Proofs.Ytfejnokljddomaa
open Go.ChangeShapes Go.WideShapes Go.ChangeAt Go.RowKit Go.Deep
theorem snoc_inj {A B : List Nd} {x y : Nd} (h : A ++ [x] = B ++ [y]) : A = B ∧ x = y := by
  have := List.append_inj' h rfl
  simpa using this
/-- At x of the chain, P before and B behind. -/
structure At (w : World) (p : Nat) (R : Int) (n h : Nat) (P B : List Nd) (x : Nd) : Prop where
  ex : ∃ A, hdn h :: P = A ++ [x]
  cn : Cn w p R n h (P ++ B)
theorem At.blk {w : World} {p : Nat} {R : Int} {n h : Nat} {P B : List Nd} {x : Nd} (c : At w p R n h P B x) : Blk w x.b (ndc x (fp B none)) 52 := by
  obtain ⟨A, hA⟩ := c.ex
  exact (c.cn.parts hA).2.1
theorem At.blk2 {w : World} {p : Nat} {R : Int} {n h : Nat} {P B : List Nd} {x y : Nd} (c : At w p R n h P (y :: B) x) : Blk w y.b (ndc y (fp B none)) 52 := by
  obtain ⟨A, hA⟩ := c.ex
  exact (c.cn.parts hA).2.2.1
theorem At.next {w : World} {p : Nat} {R : Int} {n h : Nat} {P B : List Nd} {x y : Nd} (c : At w p R n h P (y :: B) x) : At w p R n h (P ++ [y]) B y := by
  obtain ⟨A, hA⟩ := c.ex
  exact ⟨⟨A ++ [x], by rw [← List.cons_append, hA]⟩, by simpa using c.cn⟩
theorem At.first {w : World} {p : Nat} {R : Int} {n h : Nat} {N : List Nd} (c : Cn w p R n h N) : At w p R n h [] N (hdn h) := ⟨⟨[], rfl⟩, c⟩
theorem At.same {w : World} {p : Nat} {R : Int} {n h : Nat} {P B B' : List Nd} {x y : Nd} (c : At w p R n h P B x) (d : At w p R n h P B' y) : x = y := by
  obtain ⟨A, hA⟩ := c.ex
  obtain ⟨A', hA'⟩ := d.ex
  exact (snoc_inj (hA.symm.trans hA')).2
theorem At.chain {w : World} {p : Nat} {R : Int} {n h : Nat} {P B : List Nd} {x : Nd} (c : At w p R n h P B x) {N : List Nd} (e : P ++ B = N) : Cn w p R n h N := e ▸ c.cn
def behind : List Nd → Nat → Nat
  | [], _ => 0
  | z :: t, q => if z.b = q then t.length else behind t q
def ptrB : Value → Nat
  | .pointer (some q) => q.block
  | _ => 0
theorem behind_at {A B : List Nd} {x : Nd} (h : ∀ z ∈ A, z.b ≠ x.b) : behind (A ++ x :: B) x.b = B.length := by
  induction A with
  | nil => simp [behind]
  | cons z t ih => rw [List.cons_append, behind, if_neg (h z (by simp))]; exact ih (fun u hu => h u (by simp [hu]))
theorem At.behind {w : World} {p : Nat} {R : Int} {n h : Nat} {P B N : List Nd} {x : Nd} (c : At w p R n h P B x) (e : P ++ B = N) : behind (hdn h :: N) x.b = B.length := by
  obtain ⟨A, hA⟩ := c.ex
  rw [← e, chain_eq hA]
  exact behind_at (c.cn.apart hA).xA
set_option maxHeartbeats 1000000 in
theorem find_no (p : Nat) (R : Int) (n h : Nat) (N : List Nd) (w : World) (a : Int) (c : Cn w p R n h N) (ok : Ok 0 N) (hno : ∀ z ∈ N, z.id ≠ a) :
    Calls Try.prog 23 #[.pointer (some ⟨p, 0, none⟩), .int .i64 a] w fun r w' => r = .returned (.tuple #[.pointer none, .int .i64 0]) ∧ w' = w := by
  have c2 : w.cell? ⟨p, 2, none⟩ = some (.pointer (some ⟨h, 0, none⟩)) := c.hp.cell (o := 2) rfl
  have HA := Lib.hid (At.first c)
  have HN := Lib.hid hno
  have HO := Lib.hid ok
  clear c hno ok
  go_enter Try.func23, Try.ntmps23
  go_wp2_with fail
  go_loopw [6, 7] (fun s t wr => ∃ (P B : List Nd) (x : Nd) (v : Int), s = .int .i64 v ∧ t = .pointer (some ⟨x.b, 0, none⟩) ∧ Hid (P ++ B = N ∧ v = sm P ∧ At w p R n h P B x) ∧ Hid (wr = w)) (fun _ t _ => behind (hdn h :: N) (ptrB t))
  case atStart => exact ⟨[], N, hdn h, 0, rfl, rfl, ⟨rfl, rfl, HA.out⟩, show _ = _ from rfl⟩
  case round =>
    obtain ⟨P, B, x, v, rfl, rfl, HE, hw⟩ := hrel
    have hw' := hw.out
    subst hw'
    have HBX := Lib.hid HE.out.2.2.blk
    have HM := Lib.hid (HE.out.2.2.behind HE.out.1)
    cases B with
    | nil =>
      have d2 : wr.cell? ⟨x.b, 2, none⟩ = some (.pointer none) := HBX.out.cell (o := 2) rfl
      go_wp2
      go_ret2
      exact ⟨rfl, rfl⟩
    | cons y C =>
      have HE2 := Lib.hid HE.out.2.2.next
      have hid : (y.id == a) = false := by simpa using HN.out y (by rw [← HE.out.1]; simp)
      have HBY := Lib.hid HE.out.2.2.blk2
      have d2 : wr.cell? ⟨x.b, 2, none⟩ = some (.pointer (some ⟨y.b, 0, none⟩)) := HBX.out.cell (o := 2) rfl
      have e0 : wr.cell? ⟨y.b, 0, none⟩ = some (.int .i64 y.id) := HBY.out.cell (o := 0) rfl
      have e1 : wr.cell? ⟨y.b, 1, none⟩ = some (.int .i64 y.gap) := HBY.out.cell (o := 1) rfl
      have HOK : Hid (Ok (0 + sm P) (y :: C)) := Ok.split (by rw [HE.out.1]; exact HO.out)
      have hv := HE.out.2.1
      have o1 : 0 ≤ v := by have := HOK.out.1; omega
      have o2 : 0 ≤ y.gap := HOK.out.2.2.1
      have o3 : v + y.gap ≤ 9007199254740991 := by have := HOK.out.2.2.2.lo; omega
      have HV : Hid (v + y.gap = sm (P ++ [y])) := by show _ = _; rw [sm_snoc, hv]
      have HPN : Hid (P ++ [y] ++ C = N) := by have := HE.out.1; show _ = _; rw [← this]; simp
      have HM2 := Lib.hid (HE2.out.behind HPN.out)
      have HM3 : Hid (behind (hdn h :: N) x.b = C.length + 1) := HM.out
      generalize y.gap = g at e1 o2 o3 HV
      generalize y.id = i at e0 hid
      clear hv
      go_wp2
      go_roundw
      case rel => exact ⟨P ++ [y], C, y, v + g, rfl, rfl, ⟨HPN.out, HV.out, HE2.out⟩, (show True from trivial)⟩
      case measure => simp only [ptrB]; have := HM2.out; have := HM3.out; omega
set_option maxHeartbeats 1000000 in
theorem find_yes (p : Nat) (R : Int) (n h : Nat) (P C : List Nd) (x y : Nd) (w : World) (a : Int) (c : At w p R n h P (y :: C) x) (ok : Ok 0 (P ++ y :: C)) (hy : y.id = a) (hno : ∀ z ∈ P, z.id ≠ a) :
    Calls Try.prog 23 #[.pointer (some ⟨p, 0, none⟩), .int .i64 a] w fun r w' => r = .returned (.tuple #[.pointer (some ⟨x.b, 0, none⟩), .int .i64 (sm P + y.gap)]) ∧ w' = w := by
  have c2 : w.cell? ⟨p, 2, none⟩ = some (.pointer (some ⟨h, 0, none⟩)) := c.cn.hp.cell (o := 2) rfl
  have HA := Lib.hid (At.first c.cn)
  have HC := Lib.hid c
  have HN := Lib.hid hno
  have HO := Lib.hid ok
  have HY := Lib.hid hy
  clear c hno ok hy
  obtain ⟨V, hV⟩ : ∃ V, V = sm P + y.gap := ⟨_, rfl⟩
  rw [← hV]
  have HV0 := Lib.hid hV
  clear hV
  go_enter Try.func23, Try.ntmps23
  go_wp2_with fail
  go_loopw [6, 7] (fun s t wr => ∃ (P1 Q : List Nd) (x1 : Nd) (v : Int), s = .int .i64 v ∧ t = .pointer (some ⟨x1.b, 0, none⟩) ∧ Hid (P1 ++ Q = P ∧ v = sm P1 ∧ At w p R n h P1 (Q ++ y :: C) x1) ∧ Hid (wr = w)) (fun _ t _ => behind (hdn h :: (P ++ y :: C)) (ptrB t))
  case atStart => exact ⟨[], P, hdn h, 0, rfl, rfl, ⟨rfl, rfl, HA.out⟩, show _ = _ from rfl⟩
  case round =>
    obtain ⟨P1, Q, x1, v, rfl, rfl, HE, hw⟩ := hrel
    have hw' := hw.out
    subst hw'
    have HPE : Hid (P1 ++ (Q ++ y :: C) = P ++ y :: C) := by show _ = _; rw [← List.append_assoc, HE.out.1]
    have HBX := Lib.hid HE.out.2.2.blk
    have HM := Lib.hid (HE.out.2.2.behind HPE.out)
    have hv := HE.out.2.1
    cases Q with
    | nil =>
      have HPP : Hid (P1 = P) := by have := HE.out.1; rw [List.append_nil] at this; exact this
      have HX : Hid (x1 = x) := by
        have h1 := HE.out.2.2
        rw [HPP.out] at h1
        exact h1.same HC.out
      have HBY := Lib.hid HC.out.blk2
      have d2 : wr.cell? ⟨x1.b, 2, none⟩ = some (.pointer (some ⟨y.b, 0, none⟩)) := HBX.out.cell (o := 2) rfl
      have e0 : wr.cell? ⟨y.b, 0, none⟩ = some (.int .i64 y.id) := HBY.out.cell (o := 0) rfl
      have e1 : wr.cell? ⟨y.b, 1, none⟩ = some (.int .i64 y.gap) := HBY.out.cell (o := 1) rfl
      have hid : (y.id == a) = true := by simpa using HY.out
      have HOK : Hid (Ok (0 + sm P) (y :: C)) := Ok.split HO.out
      have hvp : v = sm P := by rw [hv, HPP.out]
      have o1 : 0 ≤ v := by have := HOK.out.1; omega
      have o2 : 0 ≤ y.gap := HOK.out.2.2.1
      have o3 : v + y.gap ≤ 9007199254740991 := by have := HOK.out.2.2.2.lo; omega
      have HV : Hid (v + y.gap = V) := by show _ = _; rw [HV0.out, hvp]
      generalize y.gap = g at e1 o2 o3 HV
      generalize y.id = i at e0 hid
      clear hv hvp
      go_wp2
      go_ret2
      exact ⟨by rw [HX.out, HV.out]; rfl, rfl⟩
    | cons z Q =>
      have HE2 : Hid (At wr p R n h (P1 ++ [z]) (Q ++ y :: C) z) := HE.out.2.2.next
      have hid : (z.id == a) = false := by simpa using HN.out z (by rw [← HE.out.1]; simp)
      have HBY : Hid (Blk wr z.b (ndc z (fp (Q ++ y :: C) none)) 52) := HE.out.2.2.blk2
      have d2 : wr.cell? ⟨x1.b, 2, none⟩ = some (.pointer (some ⟨z.b, 0, none⟩)) := HBX.out.cell (o := 2) rfl
      have e0 : wr.cell? ⟨z.b, 0, none⟩ = some (.int .i64 z.id) := HBY.out.cell (o := 0) rfl
      have e1 : wr.cell? ⟨z.b, 1, none⟩ = some (.int .i64 z.gap) := HBY.out.cell (o := 1) rfl
      have HOK : Hid (Ok (0 + sm P1) (z :: (Q ++ y :: C))) := Ok.split (by have := HPE.out; rw [List.cons_append] at this; rw [this]; exact HO.out)
      have o1 : 0 ≤ v := by have := HOK.out.1; omega
      have o2 : 0 ≤ z.gap := HOK.out.2.2.1
      have o3 : v + z.gap ≤ 9007199254740991 := by have := HOK.out.2.2.2.lo; omega
      have HV : Hid (v + z.gap = sm (P1 ++ [z])) := by show _ = _; rw [sm_snoc, hv]
      have HPN : Hid (P1 ++ [z] ++ Q = P) := by have := HE.out.1; show _ = _; rw [← this]; simp
      have HM2 : Hid (behind (hdn h :: (P ++ y :: C)) z.b = (Q ++ y :: C).length) := HE2.out.behind (by rw [← HPN.out]; simp)
      have HM3 : Hid (behind (hdn h :: (P ++ y :: C)) x1.b = (Q ++ y :: C).length + 1) := HM.out
      generalize z.gap = g at e1 o2 o3 HV
      generalize z.id = i at e0 hid
      clear hv
      go_wp2
      go_roundw
      case rel => exact ⟨P1 ++ [z], Q, z, v + g, rfl, rfl, ⟨HPN.out, HV.out, HE2.out⟩, (show True from trivial)⟩
      case measure => simp only [ptrB]; have := HM2.out; have := HM3.out; omega
set_option maxHeartbeats 1000000 in
theorem placeFor_any (p : Nat) (R : Int) (n h : Nat) (P B : List Nd) (x : Nd) (w : World) (a : Int) (c : At w p R n h P B x) (ok : Ok 0 (P ++ B)) (h1 : 1 ≤ a) (h2 : a ≤ 9007199254740991) (hle : ∀ t ∈ acc 0 P, t.left ≤ a) (hgt : ∀ y C, B = y :: C → a < 0 + sm P + y.gap) :
    Calls Try.prog 24 #[.pointer (some ⟨p, 0, none⟩), .int .i64 a] w fun r w' => r = .returned (.tuple #[.pointer (some ⟨x.b, 0, none⟩), .int .i64 (a - sm P)]) ∧ w' = w := by
  have c2 : w.cell? ⟨p, 2, none⟩ = some (.pointer (some ⟨h, 0, none⟩)) := c.cn.hp.cell (o := 2) rfl
  have HA := Lib.hid (At.first c.cn)
  have HC := Lib.hid c
  have HO := Lib.hid ok
  have HL := Lib.hid hle
  have HG := Lib.hid hgt
  clear c ok hle hgt
  obtain ⟨V, hV⟩ : ∃ V, V = a - sm P := ⟨_, rfl⟩
  rw [← hV]
  have HV0 := Lib.hid hV
  clear hV
  go_enter Try.func24, Try.ntmps24
  go_wp2_with fail
  go_loopw [6, 7] (fun t s wr => ∃ (P1 Q : List Nd) (x1 : Nd) (v : Int), s = .int .i64 v ∧ t = .pointer (some ⟨x1.b, 0, none⟩) ∧ Hid (P1 ++ Q = P ∧ v = a - sm P1 ∧ At w p R n h P1 (Q ++ B) x1) ∧ Hid (wr = w)) (fun t _ _ => behind (hdn h :: (P ++ B)) (ptrB t))
  case atStart => exact ⟨[], P, hdn h, a, rfl, rfl, ⟨rfl, by simp [sm], HA.out⟩, show _ = _ from rfl⟩
  case round =>
    obtain ⟨P1, Q, x1, v, rfl, rfl, HE, hw⟩ := hrel
    have hw' := hw.out
    subst hw'
    have HPE : Hid (P1 ++ (Q ++ B) = P ++ B) := by show _ = _; rw [← List.append_assoc, HE.out.1]
    have HBX := Lib.hid HE.out.2.2.blk
    have HM := Lib.hid (HE.out.2.2.behind HPE.out)
    have hv := HE.out.2.1
    cases Q with
    | nil =>
      have HPP : Hid (P1 = P) := by have := HE.out.1; rw [List.append_nil] at this; exact this
      have HX : Hid (x1 = x) := by
        have h1 := HE.out.2.2
        rw [HPP.out] at h1
        exact h1.same HC.out
      have HV : Hid (v = V) := by show _ = _; rw [HV0.out, hv, HPP.out]
      cases B with
      | nil =>
        have d2 : wr.cell? ⟨x1.b, 2, none⟩ = some (.pointer none) := HBX.out.cell (o := 2) rfl
        clear hv
        go_wp2
        go_ret2
        exact ⟨by rw [HX.out, HV.out]; rfl, rfl⟩
      | cons y C =>
        have HBY := Lib.hid HC.out.blk2
        have d2 : wr.cell? ⟨x1.b, 2, none⟩ = some (.pointer (some ⟨y.b, 0, none⟩)) := HBX.out.cell (o := 2) rfl
        have e1 : wr.cell? ⟨y.b, 1, none⟩ = some (.int .i64 y.gap) := HBY.out.cell (o := 1) rfl
        have hb : decide (y.gap ≤ v) = false := by have := HG.out y C rfl; rw [decide_eq_false_iff_not, HV.out, HV0.out]; omega
        generalize y.gap = g at e1 hb
        clear hv
        go_wp2
        go_ret2
        exact ⟨by rw [HX.out, HV.out]; rfl, rfl⟩
    | cons z Q =>
      have HE2 : Hid (At wr p R n h (P1 ++ [z]) (Q ++ B) z) := HE.out.2.2.next
      have HBY : Hid (Blk wr z.b (ndc z (fp (Q ++ B) none)) 52) := HE.out.2.2.blk2
      have d2 : wr.cell? ⟨x1.b, 2, none⟩ = some (.pointer (some ⟨z.b, 0, none⟩)) := HBX.out.cell (o := 2) rfl
      have e1 : wr.cell? ⟨z.b, 1, none⟩ = some (.int .i64 z.gap) := HBY.out.cell (o := 1) rfl
      have HOK : Hid (Ok (0 + sm P1) (z :: (Q ++ B))) := Ok.split (by have := HPE.out; rw [List.cons_append] at this; rw [this]; exact HO.out)
      have hz : 0 + sm P1 + z.gap ≤ a := HL.out ⟨z.id, 0 + sm P1 + z.gap⟩ (by rw [← HE.out.1, acc_append]; simp [acc])
      have o1 : v ≤ 9007199254740991 := by have := HOK.out.1; omega
      have o2 : 0 ≤ z.gap := HOK.out.2.2.1
      have o3 : z.gap ≤ v := by omega
      have hb : decide (z.gap ≤ v) = true := by simpa using o3
      have HV : Hid (v - z.gap = a - sm (P1 ++ [z])) := by show _ = _; rw [sm_snoc, hv]; omega
      have HPN : Hid (P1 ++ [z] ++ Q = P) := by have := HE.out.1; show _ = _; rw [← this]; simp
      have HM2 : Hid (behind (hdn h :: (P ++ B)) z.b = (Q ++ B).length) := HE2.out.behind (by rw [← HPN.out]; simp)
      have HM3 : Hid (behind (hdn h :: (P ++ B)) x1.b = (Q ++ B).length + 1) := HM.out
      generalize z.gap = g at e1 o2 o3 hb HV
      clear hv hz
      go_wp2
      go_roundw
      case rel => exact ⟨P1 ++ [z], Q, z, v - g, rfl, rfl, ⟨HPN.out, HV.out, HE2.out⟩, (show True from trivial)⟩
      case measure => simp only [ptrB]; have := HM2.out; have := HM3.out; omega
end Go.Proofs.Ytfejnokljddomaa
