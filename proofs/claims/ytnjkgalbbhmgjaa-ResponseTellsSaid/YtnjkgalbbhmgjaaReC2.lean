/- A range over a function that visits the loads of two lists, one behind the other: the iterator's contract, in the terms of But. -/
import Derived.RangeFuncNested
import Derived.RangeFuncBound
import Derived.RangeFuncCalls
import Derived.RangeFuncLeaves
import Derived.Shelf.Abstract
import Derived.Shelf.RegionOpen
import Derived.WalkKit
import Derived.OwnWalkIn
import Derived.TacticsInMore
import Derived.LoopNIn
import Derived.LoopIn
import Derived.Test.YtnjkgalbbhmgjaaReC1
namespace Go.Proofs.Ytnjkgalbbhmgjaa.rsp
open Go.ChangeShapes Go.WideShapes Go.ChangeAt Go.RowKit Go.Deep Go.Shelf
attribute [local go_sem] Oper.semAt_some
theorem keeps_but {W W' : World} (hb : But No W W') : KeepsOthers W W' := ⟨hb.size, fun k _ hk _ => (hb.block k (Array.getElem?_eq_some_iff.1 hk).1 (fun f => f)).trans hk⟩
theorem below_but {W W' : World} (hb : But No W W') {m : Nat} (h : m ≤ W.heap.size) : Below m W W' := hb.below (fun _ f => f.elim) h
theorem but_below {W W' : World} (h : Below W.heap.size W W') : But No W W' := ⟨h.os, h.tape, h.output, h.size, fun k hk _ => h.block k hk⟩
theorem attach_take_snoc {α : Type} {l : List α} {k : Nat} (hk : k < l.length) : l.attach.take (k + 1) = l.attach.take k ++ [⟨l[k], List.getElem_mem hk⟩] := by
  rw [List.take_add_one, List.getElem?_eq_getElem (by rw [List.length_attach]; exact hk), List.getElem_attach]; rfl
/-- How many loads lie ahead of the i-th list. -/
def cnt (m k : Nat) : Nat → Nat
  | 0 => 0
  | 1 => m
  | _ + 2 => m + k
set_option maxRecDepth 100000 in
set_option maxHeartbeats 4000000 in
theorem loads1_in (F : Fence) (n : Nat) (hf : F.fn 29) (hro : F.round = none) (hn : 1 ≤ n) (lp Bs : Nat) (A : Option Addr) (m c : Nat) (a : List Ld) (B : Option Addr) (k d : Nat) (b : List Ld) (w : World) (hA : RLd w A m a) (hB : RLd w B k b) (J Jx : List {x : Ld // x ∈ a ++ b} → World → Prop) (W : World) (hW : But No w W)
    (hJ : AbidesFrom W.heap.size J)
    (hY : ∀ pre (x : {x : Ld // x ∈ a ++ b}) W1, J pre W1 → pre.length < (a ++ b).length → YieldAt F (n - 1) Try.prog lp #[ldV x.1] W1 fun e W' =>
      (e = .returned (.bool true) ∧ J (pre ++ [x]) W' ∧ Below w.heap.size W1 W') ∨ (e = .returned (.bool false) ∧ Jx (pre ++ [x]) W'))
    (h3 : W.cell? ⟨Bs, 3, none⟩ = some (.slice A m c)) (h4 : W.cell? ⟨Bs, 4, none⟩ = some (.slice B k d)) (h0 : J [] W) :
    CallsIn F n Try.prog 29 #[.func (.yield lp) #[] #[], .pointer (some ⟨Bs, 0, none⟩)] W fun e W' => (∃ v, e = .returned v) ∧
      ((∃ ys, ys = (a ++ b).attach ∧ J ys W') ∨ (∃ pre, pre <+: (a ++ b).attach ∧ Jx pre W')) := by
  have HNA := Lib.hid hA.len
  have HNB := Lib.hid hB.len
  have HA := Lib.hid hA
  have HB := Lib.hid hB
  have HM := Lib.hid (And.intro hA.max hB.max)
  have HY := Lib.hid hY
  have HJ := Lib.hid hJ
  have HLEN : Hid ((a ++ b).length = m + k) := Lib.hid (by rw [List.length_append, HNA.out, HNB.out])
  have HCH : Hid (∀ i : Nat, i < 2 → ∃ (A' : Option Addr) (m' c' : Nat) (l' : List Ld), RLd w A' m' l' ∧ (∀ q, q < m' → (a ++ b)[cnt m k i + q]? = l'[q]?) ∧ cnt m k i + m' = cnt m k (i + 1) ∧
      ∀ X, (Instr.index 56 (.agg #[.slice A m c, .slice B k d]) (.int .i64 (i : Int))).run Try.prog X = .ok (.slice A' m' c') X) := Lib.hid (fun i hi => by
    rcases (show i = 0 ∨ i = 1 by omega) with rfl | rfl
    · exact ⟨A, m, c, a, HA.out, fun q hq => by rw [show cnt m k 0 + q = q by simp [cnt], List.getElem?_append_left (by rw [HNA.out]; exact hq)], by simp [cnt], fun X => by kernel_rfl⟩
    · exact ⟨B, k, d, b, HB.out, fun q hq => by rw [show cnt m k 1 + q = m + q by simp [cnt], List.getElem?_append_right (by rw [HNA.out]; omega), HNA.out]; congr 1; omega, by simp [cnt], fun X => by kernel_rfl⟩)
  clear hA hB hY hJ
  refine callsIn_of_wp Try.func29 rfl hf ?_ hro
  simp only [Try.ntmps29, List.size_toArray, List.length_cons, List.length_nil, Nat.reduceAdd, Nat.reduceSub, Array.replicate_succ, Array.replicate_zero, List.push_toArray, List.append_toArray, List.nil_append, List.cons_append]
  gi_wp2
  gi_loopw [12] (fun i wr => ∃ q : Nat, q ≤ 2 ∧ i = .int .i64 (q : Int) ∧ Hid (J ((a ++ b).attach.take (cnt m k q)) wr) ∧ Hid (But No w wr) ∧ Hid (Below w.heap.size W wr) ∧ Hid (W.heap.size ≤ wr.heap.size)) (fun i _ => 2 - (intOf i).toNat)
  case atStart => exact ⟨0, by omega, rfl, h0, hW, Below.refl _ _, Nat.le_refl _⟩
  case round =>
    obtain ⟨i, hi, rfl, HJS, HBR, HBW, HSZ⟩ := hrel
    by_cases hi2 : i < 2
    · have hi3 : (i : Int) < 2 := by omega
      have hi0 : (0 : Int) ≤ (i : Int) := Int.natCast_nonneg i
      have b2 : decide ((i : Int) < 2) = true := by simp; omega
      obtain ⟨A', m', c', l', hL', hcat, hcn, hrun⟩ := HCH.out i hi2
      have HL := Lib.hid hL'
      have HN := Lib.hid hL'.len
      have HCAT := Lib.hid hcat
      have HCN := Lib.hid hcn
      have hmax := hL'.max
      have HLE : Hid (cnt m k i + m' ≤ m + k) := Lib.hid (by rw [hcn]; rcases (show i = 0 ∨ i = 1 by omega) with rfl | rfl <;> simp [cnt])
      obtain ⟨p, hp⟩ : ∃ p, cnt m k i = p := ⟨_, rfl⟩
      rw [hp] at HJS HCAT HCN HLE
      clear hL' hcat hcn hp
      gi_wp2
      gi_loopw [17] (fun j w3 => ∃ q : Nat, q ≤ m' ∧ j = .int .i64 (q : Int) ∧ Hid (J ((a ++ b).attach.take (p + q)) w3) ∧ Hid (But No w w3) ∧ Hid (Below w.heap.size W w3) ∧ Hid (W.heap.size ≤ w3.heap.size)) (fun j _ => m' - (intOf j).toNat)
      case atStart => exact ⟨0, by omega, rfl, HJS.out, HBR.out, HBW.out, HSZ.out⟩
      case round =>
        obtain ⟨q, hq, rfl, HJS, HBR, HBW, HSZ⟩ := hrel
        by_cases hqm : q < m'
        · have hqm2 : (q : Int) < (m' : Int) := by omega
          have hq0 : (0 : Int) ≤ (q : Int) := Int.natCast_nonneg q
          have b3 : decide ((q : Int) < (m' : Int)) = true := by simp; omega
          have hkl : p + q < (a ++ b).length := by rw [HLEN.out]; have := HLE.out; omega
          have hx : l'[q]? = some (a ++ b)[p + q] := by rw [← HCAT.out q hqm]; exact List.getElem?_eq_getElem hkl
          obtain ⟨bk, off, rfl, _, e0, e1, e2⟩ := (HL.out.no HBR.out).at1 hx
          obtain ⟨xx, hxx⟩ : ∃ xx : {x : Ld // x ∈ a ++ b}, xx = ⟨(a ++ b)[p + q], List.getElem_mem hkl⟩ := ⟨_, rfl⟩
          have HAT : Hid ((a ++ b).attach.take (p + (q + 1)) = (a ++ b).attach.take (p + q) ++ [xx]) := Lib.hid (by rw [hxx]; exact attach_take_snoc hkl)
          have hxv : (a ++ b)[p + q] = xx.1 := by rw [hxx]
          rw [hxv] at e0 e1 e2
          clear hxx hxv hx hkl
          have hb1 : But No wr (wr.alloc (.cells #[.int .i64 xx.1.w, .int .i64 xx.1.p, .int .i64 xx.1.j] 33)) := (But.refl No wr).alloc _
          obtain ⟨fn, tmps, assign, body, hy, hR⟩ := HY.out ((a ++ b).attach.take (p + q)) xx (wr.alloc (.cells #[.int .i64 xx.1.w, .int .i64 xx.1.p, .int .i64 xx.1.j] 33)) (HJ.out _ _ _ none HJS.out (World.grownBy_alloc _ _ none) (fun r e => by cases e)) (by rw [List.length_take, List.length_attach, HLEN.out]; have := HLE.out; omega)
          unfold ldV at hy
          have HR := Lib.hid hR
          have HB1 := Lib.hid (HBR.out.trans hb1)
          have HW1 := Lib.hid (HBW.out.trans (below_but hb1 (by have := HBR.out.size; exact this)))
          have HS1 : Hid (W.heap.size ≤ (wr.alloc (.cells #[.int .i64 xx.1.w, .int .i64 xx.1.p, .int .i64 xx.1.j] 33)).heap.size) := Lib.hid (Nat.le_trans HSZ.out hb1.size)
          clear hR hb1
          gi_wp2
          refine HR.out.mono ?_
          rintro e W3 (⟨rfl, hJ3, hk3⟩ | ⟨rfl, hJx3⟩)
          · have HJ3 : Hid (J ((a ++ b).attach.take (p + (q + 1))) W3) := Lib.hid (by rw [HAT.out]; exact hJ3)
            have HB3 : Hid (But No w W3) := Lib.hid (but_below ((below_but HB1.out (Nat.le_refl _)).trans hk3))
            have HW3 := Lib.hid (HW1.out.trans hk3)
            have HS3 := Lib.hid (Nat.le_trans HS1.out hk3.size)
            clear hJ3 hk3
            gi_wp2
            go_roundw
            case rel => exact ⟨q + 1, by omega, by go_num, HJ3.out, HB3.out, HW3.out, HS3.out⟩
            case measure => simp [intOf]; omega
          · gi_wp2
            refine bodyPost_ret (results_none rfl _ _ _) rfl ?_
            exact ⟨⟨_, rfl⟩, .inr ⟨(a ++ b).attach.take (p + (q + 1)), List.take_prefix _ _, by rw [HAT.out]; exact hJx3⟩⟩
        · have hqn : q = m' := by omega
          have b3 : decide ((q : Int) < (m' : Int)) = false := by simp; omega
          have HJE : Hid (J ((a ++ b).attach.take (cnt m k (i + 1))) wr) := Lib.hid (by rw [← HCN.out, ← hqn]; exact HJS.out)
          clear hqn
          gi_wp2
          go_roundw
          case rel => exact ⟨i + 1, by omega, by go_num, HJE.out, HBR.out, HBW.out, HSZ.out⟩
          case measure => simp [intOf]; omega
    · have hi9 : i = 2 := by omega
      have b2 : decide ((i : Int) < 2) = false := by simp; omega
      have htk : (a ++ b).attach.take (cnt m k i) = (a ++ b).attach := by rw [hi9]; exact List.take_of_length_le (by rw [List.length_attach, HLEN.out]; simp [cnt])
      rw [htk] at HJS
      clear htk hi9
      gi_wp2
      go_end0
      exact ⟨⟨_, rfl⟩, .inl ⟨_, rfl, HJS.out⟩⟩
/-- What the iterator hands over: all loads, in their order; or a part, where a round has said 'no more'. -/
theorem loads_stops (F : Fence) (n : Nat) (hf : F.fn 29) (hro : F.round = none) (hn : 1 ≤ n) (Bs : Nat) (A : Option Addr) (m c : Nat) (a : List Ld) (B : Option Addr) (k d : Nat) (b : List Ld) (w W0 : World) (hA : RLd w A m a) (hB : RLd w B k b) (hW0 : But No w W0) (h3 : W0.cell? ⟨Bs, 3, none⟩ = some (.slice A m c)) (h4 : W0.cell? ⟨Bs, 4, none⟩ = some (.slice B k d)) :
    SeqStopsK F n Try.prog 29 #[.pointer (some ⟨Bs, 0, none⟩)] (fun x : {x : Ld // x ∈ a ++ b} => #[ldV x.1]) (Below w.heap.size) (fun ys => ys = (a ++ b).attach) (fun pre => pre <+: (a ++ b).attach) (a ++ b).length W0 := fun lp J Jx W hW hJ _ hY h0 => by
  have hb : But No W0 W := but_below hW
  exact loads1_in F n hf hro hn lp Bs A m c a B k d b w hA hB J Jx W (hW0.trans hb) hJ hY (cell_keep h3 hb) (cell_keep h4 hb) h0
/-- A job by value. -/
def jobV (own bl rl : Int) (A : Option Addr) (m c : Nat) (B : Option Addr) (k d : Nat) : Value := .agg #[.int .i64 own, .int .i64 bl, .int .i64 rl, .slice A m c, .slice B k d]
/-- The call that makes the iterator: the job lies in a box. -/
theorem jloads_any (own bl rl : Int) (A : Option Addr) (m c : Nat) (B : Option Addr) (k d : Nat) (w : World) : Calls Try.prog 22 #[jobV own bl rl A m c B k d] w fun e w' => e = .returned (.func (.func 29) #[] #[.pointer (some ⟨w.heap.size, 0, none⟩)]) ∧ w' = w.alloc (.cells #[.int .i64 own, .int .i64 bl, .int .i64 rl, .slice A m c, .slice B k d] 38) := by
  have hmf : ∀ (fn : Fn) (first cap : Array Value) (w : World), (Instr.makeFunc fn first cap).run Try.prog w = .ok (.func fn first cap) w := fun _ _ _ _ => rfl
  unfold jobV
  go_enter Try.func22, Try.ntmps22
  go_wp2
  go_ret
  exact ⟨rfl, rfl⟩
end Go.Proofs.Ytnjkgalbbhmgjaa.rsp
