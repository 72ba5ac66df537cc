/- The walk of PackNumbers: the program and the document write and read the same; what is read is the caller's own. -/
import Derived.Test.YtkgklgmkbkbeiaaL
import Derived.Test.YtkgklgmkbkbeiaaR1
import Derived.Test.YtkgklgmkbkbeiaaR3
namespace Go.Proofs.Ytkgklgmkbkbeiaa.packNumbers
open Go.ChangeShapes Go.WideShapes Go.ChangeAt Go.RowKit Go.Deep
/-- Where the numbers of a row of the call's own lie. -/
theorem Oc.blk {w0 w : World} {A : Option Addr} {n c : Nat} {ns : List Nat} (h : Oc 3 .i64 w0 w (.slice A n c) ns) (hn : 0 < n) : ∃ g cur, A = some ⟨g, 0, none⟩ ∧ w0.heap.size ≤ g ∧ Blk w g cur 3 ∧ n ≤ cur.size := by
  have h1 := h.own
  rcases h1.2 with ⟨e, h0⟩ | ⟨g, cap, cur, hv, _, hh, hc, _, hs, _⟩
  · cases e; omega
  · cases hv
    exact ⟨g, cur, rfl, h.new g rfl, hh, by omega⟩
def Mine (w : World) (B : Nat) (A : Option Addr) (n : Nat) : Prop := 0 < n → ∃ g cur, A = some ⟨g, 0, none⟩ ∧ B ≤ g ∧ Blk w g cur 3 ∧ n ≤ cur.size
theorem Mine.set {w : World} {B g n j : Nat} {cur : Array Value} (hg : B ≤ g) (hb : Blk w g cur 3) (hn : n ≤ cur.size) (u : Value) : Mine (w.setCell ⟨g, j, none⟩ u) B (some ⟨g, 0, none⟩) n :=
  fun _ => ⟨g, _, rfl, hg, hb.set j u, by simpa using hn⟩
set_option maxRecDepth 100000 in
set_option maxHeartbeats 2000000 in
theorem walk1 (A : Option Addr) (n c : Nat) (zs : List Int) (s : ByteArray) (hs : s.size ≤ 9223372036854775807) (w : World) (hz : Rl w A n zs) : Calls Try.prog 3 #[.slice A n c, .string s] w fun e w' => e = .returned (.bool true) ∧ But No w w' := by
  have CE : ∀ W, Hid (Calls Try.prog 10 #[] W fun e w' => e = .returned (.bool true) ∧ But No W w') := fun W => examples_any W
  have ht1 : nl (bl (wOut zs)) = wOut zs := nl_bl (wOut_lt zs)
  have CW : ∀ W, But No w W → Hid (Calls Try.prog 11 #[.slice A n c] W fun e w' => e = .returned (.tuple #[.string (bl (wOut zs)), .int .i64 (wErr zs : Nat)]) ∧ But No W w') := fun W hb => write_to ht1 rfl W (hz.no hb)
  have CW2 : ∀ W, But No w W → Hid (Calls Try.prog 12 #[.slice A n c] W fun e w' => e = .returned (.tuple #[.string (bl (wOut zs)), .int .i64 (wErr zs : Nat)]) ∧ But No W w') := fun W hb => (rwrite_any A n c zs W (hz.no hb)).mono fun e w' ⟨t', he, hn, hb⟩ => by
    have : t' = bl (wOut zs) := nl_inj (by rw [hn, ht1])
    subst this
    exact ⟨he, hb⟩
  generalize bl (wOut zs) = t1 at *
  generalize wErr zs = E1 at *
  obtain ⟨ns, E2, hr⟩ : ∃ ns E2, rAll (nl s) = (ns, E2) := ⟨_, _, rfl⟩
  have hln : ns.length ≤ 2000 := by
    have := rdn_len (f := (nl s).length) (acc := []) (s := nl s) (by simp)
    rw [show rdn (nl s).length [] (nl s) = (ns, E2) from hr] at this
    exact this
  have HLN := Lib.hid hln
  have CR := fun W => Lib.hid (read_to hr hs W)
  have CR2 : ∀ W, Hid (Calls Try.prog 13 #[.string s] W (RetNums W E2 ns)) := fun W => by
    have := rread_any s W hs
    rw [hr] at this
    exact this
  have CN : ∀ A' n' c' B' m' d' W, Hid (Rl W A' n' (ofN ns) → Rl W B' m' (ofN ns) → Calls Try.prog 15 #[.slice A' n' c', .slice B' m' d'] W fun e w' => e = .returned (.bool true) ∧ But No W w') := fun A' n' c' B' m' d' W => fun h1 h2 => by
    have := numbers_any A' B' n' m' c' d' (ofN ns) (ofN ns) W h1 h2
    rw [decide_eq_true rfl] at this
    exact this
  clear hr ht1 hz hln
  go_enter Try.func3, Try.ntmps3
  go_wp2_with (first | (go_at_call 10; refine (CE _).out.mono ?_; rintro e w1 ⟨rfl, hb1⟩; have HB1 := Lib.hid hb1; clear hb1) | (go_at_call 11; refine (CW _ HB1.out).out.mono ?_; rintro e w2 ⟨rfl, hb2⟩; have HB2 := Lib.hid (HB1.out.trans hb2); clear hb2) | (go_at_call 12; refine (CW2 _ HB2.out).out.mono ?_; rintro e w3 ⟨rfl, hb3⟩; have HB3 := Lib.hid (HB2.out.trans hb3); clear hb3) | (go_at_call 13; refine (CR2 _).out.mono ?_; rintro e w4 ⟨A0, n0, c0, rfl, hl0, ho0⟩; have HB4 := Lib.hid (HB3.out.trans ho0.but); have HO4 := Lib.hid (ho0.rl (by have := HLN.out; omega)); have HL0 := Lib.hid hl0; clear hl0 ho0))
  go_loopw [12] (fun i wr => ∃ k : Nat, k ≤ 2 ∧ i = .int .i64 (k : Int) ∧ Hid (But No w wr) ∧ Hid (Rl wr A0 n0 (ofN ns))) (fun i _ => 2 - (intOf i).toNat)
  case atStart => exact ⟨0, by omega, rfl, HB4, HO4⟩
  case round =>
    obtain ⟨k, hk, rfl, HB, HO⟩ := hrel
    by_cases hlt : k < 2
    · have hkt : decide ((k : Int) < 2) = true := by simp; omega
      go_wp2_with (first | (go_at_call 14; refine (CR _).out.mono ?_; rintro e w5 ⟨A5, n5, c5, rfl, hl5, ho5⟩; have HB5 := Lib.hid (HB.out.trans ho5.but); have HO5 := Lib.hid ho5; have HR5 := Lib.hid (ho5.rl (by have := HLN.out; omega)); have hn5 : n5 ≤ 2000 := (by have := HLN.out; omega); have HW5 := Lib.hid (HO.out.no ho5.but); clear hl5 ho5) | (go_at_call 15; refine ((CN _ _ _ _ _ _ _).out HR5.out HW5.out).mono ?_; rintro e w6 ⟨rfl, hb6⟩; have HB6 := Lib.hid (HB5.out.trans hb6); have HO6 := Lib.hid (HO5.out.step hb6); have HW6 := Lib.hid (HW5.out.no hb6); clear hb6))
      obtain ⟨B, hB⟩ : ∃ B, B = wr.heap.size := ⟨_, rfl⟩
      have HM6 : Hid (Mine w6 B A5 n5) := fun h => by rw [hB]; exact Oc.blk HO6.out h
      have HBW : Hid (But No wr w6) := HO6.out.but
      have HBB : Hid (w.heap.size ≤ B ∧ But No w wr) := ⟨by rw [hB]; exact HB.out.size, HB.out⟩
      obtain ⟨w0, hw0⟩ : ∃ w0, w0 = wr := ⟨_, rfl⟩
      rw [← hw0] at HBW HBB HO hB
      have HB0 := Lib.hid hB
      clear hw0 hB HB HB5 HO5 HR5 HW5 HB6 HO6 HW6
      go_loopw [16] (fun i wi => ∃ j : Nat, j ≤ n5 ∧ i = .int .i64 (j : Int) ∧ Hid (But No w0 wi) ∧ Hid (Mine wi B A5 n5)) (fun i _ => n5 - (intOf i).toNat)
      case atStart => exact ⟨0, by omega, rfl, HBW, HM6⟩
      case round =>
        obtain ⟨j, hj, rfl, HW, HM⟩ := hrel
        by_cases hjl : j < n5
        · obtain ⟨g, cur, rfl, hg, hbk, hcs⟩ := HM.out (by omega)
          have hcj := hbk.cell (o := j) (v := cur[j]'(by omega)) (Array.getElem?_eq_getElem (by omega))
          have hfj := hbk.frozen j
          generalize cur[j]'(by omega) = y at hcj
          have HM2 := fun u => Lib.hid (Mine.set (j := j) hg hbk hcs u)
          have HW2 := fun u => Lib.hid (HW.out.setNew (p := ⟨g, j, none⟩) (by rw [← HB0.out]; exact hg) u)
          have hj2 : (j : Int) < (n5 : Int) := by omega
          clear hbk hcs hg
          go_wp2
          go_roundw
          case rel => exact ⟨j + 1, by omega, by go_num, HW2 _, HM2 _⟩
          case measure => simp [intOf]; omega
        · have hjn : ¬ (j : Int) < (n5 : Int) := by omega
          go_wp2
          go_roundw
          case rel => exact ⟨k + 1, by omega, by go_num, HBB.out.2.trans HW.out, HO.out.no HW.out⟩
          case measure => simp [intOf]; omega
    · have hkt : decide ((k : Int) < 2) = false := by simp; omega
      go_wp2
      go_ret
      exact ⟨rfl, HB.out⟩
theorem walk (A : Option Addr) (n c : Nat) (zs : List Int) (_ : n ≤ c) (s : ByteArray) (hs : s.size ≤ 9223372036854775807) (w : World) (hz : Rd w A n zs) : Calls Try.prog 3 #[.slice A n c, .string s] w fun e w' => e = .returned (.bool true) ∧ But No w w' :=
  walk1 A n c zs s hs w ⟨hz.len, hz.max, hz.at_⟩
end Go.Proofs.Ytkgklgmkbkbeiaa.packNumbers
