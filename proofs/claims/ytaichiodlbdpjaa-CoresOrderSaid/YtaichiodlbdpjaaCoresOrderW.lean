/- Any list makes the order of cores that the chapter says: CoresOrder returns true. (The walk.) -/
import Derived.Test.YtaichiodlbdpjaaR
namespace Go.Proofs.Ytaichiodlbdpjaa.coresOrder
open Go.ChangeShapes Go.WideShapes Go.ChangeAt Go.RowKit Go.Deep
/-- Two rows of the law's own that read as one list. -/
structure Two (w wr : World) (A B : Option Addr) (n c d : Nat) (L : List Int) : Prop where
  x : Oo w wr A n c L
  y : Oo w wr B n d L
theorem Two.no {w wr w2 : World} {A B : Option Addr} {n c d : Nat} {L : List Int} (h : Two w wr A B n c d L) (hb : But No wr w2) : Two w w2 A B n c d L := ⟨h.x.no hb, h.y.no hb⟩
set_option maxHeartbeats 4000000 in
set_option maxRecDepth 100000 in
theorem walk (a0 : Int) (_w0 : (Lit.int .i64 a0).wf = true) (A : Option Addr) (n c : Nat) (zs : List Int) (_hnc : n ≤ c) (hk : n * 8 ≤ 140737488351232) (w : World) (hd : Rd w A n zs) :
    Calls Try.prog 3 #[.int .i64 a0, .slice A n c] w fun e w' => e = .returned (.bool true) ∧ But No w w' := by
  have HD := Lib.hid hd
  have HK := Lib.hid hk
  clear hd hk
  by_cases h : 1 ≤ a0 ∧ a0 ≤ 8
  · obtain ⟨m, rfl⟩ : ∃ m : Nat, a0 = m := ⟨a0.toNat, by omega⟩
    have h1 : 1 ≤ m := by omega
    have h8 : m ≤ 8 := by omega
    have HC : Hid (∀ w', But No w w' → Calls Try.prog 9 #[.int .i64 m, .slice A n c] w' fun r w'' => ∃ v, r = .returned v ∧ OrderEnd w' (ord m zs) v w'') := fun w' hb => order_ok m A n c zs w' h1 h8 (HD.out.no hb)
    have HR : Hid (∀ w', But No w w' → Calls Try.prog 10 #[.int .i64 m, .slice A n c] w' fun r w'' => ∃ v, r = .returned v ∧ OrderEnd w' (ord m zs) v w'') := fun w' hb => refOrder_ok m A n c zs w' h1 h8 (HD.out.no hb) HK.out
    have HLN : Hid ((ord m zs).length ≤ 8) := by show _ ≤ _; rw [ord_len]; exact h8
    generalize ord m zs = L at HC HR HLN
    clear HD HK h
    go_enter Try.func3, Try.ntmps3
    go_wp2_with (first
      | (go_at_call 8; refine (examples_any _).mono ?_; rintro e w1 ⟨rfl, hb⟩; have HB := Lib.hid hb; clear hb)
      | (go_at_call 9; (with_reducible refine (HC.out _ HB.out).mono ?_); rintro e w2 ⟨v, rfl, A2, k, c2, rfl, ho⟩; have HO := Lib.hid ho; have HB2 := Lib.hid (HB.out.trans ho.but); clear ho)
      | (go_at_call 10; (with_reducible refine (HR.out _ HB2.out).mono ?_); rintro e w3 ⟨v, rfl, A3, k3, c3, rfl, ho⟩; obtain rfl : k = k3 := HO.out.ln.symm.trans ho.ln; have HT : Hid (Two w w3 A2 A3 k c2 c3 L) := ⟨⟨HO.out.ln, HB2.out.trans ho.but, (HO.out.no ho.but).row, fun j hj => Nat.le_trans HB.out.size (HO.out.new j hj)⟩, ⟨ho.ln, HB2.out.trans ho.but, ho.row, fun j hj => Nat.le_trans HB2.out.size (ho.new j hj)⟩⟩; clear ho))
    clear HO HB HB2 HC HR
    have hk8 : k ≤ 8 := by have h1 := HT.out.x.ln; have h2 := HLN.out; omega
    go_loopw [8] (fun s wr => ∃ j : Nat, s = .int .i64 j ∧ j ≤ k ∧ Hid (Two w wr A2 A3 k c2 c3 L)) (fun s _ => k - (intOf s).toNat)
    case atStart => exact ⟨0, rfl, by omega, HT⟩
    case round =>
      obtain ⟨j, rfl, hj, ht⟩ := hrel
      clear HT
      by_cases hlt : j < k
      · have kn' : (j : Int) < (k : Int) := by omega
        obtain ⟨g, rfl, d1⟩ := ht.out.x.cell hlt
        obtain ⟨g2, rfl, d2⟩ := ht.out.y.cell hlt
        generalize L.getD j 0 = x at d1 d2
        have b1 : (x != x) = false := by simp
        go_wp2_with fail
        go_region
        all_goals go_wp2
        all_goals go_roundw
        all_goals first | (case rel => exact ⟨j + 1, by go_num, by omega, ht.out.no ((But.refl No _).drew)⟩) | (simp [intOf]; omega)
      · have b1 : decide ((j : Int) < (k : Int)) = false := by simp; omega
        go_wp2
        go_ret
        exact ⟨rfl, ht.out.x.but⟩
  · have HC : Hid (∀ w', Calls Try.prog 9 #[.int .i64 a0, .slice A n c] w' fun r w'' => r = .returned (.slice none 0 0) ∧ w' = w'') := fun w' => order_bad a0 _ w' (by omega)
    have HR : Hid (∀ w', Calls Try.prog 10 #[.int .i64 a0, .slice A n c] w' fun r w'' => r = .returned (.slice none 0 0) ∧ w' = w'') := fun w' => refOrder_bad a0 _ w' (by omega)
    clear HD HK h
    go_enter Try.func3, Try.ntmps3
    go_wp2_with (first
      | (go_at_call 8; refine (examples_any _).mono ?_; rintro e w1 ⟨rfl, hb⟩; have HB := Lib.hid hb; clear hb)
      | (go_at_call 9; (with_reducible refine (HC.out _).mono ?_); rintro e w2 ⟨rfl, rfl⟩)
      | (go_at_call 10; (with_reducible refine (HR.out _).mono ?_); rintro e w2 ⟨rfl, rfl⟩))
    refine wp_loop_rounds 1 ?_
    rw [rounds_succ]
    go_wp2
    go_ret
    exact ⟨rfl, HB.out⟩
end Go.Proofs.Ytaichiodlbdpjaa.coresOrder
