/- Of any set it is told which levels are taken, which is the next one, how many, as the chapter says: BitsTells returns true. (The walk.) -/
import Derived.Test.YtgocjgipigjhbaaK
namespace Go.Proofs.Ytgocjgipigjhbaa.bitsTells
open Go.ChangeShapes Go.WideShapes Go.ChangeAt Go.RowKit
structure Mem (w0 w : World) (b bl g : Nat) (s : Q) : Prop where
  q : Blk w b (cells4 s) 26
  l : Bl w bl s.has
  r : Rd w (some ⟨g, 0, none⟩) s.count s.list
  but : But No w0 w
theorem Mem.step {w0 w w' : World} {b bl g : Nat} {s : Q} (h : Mem w0 w b bl g s) (hb : But No w w') : Mem w0 w' b bl g s :=
  ⟨h.q.but hb (fun f => f), Vals.but h.l hb (fun f => f), h.r.no hb, h.but.trans hb⟩
theorem Mem.item {w0 w : World} {b bl g : Nat} {s : Q} (h : Mem w0 w b bl g s) {k : Nat} (hk : k < 256) (hs : s.has k = true) : cnt s.has k < s.count ∧ w.cell? ⟨g, cnt s.has k, none⟩ = some (.int .i64 k) := by
  obtain ⟨h1, h2⟩ := lst_get hk hs
  have h3 : cnt s.has k < s.count := by rw [← Q.list_len]; exact h2
  obtain ⟨b', off, e, hl, hc⟩ := h.r.at_ (by omega)
  cases e
  have := hc _ h3
  rw [Nat.zero_add] at this
  refine ⟨h3, this.trans ?_⟩
  have : s.list.getD (cnt s.has k) 0 = (k : Int) := h1
  rw [this]
set_option maxHeartbeats 8000000 in
set_option maxRecDepth 100000 in
theorem walk (s : Q) (hs : s.ok) (i : Int) (_ : (Lit.int .i64 i).wf = true) (w : World) : Calls Try.prog 3 #[sv s, .int .i64 i] w fun e w' => e = .returned (.bool true) ∧ But No w w' := by
  have CE : Hid (∀ w, Calls Try.prog 10 #[] w fun e w' => e = .returned (.bool true) ∧ But No w w') := examples_any
  have CL : Hid (∀ w, Calls Try.prog 11 #[sv s] w (BlEnd w s.has)) := fun w => levels_any s w hs
  have CS : Hid (∀ w, Calls Try.prog 12 #[sv s] w (ListEnd w s)) := fun w => list_any s w hs
  have CH : Hid (∀ w (L : Nat), L < 256 → Calls Try.prog 13 #[sv s, .int .i64 L] w fun e w' => e = .returned (.bool (s.has L)) ∧ But No w w') := fun w L hL => has_yes s L w hs hL
  have CI : Hid (∀ w, Calls Try.prog 13 #[sv s, .int .i64 i] w fun e w' => e = .returned (.bool (s.hasI i)) ∧ But No w w') := fun w => has_any s i w hs
  have CF : Hid (∀ w, Calls Try.prog 14 #[sv s] w fun e w' => e = .returned (.int .i64 s.first) ∧ But No w w') := fun w => first_any s w hs
  have CN : Hid (∀ w, Calls Try.prog 16 #[sv s, .int .i64 i] w fun e w' => e = .returned (.int .i64 (s.next i)) ∧ But No w w') := fun w => next_any s i w hs
  have CC : Hid (∀ w, Calls Try.prog 17 #[sv s] w fun e w' => e = .returned (.int .i64 s.count) ∧ But No w w') := fun w => count_any s w hs
  have CR1 : Hid (∀ w bl, Bl w bl s.has → Calls Try.prog 15 #[.slice (some ⟨bl, 0, none⟩) 256 256, .int .i64 (-1)] w fun e w' => e = .returned (.int .i64 s.first) ∧ w = w') := fun w bl h => rnext_any bl s.has (-1) w h
  have CR2 : Hid (∀ w bl, Bl w bl s.has → Calls Try.prog 15 #[.slice (some ⟨bl, 0, none⟩) 256 256, .int .i64 i] w fun e w' => e = .returned (.int .i64 (s.next i)) ∧ w = w') := fun w bl h => rnext_any bl s.has i w h
  generalize s.first = fs at CF CR1
  generalize s.next i = nx at CN CR2
  have hcn := s.count_le
  have HC0 : Hid (s.count = cnt s.has 256) := rfl
  clear hs
  go_enter Try.func3, Try.ntmps3
  go_wp2_with (first
    | (go_at_call 10; (with_reducible refine (CE.out _).mono ?_); rintro e w1 ⟨rfl, hb1⟩; have HB1 := Lib.hid (((But.refl No w).alloc _).trans hb1); have HA1 := Lib.hid ((Blk.new w (cells4 s) 23).but hb1 (fun f => f)); clear hb1; have a0 := HA1.out.cell (o := 0) rfl; have a1 := HA1.out.cell (o := 1) rfl; have a2 := HA1.out.cell (o := 2) rfl; have a3 := HA1.out.cell (o := 3) rfl; have hl1 := HA1.out.lt)
    | (go_at_call 11; (with_reducible refine (CL.out _).mono ?_); rintro e w2 ⟨bl, rfl, hbl, hb2, hg⟩; have HB2 := Lib.hid ((HB1.out.alloc _).trans hb2); have HL2 := Lib.hid hbl; have HS2 := Lib.hid ((Blk.new w1 (cells4 s) 26).but hb2 (fun f => f)); clear hbl hb2 hg; have b0 := HS2.out.cell (o := 0) rfl; have b1 := HS2.out.cell (o := 1) rfl; have b2 := HS2.out.cell (o := 2) rfl; have b3 := HS2.out.cell (o := 3) rfl)
    | (go_at_call 12; (with_reducible refine (CS.out _).mono ?_); rintro e w3 ⟨g, rfl, hrd, hb3, hg⟩; have HM3 : Hid (Mem w w3 w1.heap.size bl g s) := ⟨HS2.out.but hb3 (fun f => f), Vals.but HL2.out hb3 (fun f => f), hrd, HB2.out.trans hb3⟩; clear hrd hb3 hg))
  go_loopw [8, 10] (fun t8 t10 wr => ∃ k n : Nat, k ≤ 256 ∧ n ≤ 256 ∧ t10 = .int .i64 k ∧ t8 = .int .i64 n ∧ Hid (n = cnt s.has k) ∧ Hid (Mem w wr w1.heap.size bl g s)) (fun _ t10 _ => 257 - (intOf t10).toNat)
  case atStart => exact ⟨0, 0, by omega, by omega, rfl, rfl, rfl, HM3⟩
  case round =>
    obtain ⟨k, n, hk, hn, rfl, rfl, hnc, hm⟩ := hrel
    by_cases hlt : k < 256
    · have HMD : Hid (Mem w wr.drew w1.heap.size bl g s) := hm.out.step ((But.refl _ _).drew)
      have hk0 : (0 : Int) ≤ (k : Int) := by omega
      have hk1 : (k : Int) < 256 := by omega
      cases hh : s.has k with
      | false =>
        have CK : Hid (∀ w, Calls Try.prog 13 #[sv s, .int .i64 k] w fun e w' => e = .returned (.bool false) ∧ But No w w') := fun w => by have := CH.out w k hlt; rw [hh] at this; exact this
        have HBC : Hid (∀ w', Mem w w' w1.heap.size bl g s → w'.cell? ⟨bl, k, none⟩ = some (.bool false)) := fun w' h => by have := Vals.cell h.l hlt; rw [hh] at this; exact this
        have HN1 : Hid (n = cnt s.has (k + 1)) := by show _ = cnt s.has k + if s.has k then 1 else 0; rw [hh, hnc.out]; rfl
        clear hh
        go_wp2_with fail
        go_region_held3 (fun w' => (w'.cell? ⟨w1.heap.size, 0, none⟩ = some (.int .u64 s.a) ∧ w'.cell? ⟨w1.heap.size, 1, none⟩ = some (.int .u64 s.b) ∧ w'.cell? ⟨w1.heap.size, 2, none⟩ = some (.int .u64 s.c) ∧ w'.cell? ⟨w1.heap.size, 3, none⟩ = some (.int .u64 s.d)) ∧ w'.cell? ⟨bl, k, none⟩ = some (.bool false) ∧ Mem w w' w1.heap.size bl g s)
          (first | exact ⟨HMD.out.q.four, HBC.out _ HMD.out, HMD.out⟩ | exact ⟨(HMD.out.step hbq).q.four, HBC.out _ (HMD.out.step hbq), HMD.out.step hbq⟩)
          (first | (go_at_call 13; ((with_reducible refine (CK.out _).mono ?_); rintro e wq ⟨rfl, hbq⟩)))
        rename_i hH
        have HM := Lib.hid hH.2.2
        have hbc := hH.2.1
        clear hH hbq
        go_wp2
        go_roundw
        case rel => exact ⟨k + 1, n, by omega, by omega, by go_num, rfl, HN1, HM⟩
        case measure => simp [intOf]; omega
      | true =>
        have CK : Hid (∀ w, Calls Try.prog 13 #[sv s, .int .i64 k] w fun e w' => e = .returned (.bool true) ∧ But No w w') := fun w => by have := CH.out w k hlt; rw [hh] at this; exact this
        have HBC : Hid (∀ w', Mem w w' w1.heap.size bl g s → w'.cell? ⟨bl, k, none⟩ = some (.bool true)) := fun w' h => by have := Vals.cell h.l hlt; rw [hh] at this; exact this
        have HIT : Hid (∀ w', Mem w w' w1.heap.size bl g s → n < s.count ∧ w'.cell? ⟨g, n, none⟩ = some (.int .i64 k)) := fun w' h => by have := h.item hlt hh; rw [← hnc.out] at this; exact this
        have HN1 : Hid (n + 1 = cnt s.has (k + 1)) := by show _ = cnt s.has k + if s.has k then 1 else 0; rw [hh, hnc.out]; rfl
        have hn1 : n + 1 ≤ 256 := by rw [HN1.out]; exact Nat.le_trans (cnt_le _ _) (by omega)
        clear hh
        go_wp2_with fail
        go_region_held3 (fun w' => (w'.cell? ⟨w1.heap.size, 0, none⟩ = some (.int .u64 s.a) ∧ w'.cell? ⟨w1.heap.size, 1, none⟩ = some (.int .u64 s.b) ∧ w'.cell? ⟨w1.heap.size, 2, none⟩ = some (.int .u64 s.c) ∧ w'.cell? ⟨w1.heap.size, 3, none⟩ = some (.int .u64 s.d)) ∧ w'.cell? ⟨bl, k, none⟩ = some (.bool true) ∧ Mem w w' w1.heap.size bl g s)
          (first | exact ⟨HMD.out.q.four, HBC.out _ HMD.out, HMD.out⟩ | exact ⟨(HMD.out.step hbq).q.four, HBC.out _ (HMD.out.step hbq), HMD.out.step hbq⟩)
          (first | (go_at_call 13; ((with_reducible refine (CK.out _).mono ?_); rintro e wq ⟨rfl, hbq⟩)))
        rename_i hH
        have HM := Lib.hid hH.2.2
        have hbc := hH.2.1
        obtain ⟨hnl, hit⟩ := HIT.out _ HM.out
        have hnl' : (n : Int) < (s.count : Int) := by omega
        have b1 : decide (s.count ≤ n) = false := by simp; omega
        have b2 : decide ((s.count : Int) ≤ (n : Int)) = false := by simp; omega
        clear hH hbq
        go_wp2
        go_roundw
        case rel => exact ⟨k + 1, n + 1, by omega, by omega, by go_num, by go_num, HN1, HM⟩
        case measure => simp [intOf]; omega
    · obtain rfl : k = 256 := by omega
      have HNC : Hid (n = s.count) := hnc.out
      have CC2 : Hid (∀ w, Calls Try.prog 17 #[sv s] w fun e w' => e = .returned (.int .i64 n) ∧ But No w w') := fun w => by have := CC.out w; rw [← HNC.out] at this; exact this
      have HLN : Hid ((s.count : Int) = (n : Int)) := by show _ = _; rw [HNC.out]
      by_cases h0 : i < 0
      · have b0 : decide (0 ≤ i) = false := by simp; omega
        have CI2 : Hid (∀ w, Calls Try.prog 13 #[sv s, .int .i64 i] w fun e w' => e = .returned (.bool false) ∧ But No w w') := fun w => by
          have := CI.out w
          have e : s.hasI i = false := by unfold Q.hasI; rw [b0]; rfl
          rw [e] at this; exact this
        have c0 := hm.out.q.cell (o := 0) rfl
        have c1 := hm.out.q.cell (o := 1) rfl
        have c2 := hm.out.q.cell (o := 2) rfl
        have c3 := hm.out.q.cell (o := 3) rfl
        go_wp2_with (first
          | (go_at_call 13; (with_reducible refine (CI2.out _).mono ?_); rintro e w4 ⟨rfl, hb4⟩; have HM4 := Lib.hid (hm.out.step hb4); clear hb4; have d0 := HM4.out.q.cell (o := 0) rfl; have d1 := HM4.out.q.cell (o := 1) rfl; have d2 := HM4.out.q.cell (o := 2) rfl; have d3 := HM4.out.q.cell (o := 3) rfl)
          | (go_at_call 14; (with_reducible refine (CF.out _).mono ?_); rintro e w5 ⟨rfl, hb5⟩; have HM5 := Lib.hid (HM4.out.step hb5); clear hb5; have e0 := HM5.out.q.cell (o := 0) rfl; have e1 := HM5.out.q.cell (o := 1) rfl; have e2 := HM5.out.q.cell (o := 2) rfl; have e3 := HM5.out.q.cell (o := 3) rfl)
          | (go_at_call 15; (with_reducible refine (CR1.out _ _ HM5.out.l).mono ?_); rintro e w' ⟨rfl, rfl⟩)
          | (go_at_call 16; (with_reducible refine (CN.out _).mono ?_); rintro e w6 ⟨rfl, hb6⟩; have HM6 := Lib.hid (HM5.out.step hb6); clear hb6; have f0 := HM6.out.q.cell (o := 0) rfl; have f1 := HM6.out.q.cell (o := 1) rfl; have f2 := HM6.out.q.cell (o := 2) rfl; have f3 := HM6.out.q.cell (o := 3) rfl)
          | (go_at_call 15; (with_reducible refine (CR2.out _ _ HM6.out.l).mono ?_); rintro e w' ⟨rfl, rfl⟩)
          | (go_at_call 17; (with_reducible refine (CC2.out _).mono ?_); rintro e w7 ⟨rfl, hb7⟩; have HM7 := Lib.hid (HM6.out.step hb7); clear hb7))
        go_ret
        exact ⟨ret_bool (by rw [HLN.out]; simp), HM7.out.but⟩
      · have b0 : decide (0 ≤ i) = true := by simp; omega
        by_cases h1 : i < 256
        · have CI2 : Hid (∀ w, Calls Try.prog 13 #[sv s, .int .i64 i] w fun e w' => e = .returned (.bool (s.has i.toNat)) ∧ But No w w') := fun w => by
            have := CI.out w
            have b1 : decide (i < 256) = true := by simpa using h1
            have e : s.hasI i = s.has i.toNat := by unfold Q.hasI; rw [b0, b1]; rfl
            rw [e] at this; exact this
          obtain ⟨m, rfl⟩ : ∃ m : Nat, i = m := ⟨i.toNat, by omega⟩
          have hm256 : m < 256 := by omega
          have hbc := Vals.cell hm.out.l hm256
          have e1 : min (m : Int) 255 = m := by omega
          have e2 : max (m : Int) 0 = m := by omega
          have m0 : (0 : Int) ≤ (m : Int) := by omega
          rw [Int.toNat_natCast] at CI2
          generalize s.has m = hv at CI2 hbc
          clear h0
          have c0 := hm.out.q.cell (o := 0) rfl
          have c1 := hm.out.q.cell (o := 1) rfl
          have c2 := hm.out.q.cell (o := 2) rfl
          have c3 := hm.out.q.cell (o := 3) rfl
          go_wp2_with (first
            | (go_at_call 13; (with_reducible refine (CI2.out _).mono ?_); rintro e w4 ⟨rfl, hb4⟩; have HM4 := Lib.hid (hm.out.step hb4); clear hb4; have d0 := HM4.out.q.cell (o := 0) rfl; have d1 := HM4.out.q.cell (o := 1) rfl; have d2 := HM4.out.q.cell (o := 2) rfl; have d3 := HM4.out.q.cell (o := 3) rfl)
            | (go_at_call 14; (with_reducible refine (CF.out _).mono ?_); rintro e w5 ⟨rfl, hb5⟩; have HM5 := Lib.hid (HM4.out.step hb5); clear hb5; have e0 := HM5.out.q.cell (o := 0) rfl; have e1 := HM5.out.q.cell (o := 1) rfl; have e2 := HM5.out.q.cell (o := 2) rfl; have e3 := HM5.out.q.cell (o := 3) rfl)
            | (go_at_call 15; (with_reducible refine (CR1.out _ _ HM5.out.l).mono ?_); rintro e w' ⟨rfl, rfl⟩)
            | (go_at_call 16; (with_reducible refine (CN.out _).mono ?_); rintro e w6 ⟨rfl, hb6⟩; have HM6 := Lib.hid (HM5.out.step hb6); clear hb6; have f0 := HM6.out.q.cell (o := 0) rfl; have f1 := HM6.out.q.cell (o := 1) rfl; have f2 := HM6.out.q.cell (o := 2) rfl; have f3 := HM6.out.q.cell (o := 3) rfl)
            | (go_at_call 15; (with_reducible refine (CR2.out _ _ HM6.out.l).mono ?_); rintro e w' ⟨rfl, rfl⟩)
            | (go_at_call 17; (with_reducible refine (CC2.out _).mono ?_); rintro e w7 ⟨rfl, hb7⟩; have HM7 := Lib.hid (HM6.out.step hb7); clear hb7))
          go_ret
          exact ⟨ret_bool (by rw [HLN.out]; simp), HM7.out.but⟩
        · have b1 : decide (i < 256) = false := by simp; omega
          have CI2 : Hid (∀ w, Calls Try.prog 13 #[sv s, .int .i64 i] w fun e w' => e = .returned (.bool false) ∧ But No w w') := fun w => by
            have := CI.out w
            have e : s.hasI i = false := by unfold Q.hasI; rw [b0, b1]; rfl
            rw [e] at this; exact this
          have c0 := hm.out.q.cell (o := 0) rfl
          have c1 := hm.out.q.cell (o := 1) rfl
          have c2 := hm.out.q.cell (o := 2) rfl
          have c3 := hm.out.q.cell (o := 3) rfl
          go_wp2_with (first
            | (go_at_call 13; (with_reducible refine (CI2.out _).mono ?_); rintro e w4 ⟨rfl, hb4⟩; have HM4 := Lib.hid (hm.out.step hb4); clear hb4; have d0 := HM4.out.q.cell (o := 0) rfl; have d1 := HM4.out.q.cell (o := 1) rfl; have d2 := HM4.out.q.cell (o := 2) rfl; have d3 := HM4.out.q.cell (o := 3) rfl)
            | (go_at_call 14; (with_reducible refine (CF.out _).mono ?_); rintro e w5 ⟨rfl, hb5⟩; have HM5 := Lib.hid (HM4.out.step hb5); clear hb5; have e0 := HM5.out.q.cell (o := 0) rfl; have e1 := HM5.out.q.cell (o := 1) rfl; have e2 := HM5.out.q.cell (o := 2) rfl; have e3 := HM5.out.q.cell (o := 3) rfl)
            | (go_at_call 15; (with_reducible refine (CR1.out _ _ HM5.out.l).mono ?_); rintro e w' ⟨rfl, rfl⟩)
            | (go_at_call 16; (with_reducible refine (CN.out _).mono ?_); rintro e w6 ⟨rfl, hb6⟩; have HM6 := Lib.hid (HM5.out.step hb6); clear hb6; have f0 := HM6.out.q.cell (o := 0) rfl; have f1 := HM6.out.q.cell (o := 1) rfl; have f2 := HM6.out.q.cell (o := 2) rfl; have f3 := HM6.out.q.cell (o := 3) rfl)
            | (go_at_call 15; (with_reducible refine (CR2.out _ _ HM6.out.l).mono ?_); rintro e w' ⟨rfl, rfl⟩)
            | (go_at_call 17; (with_reducible refine (CC2.out _).mono ?_); rintro e w7 ⟨rfl, hb7⟩; have HM7 := Lib.hid (HM6.out.step hb7); clear hb7))
          go_ret
          exact ⟨ret_bool (by rw [HLN.out]; simp), HM7.out.but⟩
end Go.Proofs.Ytgocjgipigjhbaa.bitsTells
