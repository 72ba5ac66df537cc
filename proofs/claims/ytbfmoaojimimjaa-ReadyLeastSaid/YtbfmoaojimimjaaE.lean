/- Queues that the law made; pick, numbers; the chapter's examples. -/
import Derived.Test.YtbfmoaojimimjaaC5
namespace Go.Proofs.Ytbfmoaojimimjaa
open Go.ChangeShapes Go.WideShapes Go.ChangeAt Go.RowKit Go.Deep
/-- A queue that the law made: all that was there at w0 is as it was. -/
structure Hw (w0 w : World) (S : Nat → Prop) (q : Nat) (pol n : Int) (L : List E) : Prop where
  qp : QP w S q pol n L
  but : But No w0 w
  new : ∀ k, S k → w0.heap.size ≤ k
theorem Hw.step2 {w0 w w' : World} {S : Nat → Prop} {q : Nat} {pol n n' : Int} {L L' : List E} (h : Hw w0 w S q pol n L) (hm : QMv w S q pol n' L' w') : ∃ S', Hw w0 w' S' q pol n' L' ∧ ∀ b, b < w.heap.size → ¬ S b → ¬ S' b := by
  obtain ⟨S', h1, h2, h3⟩ := hm
  have := h.but.size
  exact ⟨S', ⟨h1, h.but.andThen h2 (fun k hk => .inr (h.new k hk)), fun k hk => (h3 k hk).elim (h.new k) (fun e => by omega)⟩, fun b hb hn e => (h3 b e).elim hn (by omega)⟩
theorem Hw.step {w0 w w' : World} {S : Nat → Prop} {q : Nat} {pol n n' : Int} {L L' : List E} (h : Hw w0 w S q pol n L) (hm : QMv w S q pol n' L' w') : ∃ S', Hw w0 w' S' q pol n' L' := by
  obtain ⟨S', h1, _⟩ := h.step2 hm; exact ⟨S', h1⟩
theorem Hw.no {w0 w w' : World} {S : Nat → Prop} {q : Nat} {pol n : Int} {L : List E} (h : Hw w0 w S q pol n L) (hb : But No w w') : Hw w0 w' S q pol n L := ⟨h.qp.but hb (fun _ _ f => f), h.but.trans hb, h.new⟩
theorem Hw.made {w0 w w' : World} {S : Nat → Prop} {q : Nat} {pol : Int} (h : QP w' S q pol 0 []) (hb : But No w0 w) (hb2 : But No w w') (hs : ∀ k, S k → w.heap.size ≤ k) : Hw w0 w' S q pol 0 [] :=
  ⟨h, hb.trans hb2, fun k hk => Nat.le_trans hb.size (hs k hk)⟩
theorem qkeep {w w' : World} {S : Nat → Prop} {q b : Nat} {pol n : Int} {L : List E} {cur : Array Value} {t : TypeId} (h : Blk w b cur t) (hm : QMv w S q pol n L w') (hn : ¬ S b) : Blk w' b cur t := by
  obtain ⟨S', h1, h2, h3⟩ := hm
  exact h.but h2 hn
theorem pick_any (c n : Int) (w : World) (hc : inR c) (h0 : 0 < n) (h1 : n ≤ 2000000000000000) :
    Calls Try.prog 10 #[.int .i64 c, .int .i64 n] w fun r w' => r = .returned (.int .i64 (pk c n)) ∧ w = w' := by
  unfold inR at hc
  by_cases h : c < 0
  · have HP : Hid (pk c n = (-(c + 1)) % n) := by show _ = _; unfold pk; rw [if_pos h]
    have b1 : decide (c < 0) = true := by simp; omega
    have e0 : (0 : Int) ≤ -(c + 1) := by omega
    obtain ⟨d, hd⟩ : ∃ d, d = -(c + 1) := ⟨_, rfl⟩
    have HT : Hid ((-(c + 1)).tmod n = (-(c + 1)) % n) := Int.tmod_eq_emod_of_nonneg e0
    have nz : ¬ n = 0 := by omega
    clear hd
    go_enter Try.func10, Try.ntmps10
    go_wp2
    go_ret
    exact ⟨ret1 (by rw [HP.out]; first | rfl | (rw [← HT.out]; simp) | simp [Int.neg_tmod]), rfl⟩
  · have HP : Hid (pk c n = c % n) := by show _ = _; unfold pk; rw [if_neg h]
    have b1 : decide (c < 0) = false := by simp; omega
    have e0 : (0 : Int) ≤ c := by omega
    have nz : ¬ n = 0 := by omega
    go_enter Try.func10, Try.ntmps10
    go_wp2
    go_ret
    exact ⟨ret1 (by rw [HP.out]), rfl⟩
set_option maxHeartbeats 1000000 in
theorem numbers_any (A B : Option Addr) (n m c d : Nat) (zs ts : List Int) (w : World) (hz : Rl w A n zs) (ht : Rl w B m ts) :
    Calls Try.prog 21 #[.slice A n c, .slice B m d] w fun e w' => e = .returned (.bool (decide (zs = ts))) ∧ But No w w' := by
  have hlz := hz.len
  have hlt := ht.len
  have hmx := hz.max
  have hmy := ht.max
  by_cases hnm : n = m
  · subst hnm
    have HL : Hid (zs.length = n ∧ ts.length = n) := ⟨hlz, hlt⟩
    have HZ := Lib.hid hz
    have HT := Lib.hid ht
    clear hz ht hlz hlt
    go_enter Try.func21, Try.ntmps21
    go_wp2
    go_loopw [5] (fun i wr => ∃ k : Nat, k ≤ n ∧ i = .int .i64 k ∧ Hid (∀ j, j < k → zs.getD j 0 = ts.getD j 0) ∧ Hid (But No w wr)) (fun i _ => n - (intOf i).toNat)
    case atStart => exact ⟨0, by omega, rfl, fun j hj => absurd hj (by omega), But.refl _ _⟩
    case round =>
      obtain ⟨k, hk, rfl, hall, hbw⟩ := hrel
      by_cases hlt : k < n
      · obtain ⟨b, off, rfl, hb, hc⟩ := (HZ.out.no hbw.out).at_ (by omega)
        obtain ⟨b', off', rfl, hb', hc'⟩ := (HT.out.no hbw.out).at_ (by omega)
        have hck := hc k hlt
        have hck' := hc' k hlt
        clear hc hc'
        have kn' : (k : Int) < (n : Int) := by omega
        obtain ⟨z, hze⟩ : ∃ z, z = zs.getD k 0 := ⟨_, rfl⟩
        obtain ⟨t, hte⟩ : ∃ t, t = ts.getD k 0 := ⟨_, rfl⟩
        rw [← hze] at hck
        rw [← hte] at hck'
        by_cases h1 : z = t
        · have hall' : Hid (∀ j, j < k + 1 → zs.getD j 0 = ts.getD j 0) := by
            intro j hj
            by_cases e : j = k
            · subst e; rw [← hze, ← hte]; exact h1
            · exact hall.out j (by omega)
          have h1' : (z != t) = false := by simpa using h1
          clear hze hte h1
          go_wp2_with fail
          go_quiet (fail)
          go_wp2
          go_roundw
          case rel => exact ⟨k + 1, by omega, by go_num, hall', hbw.out.drewN _⟩
          case measure => simp [intOf]; omega
        · have hE : Hid (decide (zs = ts) = false) := list_ne (k := k) (by rw [HL.out.1]; exact hlt) (by rw [← hze, ← hte]; exact h1)
          have h1' : (z != t) = true := by simpa using h1
          clear hze hte h1
          go_wp2_with fail
          go_quiet (fail)
          go_wp2
          go_ret
          exact ⟨retb hE.out.symm, hbw.out.drewN _⟩
      · have hE : Hid (decide (zs = ts) = true) := list_eq (by rw [HL.out.1, HL.out.2]) (fun j hj => hall.out j (by have := HL.out.1; omega))
        go_wp2
        go_ret
        exact ⟨retb hE.out.symm, hbw.out⟩
  · have hE : Hid (decide (zs = ts) = false) := by show _ = _; rw [decide_eq_false_iff_not]; rintro rfl; omega
    have hne : ((n : Int) != (m : Int)) = true := by simp; omega
    clear hz ht hlz hlt
    go_enter Try.func21, Try.ntmps21
    go_wp2
    all_goals go_ret
    all_goals exact ⟨retb hE.out.symm, But.refl _ _⟩
def e3 : E := ⟨3, 2, none⟩
def e1 : E := ⟨1, 2, none⟩
def e5 : E := ⟨5, 1, none⟩
def r3 : E := ⟨3, 2, some 1⟩
theorem t1 : addN [] 3 2 = 0 ∧ addL [] 3 2 = [e3] := ⟨rfl, rfl⟩
theorem t2 : addN [e3] 1 2 = 0 ∧ addL [e3] 1 2 = [e1, e3] := ⟨rfl, rfl⟩
theorem t3 : addN [e1, e3] 5 1 = 0 ∧ addL [e1, e3] 5 1 = [e5, e1, e3] := ⟨rfl, rfl⟩
theorem t4 : raiN 1 [e5, e1, e3] 3 1 = 0 ∧ raiL 1 [e5, e1, e3] 3 1 = [r3, e5, e1] := ⟨rfl, rfl⟩
theorem t5 : falN [r3, e5, e1] 3 = 0 ∧ falL [r3, e5, e1] 3 = [e5, e1, e3] := ⟨rfl, rfl⟩
theorem f4 : firE [r3, e5, e1] = 3 := rfl
theorem f5 : firE [e5, e1, e3] = 5 := rfl
set_option maxHeartbeats 4000000 in
set_option maxRecDepth 100000 in
theorem examples_any (w : World) : Calls Try.prog 7 #[] w fun r w' => r = .returned (.bool true) ∧ But No w w' := by
  go_enter Try.func7, Try.ntmps7
  go_wp2_with fail
  refine (new_any 1 w (.inl rfl)).mono ?_
  rintro e w1 ⟨q, S, rfl, h1, hb, hs⟩
  have H1 := Lib.hid (Hw.made h1 (But.refl No w) hb hs)
  clear h1 hb hs
  go_wp2_with fail
  refine (new_bad 3 w1 (by decide) (by decide)).mono ?_
  rintro e w2 ⟨rfl, rfl⟩
  go_wp2_with fail
  refine (add_any q 1 0 [] S _ 3 2 H1.out.qp (by omega)).mono ?_
  rintro e w2 ⟨rfl, hm⟩
  rw [t1.1]
  rw [t1.2] at hm
  obtain ⟨S2, hw2⟩ := H1.out.step hm
  have K2 := Lib.hid hw2
  clear hm hw2
  go_wp2_with fail
  refine (add_any q 1 1 [e3] S2 _ 1 2 K2.out.qp (by omega)).mono ?_
  rintro e w3 ⟨rfl, hm⟩
  rw [t2.1]
  rw [t2.2] at hm
  obtain ⟨S3, hw3⟩ := K2.out.step hm
  have K3 := Lib.hid hw3
  clear hm hw3
  go_wp2_with fail
  refine (add_any q 1 2 [e1, e3] S3 _ 5 1 K3.out.qp (by omega)).mono ?_
  rintro e w4 ⟨rfl, hm⟩
  rw [t3.1]
  rw [t3.2] at hm
  obtain ⟨S4, hw4⟩ := K3.out.step hm
  have K4 := Lib.hid hw4
  clear hm hw4
  go_wp2_with fail
  refine (all_any q 1 3 [e5, e1, e3] S4 _ K4.out.qp).mono ?_
  rintro e w5 ⟨b, rfl, hbk, hb, hlt⟩
  have K5 := Lib.hid (K4.out.no hb)
  have BK : Hid (Blk w5 b #[.int .i64 5, .int .i64 1, .int .i64 3] 3 ∧ ¬ S4 b) := ⟨hbk, fun e => by have := K4.out.qp.lt b e; omega⟩
  clear hbk hb hlt
  go_wp2_with fail
  refine (raise_any q 1 3 [e5, e1, e3] S4 _ 3 1 K5.out.qp (by omega)).mono ?_
  rintro e w6 ⟨rfl, hm⟩
  rw [t4.1]
  rw [t4.2] at hm
  have BK6 : Hid (Blk w6 b #[.int .i64 5, .int .i64 1, .int .i64 3] 3 ∧ b < w5.heap.size) := ⟨qkeep BK.out.1 hm BK.out.2, BK.out.1.lt⟩
  obtain ⟨S6, hw6, hns6⟩ := K5.out.step2 hm
  have hn6 := hns6 b BK.out.1.lt BK.out.2
  have K6 := Lib.hid hw6
  have NB6 := Lib.hid hn6
  clear hm hw6 hns6 hn6
  go_wp2_with fail
  refine (first_any q 1 4 [r3, e5, e1] S6 _ K6.out.qp).mono ?_
  rintro e w7 ⟨rfl, hb⟩
  rw [f4]
  have K7 := Lib.hid (K6.out.no hb)
  have BK7 := Lib.hid (BK6.out.1.but hb (fun f => f))
  clear hb
  go_wp2_with fail
  refine (fall_any q 1 4 [r3, e5, e1] S6 _ 3 (inR_small (by decide)) K7.out.qp (by omega)).mono ?_
  rintro e w8 ⟨rfl, hm⟩
  rw [t5.1]
  rw [t5.2] at hm
  have BK8 := Lib.hid (qkeep BK7.out hm NB6.out)
  obtain ⟨S8, hw8⟩ := K7.out.step hm
  have K8 := Lib.hid hw8
  clear hm hw8
  have b0 : w8.cell? ⟨b, 0, none⟩ = some (.int .i64 5) := BK8.out.cell (o := 0) rfl
  have b1 : w8.cell? ⟨b, 1, none⟩ = some (.int .i64 1) := BK8.out.cell (o := 1) rfl
  have b2 : w8.cell? ⟨b, 2, none⟩ = some (.int .i64 3) := BK8.out.cell (o := 2) rfl
  go_wp2_with (go_at_call 24; ((with_reducible refine (first_any q 1 5 [e5, e1, e3] S8 _ K8.out.qp).mono ?_); rintro e w9 ⟨rfl, hb⟩; rw [f5]; have K9 := Lib.hid (K8.out.no hb); clear hb))
  go_ret
  exact ⟨rfl, K9.out.but⟩
end Go.Proofs.Ytbfmoaojimimjaa
