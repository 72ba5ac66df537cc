/- Contracts of New, has, isTask, within, ahead, Due, Len, pick. -/
import Derived.Test.YtmfjlfemeihchaaW
namespace Go.Proofs.Ytmfjlfemeihchaa
open Go.ChangeShapes Go.WideShapes Go.ChangeAt Go.RowKit Go.Deep
theorem new_ok (C : Int) (w : World) (h1 : 1 ≤ C) (h8 : C ≤ 8) :
    Calls Try.prog 7 #[.int .i64 C] w fun r w' => ∃ p m, r = .returned (.tuple #[.pointer (some ⟨p, 0, none⟩), .int .i64 0]) ∧ BP w' p m C 0 [] ∧ But No w w' ∧ ∀ k, Own p m k → w.heap.size ≤ k := by
  have hmm := @run_makeMap Try.prog
  have b1 : decide (C < 1) = false := by simp; omega
  have b2 : decide ((8 : Int) < C) = false := by simp; omega
  go_enter Try.func7, Try.ntmps7
  go_wp2
  go_ret2
  have hm := World.ownsMap_made (H := Unit) w Try.prog 48 noteR
  have hb := blk2 w (.map #[] 0) #[.int .i64 C, .int .i64 0, .map (some w.heap.size)] 42
  refine ⟨w.heap.size + 1, w.heap.size, rfl, ⟨hb, ⟨.map [], hm.alloc _, fun a b _ _ => ⟨rfl, fun _ => rfl⟩⟩, Gd.nil h1 h8⟩, ((But.refl No w).alloc _).alloc _, ?_⟩
  rintro k (rfl | rfl) <;> omega
theorem new_bad (C : Int) (w : World) (h : C < 1 ∨ 8 < C) :
    Calls Try.prog 7 #[.int .i64 C] w fun r w' => r = .returned (.tuple #[.pointer none, .int .i64 1]) ∧ w = w' := by
  rcases h with h | h
  · have b1 : decide (C < 1) = true := by simp; omega
    go_enter Try.func7, Try.ntmps7
    go_wp2
    go_ret2
    exact ⟨rfl, rfl⟩
  · have b1 : decide (C < 1) = false := by simp; omega
    have b2 : decide ((8 : Int) < C) = true := by simp; omega
    go_enter Try.func7, Try.ntmps7
    go_wp2
    go_ret2
    exact ⟨rfl, rfl⟩
theorem has_any (p : Nat) (C c : Int) (w : World) (hc : w.cell? ⟨p, 0, none⟩ = some (.int .i64 C)) :
    Calls Try.prog 18 #[.pointer (some ⟨p, 0, none⟩), .int .i64 c] w fun r w' => r = .returned (.bool (decide (0 ≤ c ∧ c < C))) ∧ w' = w := by
  by_cases h0 : 0 ≤ c
  · have b1 : decide (0 ≤ c) = true := by simpa using h0
    have HE : Hid (decide (c < C) = decide (0 ≤ c ∧ c < C)) := by show _ = _; simp [h0]
    go_enter Try.func18, Try.ntmps18
    go_wp2
    go_ret
    exact ⟨retb HE.out, rfl⟩
  · have b1 : decide (0 ≤ c) = false := by simpa using h0
    have HE : Hid (false = decide (0 ≤ c ∧ c < C)) := by show _ = _; simp [h0]
    clear h0
    go_enter Try.func18, Try.ntmps18
    go_wp2
    go_ret
    exact ⟨retb HE.out, rfl⟩
theorem isTask_any (c : Int) (w : World) :
    Calls Try.prog 19 #[.int .i64 c] w fun r w' => r = .returned (.bool (decide (0 ≤ c ∧ c < 24))) ∧ w' = w := by
  by_cases h0 : 0 ≤ c
  · have b1 : decide (0 ≤ c) = true := by simpa using h0
    have HE : Hid (decide (c < 24) = decide (0 ≤ c ∧ c < 24)) := by show _ = _; simp [h0]
    go_enter Try.func19, Try.ntmps19
    go_wp2
    go_ret
    exact ⟨retb HE.out, rfl⟩
  · have b1 : decide (0 ≤ c) = false := by simpa using h0
    have HE : Hid (false = decide (0 ≤ c ∧ c < 24)) := by show _ = _; simp [h0]
    clear h0
    go_enter Try.func19, Try.ntmps19
    go_wp2
    go_ret
    exact ⟨retb HE.out, rfl⟩
theorem within_any (l : Int) (w : World) :
    Calls Try.prog 20 #[.int .i64 l] w fun r w' => r = .returned (.int .i64 (wi l)) ∧ w' = w := by
  by_cases h0 : l < 1
  · have b1 : decide (l < 1) = true := by simpa using h0
    have HE : Hid (wi l = 1) := by show _ = _; unfold wi; rw [if_pos h0]
    have hm : ((if 1 < l then l else 1) : Int) = 1 := by rw [if_neg (by omega)]
    go_enter Try.func20, Try.ntmps20
    go_wp2
    go_ret
    exact ⟨ret1 (by rw [HE.out]), rfl⟩
  · by_cases h1 : 50 < l
    · have HE : Hid (wi l = 50) := by show _ = _; unfold wi; rw [if_neg h0, if_pos h1]
      go_enter Try.func20, Try.ntmps20
      go_wp2
      go_ret
      exact ⟨ret1 (by rw [HE.out]), rfl⟩
    · have HE : Hid (wi l = l) := by show _ = _; unfold wi; rw [if_neg h0, if_neg h1]
      go_enter Try.func20, Try.ntmps20
      go_wp2
      go_ret
      exact ⟨ret1 (by rw [HE.out]), rfl⟩
theorem ahead_any (a b : Nt) (w : World) :
    Calls Try.prog 23 #[noteV a.task a.due a.turn, noteV b.task b.due b.turn] w fun r w' => r = .returned (.bool (ahB a b)) ∧ But No w w' := by
  obtain ⟨ac, at_, ad, an⟩ := a
  obtain ⟨bc, bt, bd, bn⟩ := b
  have HB : Hid (But No w ((w.alloc (.cells #[.int .i64 at_, .int .i64 ad, .int .i64 an] 50)).alloc (.cells #[.int .i64 bt, .int .i64 bd, .int .i64 bn] 50))) := ((But.refl No w).alloc _).alloc _
  by_cases h : ad = bd
  · have HE : Hid (ahB ⟨ac, at_, ad, an⟩ ⟨bc, bt, bd, bn⟩ = decide (an < bn)) := by show _ = _; unfold ahB; rw [if_pos h]
    have b1 : (ad != bd) = false := by simpa using h
    clear h
    go_enter Try.func23, Try.ntmps23
    go_wp2
    go_ret
    exact ⟨retb HE.out.symm, HB.out⟩
  · have HE : Hid (ahB ⟨ac, at_, ad, an⟩ ⟨bc, bt, bd, bn⟩ = decide (ad < bd)) := by show _ = _; unfold ahB; rw [if_neg h]
    have b1 : (ad != bd) = true := by simpa using h
    clear h
    go_enter Try.func23, Try.ntmps23
    go_wp2
    go_ret
    exact ⟨retb HE.out.symm, HB.out⟩
theorem due_any (p m : Nat) (C : Int) (T : Nat) (L : List Nt) (c t : Int) (w : World) (h : BP w p m C T L) (hc : inR c) (ht : inR t) :
    Calls Try.prog 14 #[.pointer (some ⟨p, 0, none⟩), .int .i64 c, .int .i64 t] w fun r w' => r = .returned (.int .i64 (dueOf L c t)) ∧ But No w w' := by
  have d2 : w.cell? ⟨p, 2, none⟩ = some (.map (some m)) := h.hp.cell (o := 2) rfl
  have hr := h.look hc ht
  have HB : Hid (∀ o, But No w (w.alloc o)) := fun o => (But.refl No w).alloc o
  have HE : Hid (dueOf L c t = match fnd L c t with | some n => n.due | none => -1) := by show _ = _; rfl
  cases e : fnd L c t with
  | none =>
    rw [e] at hr HE
    simp only [ov, Option.isSome_none] at hr
    clear h e hc ht
    go_enter Try.func14, Try.ntmps14
    go_wp2
    go_ret
    exact ⟨ret1 HE.out.symm, HB.out _⟩
  | some n =>
    rw [e] at hr HE
    simp only [ov, Option.isSome_some] at hr
    obtain ⟨nc, nt, nd, nn⟩ := n
    dsimp only at hr HE
    clear h e hc ht
    go_enter Try.func14, Try.ntmps14
    go_wp2
    go_ret
    exact ⟨ret1 HE.out.symm, HB.out _⟩
set_option maxHeartbeats 1000000 in
theorem len_any (p m : Nat) (C : Int) (T : Nat) (L : List Nt) (c : Int) (w : World) (h : BP w p m C T L) (hc : inR c) :
    Calls Try.prog 16 #[.pointer (some ⟨p, 0, none⟩), .int .i64 c] w fun r w' => r = .returned (.int .i64 (cn L c)) ∧ But No w w' := by
  have H := Lib.hid h
  have HC := Lib.hid hc
  have HCN : Hid (cnT L c 24 = cn L c) := cnT_cn h.gd c
  clear h hc
  go_enter Try.func16, Try.ntmps16
  go_wp2_with fail
  go_loopw [5, 9] (fun s i wx => ∃ j : Nat, s = .int .i64 (cnT L c j : Nat) ∧ i = .int .i64 j ∧ j ≤ 24 ∧ Hid (But No w wx)) (fun _ i _ => 24 - (intOf i).toNat)
  case atStart => exact ⟨0, rfl, rfl, by omega, But.refl _ _⟩
  case round =>
    obtain ⟨j, rfl, rfl, hj, hb⟩ := hrel
    have HR := Lib.hid (H.out.no hb.out)
    have hcj := cnT_le L c j
    by_cases hlt : j < 24
    · have jn : (j : Int) < 24 := by omega
      have d2 : wr.cell? ⟨p, 2, none⟩ = some (.map (some m)) := HR.out.hp.cell (o := 2) rfl
      have hr := HR.out.look HC.out (inR_nat (a := j) (by omega))
      cases e : fnd L c j with
      | none =>
        rw [e] at hr
        simp only [ov, Option.isSome_none] at hr
        have HS : Hid (cnT L c (j + 1) = cnT L c j) := by show _ = _; rw [cnT, e]; rfl
        generalize cnT L c j = q at hcj HS
        clear e
        go_wp2
        go_roundw
        case rel => exact ⟨j + 1, by rw [HS.out], by go_num, by omega, hb.out.alloc _⟩
        case measure => simp [intOf]; omega
      | some n =>
        rw [e] at hr
        simp only [ov, Option.isSome_some] at hr
        have HS : Hid (cnT L c (j + 1) = cnT L c j + 1) := by show _ = _; rw [cnT, e]; rfl
        generalize cnT L c j = q at hcj HS
        obtain ⟨nc, nt, nd, nn⟩ := n
        dsimp only at hr
        clear e
        go_wp2
        go_roundw
        case rel => exact ⟨j + 1, by rw [HS.out]; go_num, by go_num, by omega, hb.out.alloc _⟩
        case measure => simp [intOf]; omega
    · obtain rfl : j = 24 := by omega
      rw [HCN.out] at hcj ⊢
      clear hcj
      go_wp2
      go_ret
      exact ⟨rfl, hb.out⟩
theorem pick_any (c n : Int) (w : World) (hc : inR c) (h0 : 0 < n) (h1 : n ≤ 1099511627776) :
    Calls Try.prog 9 #[.int .i64 c, .int .i64 n] w fun r w' => r = .returned (.int .i64 (pk c n)) ∧ w = w' := by
  unfold inR at hc
  by_cases h : c < 0
  · have HP : Hid (pk c n = (-(c + 1)) % n) := by show _ = _; unfold pk; rw [if_pos h]
    have b1 : decide (c < 0) = true := by simp; omega
    have e0 : (0 : Int) ≤ -(c + 1) := by omega
    obtain ⟨d, hd⟩ : ∃ d, d = -(c + 1) := ⟨_, rfl⟩
    have HT : Hid ((-(c + 1)).tmod n = (-(c + 1)) % n) := Int.tmod_eq_emod_of_nonneg e0
    have nz : ¬ n = 0 := by omega
    clear hd
    go_enter Try.func9, Try.ntmps9
    go_wp2
    go_ret
    exact ⟨ret1 (by rw [HP.out]; first | rfl | (rw [← HT.out]; simp) | simp [Int.neg_tmod]), rfl⟩
  · have HP : Hid (pk c n = c % n) := by show _ = _; unfold pk; rw [if_neg h]
    have b1 : decide (c < 0) = false := by simp; omega
    have e0 : (0 : Int) ≤ c := by omega
    have nz : ¬ n = 0 := by omega
    go_enter Try.func9, Try.ntmps9
    go_wp2
    go_ret
    exact ⟨ret1 (by rw [HP.out]), rfl⟩
end Go.Proofs.Ytmfjlfemeihchaa
