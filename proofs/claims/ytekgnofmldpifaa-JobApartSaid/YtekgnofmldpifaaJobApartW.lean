/- The walk of JobApart. -/
import Derived.Test.YtekgnofmldpifaaO
namespace Go.Proofs.Ytekgnofmldpifaa
open Go.ChangeShapes Go.WideShapes Go.ChangeAt Go.RowKit Go.Deep
namespace jobApart
theorem cells5 {w : World} {b : Nat} {a c : Bool} {r m n : Int} (h : Blk w b #[.bool a, .int .i64 r, .int .i64 m, .int .i64 n, .bool c] 35) :
    w.cell? ⟨b, 0, none⟩ = some (.bool a) ∧ w.cell? ⟨b, 1, none⟩ = some (.int .i64 r) ∧ w.cell? ⟨b, 2, none⟩ = some (.int .i64 m) ∧ w.cell? ⟨b, 3, none⟩ = some (.int .i64 n) ∧ w.cell? ⟨b, 4, none⟩ = some (.bool c) :=
  ⟨h.cell (o := 0) rfl, h.cell (o := 1) rfl, h.cell (o := 2) rfl, h.cell (o := 3) rfl, h.cell (o := 4) rfl⟩
def Rel (w wr : World) (p tb : Nat) (P W : Int) (k : Nat) (la : Int) : Prop := ∃ S e, Ap w wr S p tb P W e k la
set_option maxHeartbeats 8000000 in
set_option maxRecDepth 100000 in
theorem walk (a : Int) (ha : (Lit.int .i64 a).wf = true) (b : Int) (hb : (Lit.int .i64 b).wf = true) (A : Option Addr) (n c : Nat) (zs : List Int) (_ : n ≤ c) (w : World) (hd : Rd w A n zs) :
    Calls Try.prog 3 #[.int .i64 a, .int .i64 b, .slice A n c] w fun e w' => e = .returned (.bool true) ∧ But No w w' := by
  have CA := Lib.hid (fun W => pick_any a 30 W (inR_of ha) (by omega) (by omega))
  have CB := Lib.hid (fun W => pick_any b 30 W (inR_of hb) (by omega) (by omega))
  have ra := pk_lt a 30 (by omega)
  have rb := pk_lt b 30 (by omega)
  generalize pk a 30 = P0 at CA ra
  generalize pk b 30 = W0 at CB rb
  obtain ⟨P1, P2⟩ := ra
  obtain ⟨W1, W2⟩ := rb
  have HD := Lib.hid hd
  have nmax := hd.max
  clear ha hb hd
  go_enter Try.func3, Try.ntmps3
  go_wp2_with fail
  refine (examples_any w).mono ?_
  rintro e w1 ⟨rfl, hb1⟩
  have HB1 := Lib.hid hb1
  clear hb1
  go_wp2_with (first | (go_at_call 7; ((with_reducible refine (CA.out _).mono ?_); rintro e w2 ⟨rfl, rfl⟩)) | (go_at_call 7; ((with_reducible refine (CB.out _).mono ?_); rintro e w2 ⟨rfl, rfl⟩)))
  have BT := Lib.hid (Blk.new w1 #[.int .i64 (1 + P0), .int .i64 0, .int .i64 (1 + W0), .slice none 0 0] 27)
  have HB2 : Hid (But No w (w1.alloc (.cells #[.int .i64 (1 + P0), .int .i64 0, .int .i64 (1 + W0), .slice none 0 0] 27))) := HB1.out.alloc _
  refine (made1 (HB2.out.alloc _) (blk2 w1 _ _ _) ⟨by omega, by omega⟩ ⟨by omega, by omega⟩).mono ?_
  rintro e w2 ⟨p, S0, rfl, h1, h2, h3⟩
  have BT2 : Hid (Blk w2 w1.heap.size #[.int .i64 (1 + P0), .int .i64 0, .int .i64 (1 + W0), .slice none 0 0] 27) := (BT.out.alloc _).but h2 (fun f => f)
  have HR : Hid (Rel w w2 p w1.heap.size (1 + P0) (1 + W0) 0 (-1)) := ⟨S0, _, h1, BT2.out, fun hs => by have := h3 _ hs; rw [size_alloc1, size_alloc1] at this; omega, rfl, rfl, .inl ⟨rfl, rfl⟩, fun h => (by cases h), fun _ => ⟨rfl, rfl⟩⟩
  clear h1 h2 h3 HB1 HB2 BT BT2 CA CB
  go_wp2_with fail
  have HT2 : Hid (w1.heap.size = w1.heap.size) := rfl
  go_loopw [12, 11] (fun s t wr => ∃ (k : Nat) (la : Int), s = .int .i64 k ∧ t = .int .i64 la ∧ k ≤ n ∧ k ≤ 200 ∧ Hid (Rel w wr p w1.heap.size (1 + P0) (1 + W0) k la)) (fun s _ _ => n - (intOf s).toNat)
  case atStart => exact ⟨0, -1, rfl, rfl, by omega, by omega, HR⟩
  case round =>
    obtain ⟨k, la, rfl, rfl, hk, hk3, hrel⟩ := hrel
    clear HR HT2
    obtain ⟨S, e0, hps⟩ := hrel.out
    have HP0 := Lib.hid hps
    clear hps hrel
    generalize w1.heap.size = tb at HP0 ⊢
    generalize hP : 1 + P0 = P at HP0 ⊢
    generalize hW : 1 + W0 = W at HP0 ⊢
    have p1 : 1 ≤ P := by omega
    have p2 : P ≤ 30 := by omega
    have q1 : 1 ≤ W := by omega
    have q2 : W ≤ 30 := by omega
    clear hP hW P1 P2 W1 W2
    by_cases hgo : k < n ∧ k < 200
    · obtain ⟨hlt, hl3⟩ := hgo
      obtain ⟨eb, eoff, rfl, hbl, hc⟩ := (HD.out.no HP0.out.hw.but).at_ (by omega)
      have c0 := hc k hlt
      have hf := HD.out.fit k
      obtain ⟨z, hz⟩ : ∃ y, zs.getD k 0 = y := ⟨_, rfl⟩
      rw [hz] at c0 hf
      have kn' : (k : Int) < (n : Int) := by omega
      have k3' : (k : Int) < 200 := by omega
      have CK := Lib.hid (fun W => pick_any z 40 W hf (by omega) (by omega))
      have r40 := pk_lt z 40 (by omega)
      generalize pk z 40 = d at CK r40
      obtain ⟨d0, d1⟩ := r40
      clear hc hbl hf hz
      by_cases hz3 : z.tmod 3 = 0
      · have bz : (z.tmod 3 != 0) = false := by simpa using hz3
        obtain ⟨e1, he1⟩ : ∃ y, e0 = y := ⟨_, rfl⟩
        rw [he1] at HP0
        have HP1 := HP0
        clear he1 hz3 HP0 CK
        go_wp2_with fail
        have HW3 : Hid (∀ e2 : En, e2.a = true → e2.n ≠ e2.m → wrkB { e2 with n := e2.n + 1, k := (k : Int) } k = false ∧ wrkE { e2 with n := e2.n + 1, k := (k : Int) } k = { e2 with n := e2.n + 1, k := (k : Int) }) := fun e2 _ _ => by
          have h2 : wrkB { e2 with n := e2.n + 1, k := (k : Int) } k = false := by unfold wrkB; rw [decide_eq_false_iff_not]; rintro ⟨_, _, _, h3⟩; exact h3 rfl
          exact ⟨h2, by unfold wrkE; rw [h2]; rfl⟩
        by_cases hnx : nxt e1 k = k
        · obtain ⟨hs1, hs2, hs3, hs4⟩ := HP1.out.start (by omega) hnx
          have HF2' := HP1.out.fit.sta k
          have HW2' : (stt e1 k).W = W := HP1.out.eW
          rw [hs2] at HF2'
          obtain ⟨e2, he2⟩ : ∃ y, stt e1 k = y := ⟨_, rfl⟩
          have HA2 : Hid (e2.a = true) := by show _ = _; rw [← he2]; rfl
          rw [he2] at HF2' HW2' hs2 hs4
          have HF2 := Lib.hid HF2'
          have HW2 := Lib.hid HW2'
          have HZ2 : Hid (e2.a = false → e2.n = 0 ∧ e2.m = 0) := fun h => by rw [HA2.out] at h; cases h
          have C1 : Hid (∀ W9, Ap w W9 S p tb P W e1 k la → Calls Try.prog 10 #[.pointer (some ⟨p, 0, none⟩), .int .i64 0, .int .i64 k] W9 fun r w9 => r = .returned (.int .i64 k) ∧ W9 = w9) := fun W9 h => by have := next1 p e1 S W9 k h.hw.jp; rw [hnx] at this; exact this
          have HM4 : Hid (∀ W9, Ap w W9 S p tb P W e1 k la → Calls Try.prog 11 #[.pointer (some ⟨p, 0, none⟩), .int .i64 0, .int .i64 k] W9 fun r w9 => r = .returned (.bool true) ∧ Ap w w9 S p tb P W e2 k k) := fun W9 h => by
            have := start1 p e1 S W9 k h.hw.jp
            rw [hs1, hs2] at this
            obtain ⟨_, _, _, h4⟩ := h.start (by omega) hnx
            rw [he2] at h4
            exact this.mono fun _ _ hm => ⟨hm.1, h4 _ hm.2⟩
          have be : ((k : Int) == (k : Int)) = true := by simp
          replace HW3 := Lib.hid (HW3.out e2)
          have HM5 : Hid (∀ W9, Ap w W9 S p tb P W e1 k la → Calls Try.prog 11 #[.pointer (some ⟨p, 0, none⟩), .int .i64 0, .int .i64 k] W9 fun r w9 => r = .returned (.bool true) ∧ Ap w w9 S p tb P W e2 k k) := HM4
          clear HM4 hs1 hs2 hs4 hnx he2 HF2' HW2'
          rcases hs3 with hl | ⟨hl1, hl2, hl3⟩
          · subst hl
            by_cases hA : e2.a = true
            · by_cases hN : e2.n = e2.m
              · obtain ⟨vr, hvr⟩ : ∃ y, e2.r = y := ⟨_, rfl⟩
                obtain ⟨vc, hvc⟩ : ∃ y, e2.c = y := ⟨_, rfl⟩
                obtain ⟨vn, hvn⟩ : ∃ y, e2.n = y := ⟨_, rfl⟩
                have hva : e2.a = true := hA
                have hvm : e2.m = vn := by rw [← hN]; exact hvn
                have hst : stv e2 = .agg #[.bool true, .int .i64 vr, .int .i64 vn, .int .i64 vn, .bool vc] := by unfold stv; rw [hva, hvr, hvm, hvn, hvc]
                obtain ⟨e3, he3⟩ : ∃ y, e2 = y := ⟨_, rfl⟩
                have hst3 : stv e3 = .agg #[.bool true, .int .i64 vr, .int .i64 vn, .int .i64 vn, .bool vc] := by rw [← he3]; exact hst
                have K1 : Hid (∀ W9, Ap w W9 S p tb P W e2 k (k : Int) → Calls Try.prog 12 #[.pointer (some ⟨p, 0, none⟩), .int .i64 0] W9 fun r w9 => r = .returned (.agg #[.bool true, .int .i64 vr, .int .i64 vn, .int .i64 vn, .bool vc]) ∧ Ap w w9 S p tb P W e2 k (k : Int)) := fun W9 h => by have := state1 p e2 S W9 h.hw.jp; rw [hst] at this; exact this.mono fun _ _ hm => ⟨hm.1, h.no hm.2⟩
                have f3 : wrkB e2 k = false ∧ wrkE e2 k = e2 := Ap.work_no (.inr hN)
                have KW1 : Hid (∀ W9, Ap w W9 S p tb P W e2 k (k : Int) → Calls Try.prog 13 #[.pointer (some ⟨p, 0, none⟩), .int .i64 0, .int .i64 k] W9 fun r w9 => r = .returned (.bool false) ∧ Ap w w9 S p tb P W e3 (k + 1) (k : Int) ∧ But S W9 w9) := fun W9 h => by
                  have := work1 p e2 S W9 k h.hw.jp
                  rw [f3.1, f3.2] at this
                  exact this.mono fun _ _ hm => ⟨hm.1, by rw [← he3]; exact h.kept hm.2, hm.2.2⟩
                have KW2 : Hid (∀ W9, Ap w W9 S p tb P W e3 (k + 1) (k : Int) → Calls Try.prog 13 #[.pointer (some ⟨p, 0, none⟩), .int .i64 0, .int .i64 k] W9 fun r w9 => r = .returned (.bool false) ∧ Ap w w9 S p tb P W e3 (k + 1) (k : Int) ∧ But S W9 w9) := fun W9 h => by
                  have := work1 p e3 S W9 k h.hw.jp
                  rw [← he3, f3.1, f3.2] at this
                  exact this.mono fun _ _ hm => ⟨hm.1, h.same (by rw [← he3]; exact hm.2), hm.2.2⟩
                have K4 : Hid (∀ W9, Ap w W9 S p tb P W e3 (k + 1) (k : Int) → Calls Try.prog 12 #[.pointer (some ⟨p, 0, none⟩), .int .i64 0] W9 fun r w9 => r = .returned (.agg #[.bool true, .int .i64 vr, .int .i64 vn, .int .i64 vn, .bool vc]) ∧ Ap w w9 S p tb P W e3 (k + 1) (k : Int) ∧ But No W9 w9) := fun W9 h => by have := state1 p e3 S W9 h.hw.jp; rw [hst3] at this; exact this.mono fun _ _ hm => ⟨hm.1, h.no hm.2, hm.2⟩
                have ha3 : e3.a = true := by rw [← he3]; exact hva
                have K5 : Hid (∀ W9, Ap w W9 S p tb P W e3 (k + 1) (k : Int) → Calls Try.prog 14 #[.pointer (some ⟨p, 0, none⟩), .int .i64 0] W9 fun r w9 => r = .returned (.bool true) ∧ Rel w w9 p tb P W (k + 1) (k : Int)) := fun W9 h => by have := over1 p e3 S W9 h.hw.jp; rw [ha3] at this; exact this.mono fun _ _ hm => ⟨hm.1, ⟨S, _, h.over hm.2⟩⟩
                have g0 := HF2.out.n0
                have g1 := HF2.out.nm
                have g2 := HF2.out.mW
                rw [HW2.out] at g2
                rw [hvn] at g0
                rw [hvm] at g2
                have t1 : decide (vn < vn) = false := by simp
                have t2 : decide (W < vn) = false := by simp; omega
                clear hA hvr hvc hvn hvm hva hst hst3 he3 g1 g2 hN f3 HF2 HZ2 HW2 HW3 ha3
                refine (C1.out _ HP1.out).mono ?_
                rintro e wz ⟨rfl, rfl⟩
                go_wp2_with (first | (go_at_call 11; ((with_reducible refine (HM5.out _ HP1.out).mono ?_); rintro e wz ⟨rfl, hz⟩; have HP2 := Lib.hid hz; have tc0 := hz.bx.cell (o := 0) rfl; clear hz)) | (go_at_call 12; ((with_reducible refine (K1.out _ HP2.out).mono ?_); rintro e wb ⟨rfl, hz⟩; have HB := Lib.hid (hz.no ((But.refl No wb).alloc (.cells #[.bool true, .int .i64 vr, .int .i64 vn, .int .i64 vn, .bool vc] 35))); have BX := Lib.hid (Blk.new wb #[.bool true, .int .i64 vr, .int .i64 vn, .int .i64 vn, .bool vc] 35); have NB : Hid (¬ S wb.heap.size) := fun hs => absurd (hz.hw.jp.lt _ hs) (Nat.lt_irrefl _); clear hz HP2)) | (go_at_call 13; ((with_reducible refine (KW1.out _ HB.out).mono ?_); rintro e wc ⟨rfl, hz, hbb⟩; have HC := Lib.hid hz; have BX2 := Lib.hid (BX.out.but hbb NB.out); clear hz hbb HB BX)) | (go_at_call 13; ((with_reducible refine (KW2.out _ HC.out).mono ?_); rintro e wd ⟨rfl, hz, hbb⟩; have HDD := Lib.hid hz; have BX3 := Lib.hid (BX2.out.but hbb NB.out); clear hz hbb HC BX2)) | (go_at_call 12; ((with_reducible refine (K4.out _ HDD.out).mono ?_); rintro e we ⟨rfl, hz, hbb⟩; have HE9 := Lib.hid (hz.no ((But.refl No we).alloc (.cells #[.bool true, .int .i64 vr, .int .i64 vn, .int .i64 vn, .bool vc] 35))); obtain ⟨j0, j1, j2, j3, j4⟩ := cells5 ((BX3.out.but hbb (fun f => f)).alloc (.cells #[.bool true, .int .i64 vr, .int .i64 vn, .int .i64 vn, .bool vc] 35)); obtain ⟨l0, l1, l2, l3, l4⟩ := cells5 (Blk.new we #[.bool true, .int .i64 vr, .int .i64 vn, .int .i64 vn, .bool vc] 35); have tc0 := HE9.out.bx.cell (o := 0) rfl; have tc2 := HE9.out.bx.cell (o := 2) rfl; clear hz hbb HDD BX3)) | (go_at_call 14; ((with_reducible refine (K5.out _ HE9.out).mono ?_); rintro e wf ⟨rfl, hz⟩; have HF9 := Lib.hid hz; clear hz)))
                go_roundw
                case rel => exact ⟨k + 1, _, by go_num, rfl, by omega, by omega, HF9⟩
                case measure => simp [intOf]; omega
              · by_cases hB : e2.n + 1 = e2.m
                · obtain ⟨vr, hvr⟩ : ∃ y, e2.r = y := ⟨_, rfl⟩
                  obtain ⟨vc, hvc⟩ : ∃ y, e2.c = y := ⟨_, rfl⟩
                  obtain ⟨vn, hvn⟩ : ∃ y, e2.n = y := ⟨_, rfl⟩
                  obtain ⟨vm, hvm⟩ : ∃ y, e2.m = y := ⟨_, rfl⟩
                  have hva : e2.a = true := hA
                  have hst : stv e2 = .agg #[.bool true, .int .i64 vr, .int .i64 vm, .int .i64 vn, .bool vc] := by unfold stv; rw [hva, hvr, hvm, hvn, hvc]
                  obtain ⟨e3, he3⟩ : ∃ y, ({ e2 with n := e2.n + 1, k := (k : Int) } : En) = y := ⟨_, rfl⟩
                  have hst3 : stv e3 = .agg #[.bool true, .int .i64 vr, .int .i64 vm, .int .i64 (vn + 1), .bool vc] := by rw [← he3]; unfold stv; show Value.agg #[.bool e2.a, .int .i64 e2.r, .int .i64 e2.m, .int .i64 (e2.n + 1), .bool e2.c] = _; rw [hva, hvr, hvm, hvn, hvc]
                  have K1 : Hid (∀ W9, Ap w W9 S p tb P W e2 k (k : Int) → Calls Try.prog 12 #[.pointer (some ⟨p, 0, none⟩), .int .i64 0] W9 fun r w9 => r = .returned (.agg #[.bool true, .int .i64 vr, .int .i64 vm, .int .i64 vn, .bool vc]) ∧ Ap w w9 S p tb P W e2 k (k : Int)) := fun W9 h => by have := state1 p e2 S W9 h.hw.jp; rw [hst] at this; exact this.mono fun _ _ hm => ⟨hm.1, h.no hm.2⟩
                  have KW1 : Hid (∀ W9, Ap w W9 S p tb P W e2 k (k : Int) → Calls Try.prog 13 #[.pointer (some ⟨p, 0, none⟩), .int .i64 0, .int .i64 k] W9 fun r w9 => r = .returned (.bool true) ∧ Ap w w9 S p tb P W e3 (k + 1) (k : Int) ∧ But S W9 w9) := fun W9 h => by
                    obtain ⟨f1, f2, _, _⟩ := h.work_yes (by omega) hva hN
                    have := work1 p e2 S W9 k h.hw.jp
                    rw [f1, f2] at this
                    exact this.mono fun _ _ hm => ⟨hm.1, by rw [← he3]; exact h.worked hva hm.2, hm.2.2⟩
                  have KW2 : Hid (∀ W9, Ap w W9 S p tb P W e3 (k + 1) (k : Int) → Calls Try.prog 13 #[.pointer (some ⟨p, 0, none⟩), .int .i64 0, .int .i64 k] W9 fun r w9 => r = .returned (.bool false) ∧ Ap w w9 S p tb P W e3 (k + 1) (k : Int) ∧ But S W9 w9) := fun W9 h => by
                    have f3 : wrkB e3 k = false ∧ wrkE e3 k = e3 := by rw [← he3]; exact HW3.out hva hN
                    have := work1 p e3 S W9 k h.hw.jp
                    rw [f3.1, f3.2] at this
                    exact this.mono fun _ _ hm => ⟨hm.1, h.same hm.2, hm.2.2⟩
                  have K4 : Hid (∀ W9, Ap w W9 S p tb P W e3 (k + 1) (k : Int) → Calls Try.prog 12 #[.pointer (some ⟨p, 0, none⟩), .int .i64 0] W9 fun r w9 => r = .returned (.agg #[.bool true, .int .i64 vr, .int .i64 vm, .int .i64 (vn + 1), .bool vc]) ∧ Ap w w9 S p tb P W e3 (k + 1) (k : Int) ∧ But No W9 w9) := fun W9 h => by have := state1 p e3 S W9 h.hw.jp; rw [hst3] at this; exact this.mono fun _ _ hm => ⟨hm.1, h.no hm.2, hm.2⟩
                  have ha3 : e3.a = true := by rw [← he3]; exact hva
                  have K5 : Hid (∀ W9, Ap w W9 S p tb P W e3 (k + 1) (k : Int) → Calls Try.prog 14 #[.pointer (some ⟨p, 0, none⟩), .int .i64 0] W9 fun r w9 => r = .returned (.bool true) ∧ Rel w w9 p tb P W (k + 1) (k : Int)) := fun W9 h => by have := over1 p e3 S W9 h.hw.jp; rw [ha3] at this; exact this.mono fun _ _ hm => ⟨hm.1, ⟨S, _, h.over hm.2⟩⟩
                  have g0 := HF2.out.n0
                  have g1 := HF2.out.nm
                  have g2 := HF2.out.mW
                  rw [HW2.out] at g2
                  rw [hvn] at g0 g1 hN hB
                  rw [hvm] at g1 g2 hN hB
                  have v30 : vn ≤ 30 := by omega
                  have t1 : decide (vn < vm) = true := by simp; omega
                  have t2 : decide (W < vn + 1) = false := by simp; omega
                  have t3 : decide (W < vm) = false := by simp; omega
                  have t4 : (vn + 1 == vm) = true := by simpa using hB
                  clear hA hvr hvc hvn hvm hva hst hst3 he3 g1 g2 hN hB HF2 HZ2 HW2 HW3 ha3
                  refine (C1.out _ HP1.out).mono ?_
                  rintro e wz ⟨rfl, rfl⟩
                  go_wp2_with (first | (go_at_call 11; ((with_reducible refine (HM5.out _ HP1.out).mono ?_); rintro e wz ⟨rfl, hz⟩; have HP2 := Lib.hid hz; have tc0 := hz.bx.cell (o := 0) rfl; clear hz)) | (go_at_call 12; ((with_reducible refine (K1.out _ HP2.out).mono ?_); rintro e wb ⟨rfl, hz⟩; have HB := Lib.hid (hz.no ((But.refl No wb).alloc (.cells #[.bool true, .int .i64 vr, .int .i64 vm, .int .i64 vn, .bool vc] 35))); have BX := Lib.hid (Blk.new wb #[.bool true, .int .i64 vr, .int .i64 vm, .int .i64 vn, .bool vc] 35); have NB : Hid (¬ S wb.heap.size) := fun hs => absurd (hz.hw.jp.lt _ hs) (Nat.lt_irrefl _); clear hz HP2)) | (go_at_call 13; ((with_reducible refine (KW1.out _ HB.out).mono ?_); rintro e wc ⟨rfl, hz, hbb⟩; have HC := Lib.hid hz; have BX2 := Lib.hid (BX.out.but hbb NB.out); clear hz hbb HB BX)) | (go_at_call 13; ((with_reducible refine (KW2.out _ HC.out).mono ?_); rintro e wd ⟨rfl, hz, hbb⟩; have HDD := Lib.hid hz; have BX3 := Lib.hid (BX2.out.but hbb NB.out); clear hz hbb HC BX2)) | (go_at_call 12; ((with_reducible refine (K4.out _ HDD.out).mono ?_); rintro e we ⟨rfl, hz, hbb⟩; have HE9 := Lib.hid (hz.no ((But.refl No we).alloc (.cells #[.bool true, .int .i64 vr, .int .i64 vm, .int .i64 (vn + 1), .bool vc] 35))); obtain ⟨j0, j1, j2, j3, j4⟩ := cells5 ((BX3.out.but hbb (fun f => f)).alloc (.cells #[.bool true, .int .i64 vr, .int .i64 vm, .int .i64 (vn + 1), .bool vc] 35)); obtain ⟨l0, l1, l2, l3, l4⟩ := cells5 (Blk.new we #[.bool true, .int .i64 vr, .int .i64 vm, .int .i64 (vn + 1), .bool vc] 35); have tc0 := HE9.out.bx.cell (o := 0) rfl; have tc2 := HE9.out.bx.cell (o := 2) rfl; clear hz hbb HDD BX3)) | (go_at_call 14; ((with_reducible refine (K5.out _ HE9.out).mono ?_); rintro e wf ⟨rfl, hz⟩; have HF9 := Lib.hid hz; clear hz)))
                  go_roundw
                  case rel => exact ⟨k + 1, _, by go_num, rfl, by omega, by omega, HF9⟩
                  case measure => simp [intOf]; omega
                · obtain ⟨vr, hvr⟩ : ∃ y, e2.r = y := ⟨_, rfl⟩
                  obtain ⟨vc, hvc⟩ : ∃ y, e2.c = y := ⟨_, rfl⟩
                  obtain ⟨vn, hvn⟩ : ∃ y, e2.n = y := ⟨_, rfl⟩
                  obtain ⟨vm, hvm⟩ : ∃ y, e2.m = y := ⟨_, rfl⟩
                  have hva : e2.a = true := hA
                  have hst : stv e2 = .agg #[.bool true, .int .i64 vr, .int .i64 vm, .int .i64 vn, .bool vc] := by unfold stv; rw [hva, hvr, hvm, hvn, hvc]
                  obtain ⟨e3, he3⟩ : ∃ y, ({ e2 with n := e2.n + 1, k := (k : Int) } : En) = y := ⟨_, rfl⟩
                  have hst3 : stv e3 = .agg #[.bool true, .int .i64 vr, .int .i64 vm, .int .i64 (vn + 1), .bool vc] := by rw [← he3]; unfold stv; show Value.agg #[.bool e2.a, .int .i64 e2.r, .int .i64 e2.m, .int .i64 (e2.n + 1), .bool e2.c] = _; rw [hva, hvr, hvm, hvn, hvc]
                  have K1 : Hid (∀ W9, Ap w W9 S p tb P W e2 k (k : Int) → Calls Try.prog 12 #[.pointer (some ⟨p, 0, none⟩), .int .i64 0] W9 fun r w9 => r = .returned (.agg #[.bool true, .int .i64 vr, .int .i64 vm, .int .i64 vn, .bool vc]) ∧ Ap w w9 S p tb P W e2 k (k : Int)) := fun W9 h => by have := state1 p e2 S W9 h.hw.jp; rw [hst] at this; exact this.mono fun _ _ hm => ⟨hm.1, h.no hm.2⟩
                  have KW1 : Hid (∀ W9, Ap w W9 S p tb P W e2 k (k : Int) → Calls Try.prog 13 #[.pointer (some ⟨p, 0, none⟩), .int .i64 0, .int .i64 k] W9 fun r w9 => r = .returned (.bool true) ∧ Ap w w9 S p tb P W e3 (k + 1) (k : Int) ∧ But S W9 w9) := fun W9 h => by
                    obtain ⟨f1, f2, _, _⟩ := h.work_yes (by omega) hva hN
                    have := work1 p e2 S W9 k h.hw.jp
                    rw [f1, f2] at this
                    exact this.mono fun _ _ hm => ⟨hm.1, by rw [← he3]; exact h.worked hva hm.2, hm.2.2⟩
                  have KW2 : Hid (∀ W9, Ap w W9 S p tb P W e3 (k + 1) (k : Int) → Calls Try.prog 13 #[.pointer (some ⟨p, 0, none⟩), .int .i64 0, .int .i64 k] W9 fun r w9 => r = .returned (.bool false) ∧ Ap w w9 S p tb P W e3 (k + 1) (k : Int) ∧ But S W9 w9) := fun W9 h => by
                    have f3 : wrkB e3 k = false ∧ wrkE e3 k = e3 := by rw [← he3]; exact HW3.out hva hN
                    have := work1 p e3 S W9 k h.hw.jp
                    rw [f3.1, f3.2] at this
                    exact this.mono fun _ _ hm => ⟨hm.1, h.same hm.2, hm.2.2⟩
                  have K4 : Hid (∀ W9, Ap w W9 S p tb P W e3 (k + 1) (k : Int) → Calls Try.prog 12 #[.pointer (some ⟨p, 0, none⟩), .int .i64 0] W9 fun r w9 => r = .returned (.agg #[.bool true, .int .i64 vr, .int .i64 vm, .int .i64 (vn + 1), .bool vc]) ∧ Ap w w9 S p tb P W e3 (k + 1) (k : Int) ∧ But No W9 w9) := fun W9 h => by have := state1 p e3 S W9 h.hw.jp; rw [hst3] at this; exact this.mono fun _ _ hm => ⟨hm.1, h.no hm.2, hm.2⟩
                  have g0 := HF2.out.n0
                  have g1 := HF2.out.nm
                  have g2 := HF2.out.mW
                  rw [HW2.out] at g2
                  rw [hvn] at g0 g1 hN hB
                  rw [hvm] at g1 g2 hN hB
                  have v30 : vn ≤ 30 := by omega
                  have t1 : decide (vn < vm) = true := by simp; omega
                  have t2 : decide (W < vn + 1) = false := by simp; omega
                  have t3 : decide (W < vm) = false := by simp; omega
                  have t4 : (vn + 1 == vm) = false := by simpa using hB
                  clear hA hvr hvc hvn hvm hva hst hst3 he3 g1 g2 hN hB HF2 HZ2 HW2 HW3
                  refine (C1.out _ HP1.out).mono ?_
                  rintro e wz ⟨rfl, rfl⟩
                  go_wp2_with (first | (go_at_call 11; ((with_reducible refine (HM5.out _ HP1.out).mono ?_); rintro e wz ⟨rfl, hz⟩; have HP2 := Lib.hid hz; have tc0 := hz.bx.cell (o := 0) rfl; clear hz)) | (go_at_call 12; ((with_reducible refine (K1.out _ HP2.out).mono ?_); rintro e wb ⟨rfl, hz⟩; have HB := Lib.hid (hz.no ((But.refl No wb).alloc (.cells #[.bool true, .int .i64 vr, .int .i64 vm, .int .i64 vn, .bool vc] 35))); have BX := Lib.hid (Blk.new wb #[.bool true, .int .i64 vr, .int .i64 vm, .int .i64 vn, .bool vc] 35); have NB : Hid (¬ S wb.heap.size) := fun hs => absurd (hz.hw.jp.lt _ hs) (Nat.lt_irrefl _); clear hz HP2)) | (go_at_call 13; ((with_reducible refine (KW1.out _ HB.out).mono ?_); rintro e wc ⟨rfl, hz, hbb⟩; have HC := Lib.hid hz; have BX2 := Lib.hid (BX.out.but hbb NB.out); clear hz hbb HB BX)) | (go_at_call 13; ((with_reducible refine (KW2.out _ HC.out).mono ?_); rintro e wd ⟨rfl, hz, hbb⟩; have HDD := Lib.hid hz; have BX3 := Lib.hid (BX2.out.but hbb NB.out); clear hz hbb HC BX2)) | (go_at_call 12; ((with_reducible refine (K4.out _ HDD.out).mono ?_); rintro e we ⟨rfl, hz, hbb⟩; have HE9 := Lib.hid (hz.no ((But.refl No we).alloc (.cells #[.bool true, .int .i64 vr, .int .i64 vm, .int .i64 (vn + 1), .bool vc] 35))); obtain ⟨j0, j1, j2, j3, j4⟩ := cells5 ((BX3.out.but hbb (fun f => f)).alloc (.cells #[.bool true, .int .i64 vr, .int .i64 vm, .int .i64 (vn + 1), .bool vc] 35)); obtain ⟨l0, l1, l2, l3, l4⟩ := cells5 (Blk.new we #[.bool true, .int .i64 vr, .int .i64 vm, .int .i64 (vn + 1), .bool vc] 35); have tc0 := HE9.out.bx.cell (o := 0) rfl; have tc2 := HE9.out.bx.cell (o := 2) rfl; clear hz hbb HDD BX3)))
                  go_roundw
                  case rel => exact ⟨k + 1, _, by go_num, rfl, by omega, by omega, (⟨S, _, HE9.out⟩ : Rel w _ p tb P W (k + 1) (k : Int))⟩
                  case measure => simp [intOf]; omega
            · skip
              exact absurd HA2.out hA
          · have b7 : decide (0 ≤ la) = true := by simpa using hl1
            have b8 : decide ((k : Int) - la < P) = false := by simp; omega
            clear hl3
            by_cases hA : e2.a = true
            · by_cases hN : e2.n = e2.m
              · obtain ⟨vr, hvr⟩ : ∃ y, e2.r = y := ⟨_, rfl⟩
                obtain ⟨vc, hvc⟩ : ∃ y, e2.c = y := ⟨_, rfl⟩
                obtain ⟨vn, hvn⟩ : ∃ y, e2.n = y := ⟨_, rfl⟩
                have hva : e2.a = true := hA
                have hvm : e2.m = vn := by rw [← hN]; exact hvn
                have hst : stv e2 = .agg #[.bool true, .int .i64 vr, .int .i64 vn, .int .i64 vn, .bool vc] := by unfold stv; rw [hva, hvr, hvm, hvn, hvc]
                obtain ⟨e3, he3⟩ : ∃ y, e2 = y := ⟨_, rfl⟩
                have hst3 : stv e3 = .agg #[.bool true, .int .i64 vr, .int .i64 vn, .int .i64 vn, .bool vc] := by rw [← he3]; exact hst
                have K1 : Hid (∀ W9, Ap w W9 S p tb P W e2 k (k : Int) → Calls Try.prog 12 #[.pointer (some ⟨p, 0, none⟩), .int .i64 0] W9 fun r w9 => r = .returned (.agg #[.bool true, .int .i64 vr, .int .i64 vn, .int .i64 vn, .bool vc]) ∧ Ap w w9 S p tb P W e2 k (k : Int)) := fun W9 h => by have := state1 p e2 S W9 h.hw.jp; rw [hst] at this; exact this.mono fun _ _ hm => ⟨hm.1, h.no hm.2⟩
                have f3 : wrkB e2 k = false ∧ wrkE e2 k = e2 := Ap.work_no (.inr hN)
                have KW1 : Hid (∀ W9, Ap w W9 S p tb P W e2 k (k : Int) → Calls Try.prog 13 #[.pointer (some ⟨p, 0, none⟩), .int .i64 0, .int .i64 k] W9 fun r w9 => r = .returned (.bool false) ∧ Ap w w9 S p tb P W e3 (k + 1) (k : Int) ∧ But S W9 w9) := fun W9 h => by
                  have := work1 p e2 S W9 k h.hw.jp
                  rw [f3.1, f3.2] at this
                  exact this.mono fun _ _ hm => ⟨hm.1, by rw [← he3]; exact h.kept hm.2, hm.2.2⟩
                have KW2 : Hid (∀ W9, Ap w W9 S p tb P W e3 (k + 1) (k : Int) → Calls Try.prog 13 #[.pointer (some ⟨p, 0, none⟩), .int .i64 0, .int .i64 k] W9 fun r w9 => r = .returned (.bool false) ∧ Ap w w9 S p tb P W e3 (k + 1) (k : Int) ∧ But S W9 w9) := fun W9 h => by
                  have := work1 p e3 S W9 k h.hw.jp
                  rw [← he3, f3.1, f3.2] at this
                  exact this.mono fun _ _ hm => ⟨hm.1, h.same (by rw [← he3]; exact hm.2), hm.2.2⟩
                have K4 : Hid (∀ W9, Ap w W9 S p tb P W e3 (k + 1) (k : Int) → Calls Try.prog 12 #[.pointer (some ⟨p, 0, none⟩), .int .i64 0] W9 fun r w9 => r = .returned (.agg #[.bool true, .int .i64 vr, .int .i64 vn, .int .i64 vn, .bool vc]) ∧ Ap w w9 S p tb P W e3 (k + 1) (k : Int) ∧ But No W9 w9) := fun W9 h => by have := state1 p e3 S W9 h.hw.jp; rw [hst3] at this; exact this.mono fun _ _ hm => ⟨hm.1, h.no hm.2, hm.2⟩
                have ha3 : e3.a = true := by rw [← he3]; exact hva
                have K5 : Hid (∀ W9, Ap w W9 S p tb P W e3 (k + 1) (k : Int) → Calls Try.prog 14 #[.pointer (some ⟨p, 0, none⟩), .int .i64 0] W9 fun r w9 => r = .returned (.bool true) ∧ Rel w w9 p tb P W (k + 1) (k : Int)) := fun W9 h => by have := over1 p e3 S W9 h.hw.jp; rw [ha3] at this; exact this.mono fun _ _ hm => ⟨hm.1, ⟨S, _, h.over hm.2⟩⟩
                have g0 := HF2.out.n0
                have g1 := HF2.out.nm
                have g2 := HF2.out.mW
                rw [HW2.out] at g2
                rw [hvn] at g0
                rw [hvm] at g2
                have t1 : decide (vn < vn) = false := by simp
                have t2 : decide (W < vn) = false := by simp; omega
                clear hA hvr hvc hvn hvm hva hst hst3 he3 g1 g2 hN f3 HF2 HZ2 HW2 HW3 ha3
                refine (C1.out _ HP1.out).mono ?_
                rintro e wz ⟨rfl, rfl⟩
                go_wp2_with (first | (go_at_call 11; ((with_reducible refine (HM5.out _ HP1.out).mono ?_); rintro e wz ⟨rfl, hz⟩; have HP2 := Lib.hid hz; have tc0 := hz.bx.cell (o := 0) rfl; clear hz)) | (go_at_call 12; ((with_reducible refine (K1.out _ HP2.out).mono ?_); rintro e wb ⟨rfl, hz⟩; have HB := Lib.hid (hz.no ((But.refl No wb).alloc (.cells #[.bool true, .int .i64 vr, .int .i64 vn, .int .i64 vn, .bool vc] 35))); have BX := Lib.hid (Blk.new wb #[.bool true, .int .i64 vr, .int .i64 vn, .int .i64 vn, .bool vc] 35); have NB : Hid (¬ S wb.heap.size) := fun hs => absurd (hz.hw.jp.lt _ hs) (Nat.lt_irrefl _); clear hz HP2)) | (go_at_call 13; ((with_reducible refine (KW1.out _ HB.out).mono ?_); rintro e wc ⟨rfl, hz, hbb⟩; have HC := Lib.hid hz; have BX2 := Lib.hid (BX.out.but hbb NB.out); clear hz hbb HB BX)) | (go_at_call 13; ((with_reducible refine (KW2.out _ HC.out).mono ?_); rintro e wd ⟨rfl, hz, hbb⟩; have HDD := Lib.hid hz; have BX3 := Lib.hid (BX2.out.but hbb NB.out); clear hz hbb HC BX2)) | (go_at_call 12; ((with_reducible refine (K4.out _ HDD.out).mono ?_); rintro e we ⟨rfl, hz, hbb⟩; have HE9 := Lib.hid (hz.no ((But.refl No we).alloc (.cells #[.bool true, .int .i64 vr, .int .i64 vn, .int .i64 vn, .bool vc] 35))); obtain ⟨j0, j1, j2, j3, j4⟩ := cells5 ((BX3.out.but hbb (fun f => f)).alloc (.cells #[.bool true, .int .i64 vr, .int .i64 vn, .int .i64 vn, .bool vc] 35)); obtain ⟨l0, l1, l2, l3, l4⟩ := cells5 (Blk.new we #[.bool true, .int .i64 vr, .int .i64 vn, .int .i64 vn, .bool vc] 35); have tc0 := HE9.out.bx.cell (o := 0) rfl; have tc2 := HE9.out.bx.cell (o := 2) rfl; clear hz hbb HDD BX3)) | (go_at_call 14; ((with_reducible refine (K5.out _ HE9.out).mono ?_); rintro e wf ⟨rfl, hz⟩; have HF9 := Lib.hid hz; clear hz)))
                go_roundw
                case rel => exact ⟨k + 1, _, by go_num, rfl, by omega, by omega, HF9⟩
                case measure => simp [intOf]; omega
              · by_cases hB : e2.n + 1 = e2.m
                · obtain ⟨vr, hvr⟩ : ∃ y, e2.r = y := ⟨_, rfl⟩
                  obtain ⟨vc, hvc⟩ : ∃ y, e2.c = y := ⟨_, rfl⟩
                  obtain ⟨vn, hvn⟩ : ∃ y, e2.n = y := ⟨_, rfl⟩
                  obtain ⟨vm, hvm⟩ : ∃ y, e2.m = y := ⟨_, rfl⟩
                  have hva : e2.a = true := hA
                  have hst : stv e2 = .agg #[.bool true, .int .i64 vr, .int .i64 vm, .int .i64 vn, .bool vc] := by unfold stv; rw [hva, hvr, hvm, hvn, hvc]
                  obtain ⟨e3, he3⟩ : ∃ y, ({ e2 with n := e2.n + 1, k := (k : Int) } : En) = y := ⟨_, rfl⟩
                  have hst3 : stv e3 = .agg #[.bool true, .int .i64 vr, .int .i64 vm, .int .i64 (vn + 1), .bool vc] := by rw [← he3]; unfold stv; show Value.agg #[.bool e2.a, .int .i64 e2.r, .int .i64 e2.m, .int .i64 (e2.n + 1), .bool e2.c] = _; rw [hva, hvr, hvm, hvn, hvc]
                  have K1 : Hid (∀ W9, Ap w W9 S p tb P W e2 k (k : Int) → Calls Try.prog 12 #[.pointer (some ⟨p, 0, none⟩), .int .i64 0] W9 fun r w9 => r = .returned (.agg #[.bool true, .int .i64 vr, .int .i64 vm, .int .i64 vn, .bool vc]) ∧ Ap w w9 S p tb P W e2 k (k : Int)) := fun W9 h => by have := state1 p e2 S W9 h.hw.jp; rw [hst] at this; exact this.mono fun _ _ hm => ⟨hm.1, h.no hm.2⟩
                  have KW1 : Hid (∀ W9, Ap w W9 S p tb P W e2 k (k : Int) → Calls Try.prog 13 #[.pointer (some ⟨p, 0, none⟩), .int .i64 0, .int .i64 k] W9 fun r w9 => r = .returned (.bool true) ∧ Ap w w9 S p tb P W e3 (k + 1) (k : Int) ∧ But S W9 w9) := fun W9 h => by
                    obtain ⟨f1, f2, _, _⟩ := h.work_yes (by omega) hva hN
                    have := work1 p e2 S W9 k h.hw.jp
                    rw [f1, f2] at this
                    exact this.mono fun _ _ hm => ⟨hm.1, by rw [← he3]; exact h.worked hva hm.2, hm.2.2⟩
                  have KW2 : Hid (∀ W9, Ap w W9 S p tb P W e3 (k + 1) (k : Int) → Calls Try.prog 13 #[.pointer (some ⟨p, 0, none⟩), .int .i64 0, .int .i64 k] W9 fun r w9 => r = .returned (.bool false) ∧ Ap w w9 S p tb P W e3 (k + 1) (k : Int) ∧ But S W9 w9) := fun W9 h => by
                    have f3 : wrkB e3 k = false ∧ wrkE e3 k = e3 := by rw [← he3]; exact HW3.out hva hN
                    have := work1 p e3 S W9 k h.hw.jp
                    rw [f3.1, f3.2] at this
                    exact this.mono fun _ _ hm => ⟨hm.1, h.same hm.2, hm.2.2⟩
                  have K4 : Hid (∀ W9, Ap w W9 S p tb P W e3 (k + 1) (k : Int) → Calls Try.prog 12 #[.pointer (some ⟨p, 0, none⟩), .int .i64 0] W9 fun r w9 => r = .returned (.agg #[.bool true, .int .i64 vr, .int .i64 vm, .int .i64 (vn + 1), .bool vc]) ∧ Ap w w9 S p tb P W e3 (k + 1) (k : Int) ∧ But No W9 w9) := fun W9 h => by have := state1 p e3 S W9 h.hw.jp; rw [hst3] at this; exact this.mono fun _ _ hm => ⟨hm.1, h.no hm.2, hm.2⟩
                  have ha3 : e3.a = true := by rw [← he3]; exact hva
                  have K5 : Hid (∀ W9, Ap w W9 S p tb P W e3 (k + 1) (k : Int) → Calls Try.prog 14 #[.pointer (some ⟨p, 0, none⟩), .int .i64 0] W9 fun r w9 => r = .returned (.bool true) ∧ Rel w w9 p tb P W (k + 1) (k : Int)) := fun W9 h => by have := over1 p e3 S W9 h.hw.jp; rw [ha3] at this; exact this.mono fun _ _ hm => ⟨hm.1, ⟨S, _, h.over hm.2⟩⟩
                  have g0 := HF2.out.n0
                  have g1 := HF2.out.nm
                  have g2 := HF2.out.mW
                  rw [HW2.out] at g2
                  rw [hvn] at g0 g1 hN hB
                  rw [hvm] at g1 g2 hN hB
                  have v30 : vn ≤ 30 := by omega
                  have t1 : decide (vn < vm) = true := by simp; omega
                  have t2 : decide (W < vn + 1) = false := by simp; omega
                  have t3 : decide (W < vm) = false := by simp; omega
                  have t4 : (vn + 1 == vm) = true := by simpa using hB
                  clear hA hvr hvc hvn hvm hva hst hst3 he3 g1 g2 hN hB HF2 HZ2 HW2 HW3 ha3
                  refine (C1.out _ HP1.out).mono ?_
                  rintro e wz ⟨rfl, rfl⟩
                  go_wp2_with (first | (go_at_call 11; ((with_reducible refine (HM5.out _ HP1.out).mono ?_); rintro e wz ⟨rfl, hz⟩; have HP2 := Lib.hid hz; have tc0 := hz.bx.cell (o := 0) rfl; clear hz)) | (go_at_call 12; ((with_reducible refine (K1.out _ HP2.out).mono ?_); rintro e wb ⟨rfl, hz⟩; have HB := Lib.hid (hz.no ((But.refl No wb).alloc (.cells #[.bool true, .int .i64 vr, .int .i64 vm, .int .i64 vn, .bool vc] 35))); have BX := Lib.hid (Blk.new wb #[.bool true, .int .i64 vr, .int .i64 vm, .int .i64 vn, .bool vc] 35); have NB : Hid (¬ S wb.heap.size) := fun hs => absurd (hz.hw.jp.lt _ hs) (Nat.lt_irrefl _); clear hz HP2)) | (go_at_call 13; ((with_reducible refine (KW1.out _ HB.out).mono ?_); rintro e wc ⟨rfl, hz, hbb⟩; have HC := Lib.hid hz; have BX2 := Lib.hid (BX.out.but hbb NB.out); clear hz hbb HB BX)) | (go_at_call 13; ((with_reducible refine (KW2.out _ HC.out).mono ?_); rintro e wd ⟨rfl, hz, hbb⟩; have HDD := Lib.hid hz; have BX3 := Lib.hid (BX2.out.but hbb NB.out); clear hz hbb HC BX2)) | (go_at_call 12; ((with_reducible refine (K4.out _ HDD.out).mono ?_); rintro e we ⟨rfl, hz, hbb⟩; have HE9 := Lib.hid (hz.no ((But.refl No we).alloc (.cells #[.bool true, .int .i64 vr, .int .i64 vm, .int .i64 (vn + 1), .bool vc] 35))); obtain ⟨j0, j1, j2, j3, j4⟩ := cells5 ((BX3.out.but hbb (fun f => f)).alloc (.cells #[.bool true, .int .i64 vr, .int .i64 vm, .int .i64 (vn + 1), .bool vc] 35)); obtain ⟨l0, l1, l2, l3, l4⟩ := cells5 (Blk.new we #[.bool true, .int .i64 vr, .int .i64 vm, .int .i64 (vn + 1), .bool vc] 35); have tc0 := HE9.out.bx.cell (o := 0) rfl; have tc2 := HE9.out.bx.cell (o := 2) rfl; clear hz hbb HDD BX3)) | (go_at_call 14; ((with_reducible refine (K5.out _ HE9.out).mono ?_); rintro e wf ⟨rfl, hz⟩; have HF9 := Lib.hid hz; clear hz)))
                  go_roundw
                  case rel => exact ⟨k + 1, _, by go_num, rfl, by omega, by omega, HF9⟩
                  case measure => simp [intOf]; omega
                · obtain ⟨vr, hvr⟩ : ∃ y, e2.r = y := ⟨_, rfl⟩
                  obtain ⟨vc, hvc⟩ : ∃ y, e2.c = y := ⟨_, rfl⟩
                  obtain ⟨vn, hvn⟩ : ∃ y, e2.n = y := ⟨_, rfl⟩
                  obtain ⟨vm, hvm⟩ : ∃ y, e2.m = y := ⟨_, rfl⟩
                  have hva : e2.a = true := hA
                  have hst : stv e2 = .agg #[.bool true, .int .i64 vr, .int .i64 vm, .int .i64 vn, .bool vc] := by unfold stv; rw [hva, hvr, hvm, hvn, hvc]
                  obtain ⟨e3, he3⟩ : ∃ y, ({ e2 with n := e2.n + 1, k := (k : Int) } : En) = y := ⟨_, rfl⟩
                  have hst3 : stv e3 = .agg #[.bool true, .int .i64 vr, .int .i64 vm, .int .i64 (vn + 1), .bool vc] := by rw [← he3]; unfold stv; show Value.agg #[.bool e2.a, .int .i64 e2.r, .int .i64 e2.m, .int .i64 (e2.n + 1), .bool e2.c] = _; rw [hva, hvr, hvm, hvn, hvc]
                  have K1 : Hid (∀ W9, Ap w W9 S p tb P W e2 k (k : Int) → Calls Try.prog 12 #[.pointer (some ⟨p, 0, none⟩), .int .i64 0] W9 fun r w9 => r = .returned (.agg #[.bool true, .int .i64 vr, .int .i64 vm, .int .i64 vn, .bool vc]) ∧ Ap w w9 S p tb P W e2 k (k : Int)) := fun W9 h => by have := state1 p e2 S W9 h.hw.jp; rw [hst] at this; exact this.mono fun _ _ hm => ⟨hm.1, h.no hm.2⟩
                  have KW1 : Hid (∀ W9, Ap w W9 S p tb P W e2 k (k : Int) → Calls Try.prog 13 #[.pointer (some ⟨p, 0, none⟩), .int .i64 0, .int .i64 k] W9 fun r w9 => r = .returned (.bool true) ∧ Ap w w9 S p tb P W e3 (k + 1) (k : Int) ∧ But S W9 w9) := fun W9 h => by
                    obtain ⟨f1, f2, _, _⟩ := h.work_yes (by omega) hva hN
                    have := work1 p e2 S W9 k h.hw.jp
                    rw [f1, f2] at this
                    exact this.mono fun _ _ hm => ⟨hm.1, by rw [← he3]; exact h.worked hva hm.2, hm.2.2⟩
                  have KW2 : Hid (∀ W9, Ap w W9 S p tb P W e3 (k + 1) (k : Int) → Calls Try.prog 13 #[.pointer (some ⟨p, 0, none⟩), .int .i64 0, .int .i64 k] W9 fun r w9 => r = .returned (.bool false) ∧ Ap w w9 S p tb P W e3 (k + 1) (k : Int) ∧ But S W9 w9) := fun W9 h => by
                    have f3 : wrkB e3 k = false ∧ wrkE e3 k = e3 := by rw [← he3]; exact HW3.out hva hN
                    have := work1 p e3 S W9 k h.hw.jp
                    rw [f3.1, f3.2] at this
                    exact this.mono fun _ _ hm => ⟨hm.1, h.same hm.2, hm.2.2⟩
                  have K4 : Hid (∀ W9, Ap w W9 S p tb P W e3 (k + 1) (k : Int) → Calls Try.prog 12 #[.pointer (some ⟨p, 0, none⟩), .int .i64 0] W9 fun r w9 => r = .returned (.agg #[.bool true, .int .i64 vr, .int .i64 vm, .int .i64 (vn + 1), .bool vc]) ∧ Ap w w9 S p tb P W e3 (k + 1) (k : Int) ∧ But No W9 w9) := fun W9 h => by have := state1 p e3 S W9 h.hw.jp; rw [hst3] at this; exact this.mono fun _ _ hm => ⟨hm.1, h.no hm.2, hm.2⟩
                  have g0 := HF2.out.n0
                  have g1 := HF2.out.nm
                  have g2 := HF2.out.mW
                  rw [HW2.out] at g2
                  rw [hvn] at g0 g1 hN hB
                  rw [hvm] at g1 g2 hN hB
                  have v30 : vn ≤ 30 := by omega
                  have t1 : decide (vn < vm) = true := by simp; omega
                  have t2 : decide (W < vn + 1) = false := by simp; omega
                  have t3 : decide (W < vm) = false := by simp; omega
                  have t4 : (vn + 1 == vm) = false := by simpa using hB
                  clear hA hvr hvc hvn hvm hva hst hst3 he3 g1 g2 hN hB HF2 HZ2 HW2 HW3
                  refine (C1.out _ HP1.out).mono ?_
                  rintro e wz ⟨rfl, rfl⟩
                  go_wp2_with (first | (go_at_call 11; ((with_reducible refine (HM5.out _ HP1.out).mono ?_); rintro e wz ⟨rfl, hz⟩; have HP2 := Lib.hid hz; have tc0 := hz.bx.cell (o := 0) rfl; clear hz)) | (go_at_call 12; ((with_reducible refine (K1.out _ HP2.out).mono ?_); rintro e wb ⟨rfl, hz⟩; have HB := Lib.hid (hz.no ((But.refl No wb).alloc (.cells #[.bool true, .int .i64 vr, .int .i64 vm, .int .i64 vn, .bool vc] 35))); have BX := Lib.hid (Blk.new wb #[.bool true, .int .i64 vr, .int .i64 vm, .int .i64 vn, .bool vc] 35); have NB : Hid (¬ S wb.heap.size) := fun hs => absurd (hz.hw.jp.lt _ hs) (Nat.lt_irrefl _); clear hz HP2)) | (go_at_call 13; ((with_reducible refine (KW1.out _ HB.out).mono ?_); rintro e wc ⟨rfl, hz, hbb⟩; have HC := Lib.hid hz; have BX2 := Lib.hid (BX.out.but hbb NB.out); clear hz hbb HB BX)) | (go_at_call 13; ((with_reducible refine (KW2.out _ HC.out).mono ?_); rintro e wd ⟨rfl, hz, hbb⟩; have HDD := Lib.hid hz; have BX3 := Lib.hid (BX2.out.but hbb NB.out); clear hz hbb HC BX2)) | (go_at_call 12; ((with_reducible refine (K4.out _ HDD.out).mono ?_); rintro e we ⟨rfl, hz, hbb⟩; have HE9 := Lib.hid (hz.no ((But.refl No we).alloc (.cells #[.bool true, .int .i64 vr, .int .i64 vm, .int .i64 (vn + 1), .bool vc] 35))); obtain ⟨j0, j1, j2, j3, j4⟩ := cells5 ((BX3.out.but hbb (fun f => f)).alloc (.cells #[.bool true, .int .i64 vr, .int .i64 vm, .int .i64 (vn + 1), .bool vc] 35)); obtain ⟨l0, l1, l2, l3, l4⟩ := cells5 (Blk.new we #[.bool true, .int .i64 vr, .int .i64 vm, .int .i64 (vn + 1), .bool vc] 35); have tc0 := HE9.out.bx.cell (o := 0) rfl; have tc2 := HE9.out.bx.cell (o := 2) rfl; clear hz hbb HDD BX3)))
                  go_roundw
                  case rel => exact ⟨k + 1, _, by go_num, rfl, by omega, by omega, (⟨S, _, HE9.out⟩ : Rel w _ p tb P W (k + 1) (k : Int))⟩
                  case measure => simp [intOf]; omega
            · skip
              exact absurd HA2.out hA
        · have C1 : Hid (∀ W9, Ap w W9 S p tb P W e1 k la → Calls Try.prog 10 #[.pointer (some ⟨p, 0, none⟩), .int .i64 0, .int .i64 k] W9 fun r w9 => r = .returned (.int .i64 (nxt e1 k)) ∧ W9 = w9) := fun W9 h => next1 p e1 S W9 k h.hw.jp
          have be : (nxt e1 k == (k : Int)) = false := by simpa using hnx
          generalize nxt e1 k = y at C1 be
          obtain ⟨e2, he2⟩ : ∃ y, e1 = y := ⟨_, rfl⟩
          obtain ⟨la2, hla2⟩ : ∃ y : Int, la = y := ⟨_, rfl⟩
          have HF2 := Lib.hid HP1.out.fit
          have HZ2 := Lib.hid HP1.out.az
          have HW2 := Lib.hid HP1.out.eW
          have HP2 := Lib.hid HP1.out
          rw [he2] at HF2 HZ2 HW2 HP2
          replace HW3 := Lib.hid (HW3.out e2)
          subst hla2
          obtain ⟨la2, hla2⟩ : ∃ y : Int, y = la := ⟨_, rfl⟩
          rw [← hla2] at HP2 HP1 C1
          subst hla2
          clear hnx he2
          by_cases hA : e2.a = true
          · by_cases hN : e2.n = e2.m
            · obtain ⟨vr, hvr⟩ : ∃ y, e2.r = y := ⟨_, rfl⟩
              obtain ⟨vc, hvc⟩ : ∃ y, e2.c = y := ⟨_, rfl⟩
              obtain ⟨vn, hvn⟩ : ∃ y, e2.n = y := ⟨_, rfl⟩
              have hva : e2.a = true := hA
              have hvm : e2.m = vn := by rw [← hN]; exact hvn
              have hst : stv e2 = .agg #[.bool true, .int .i64 vr, .int .i64 vn, .int .i64 vn, .bool vc] := by unfold stv; rw [hva, hvr, hvm, hvn, hvc]
              obtain ⟨e3, he3⟩ : ∃ y, e2 = y := ⟨_, rfl⟩
              have hst3 : stv e3 = .agg #[.bool true, .int .i64 vr, .int .i64 vn, .int .i64 vn, .bool vc] := by rw [← he3]; exact hst
              have K1 : Hid (∀ W9, Ap w W9 S p tb P W e2 k la2 → Calls Try.prog 12 #[.pointer (some ⟨p, 0, none⟩), .int .i64 0] W9 fun r w9 => r = .returned (.agg #[.bool true, .int .i64 vr, .int .i64 vn, .int .i64 vn, .bool vc]) ∧ Ap w w9 S p tb P W e2 k la2) := fun W9 h => by have := state1 p e2 S W9 h.hw.jp; rw [hst] at this; exact this.mono fun _ _ hm => ⟨hm.1, h.no hm.2⟩
              have f3 : wrkB e2 k = false ∧ wrkE e2 k = e2 := Ap.work_no (.inr hN)
              have KW1 : Hid (∀ W9, Ap w W9 S p tb P W e2 k la2 → Calls Try.prog 13 #[.pointer (some ⟨p, 0, none⟩), .int .i64 0, .int .i64 k] W9 fun r w9 => r = .returned (.bool false) ∧ Ap w w9 S p tb P W e3 (k + 1) la2 ∧ But S W9 w9) := fun W9 h => by
                have := work1 p e2 S W9 k h.hw.jp
                rw [f3.1, f3.2] at this
                exact this.mono fun _ _ hm => ⟨hm.1, by rw [← he3]; exact h.kept hm.2, hm.2.2⟩
              have KW2 : Hid (∀ W9, Ap w W9 S p tb P W e3 (k + 1) la2 → Calls Try.prog 13 #[.pointer (some ⟨p, 0, none⟩), .int .i64 0, .int .i64 k] W9 fun r w9 => r = .returned (.bool false) ∧ Ap w w9 S p tb P W e3 (k + 1) la2 ∧ But S W9 w9) := fun W9 h => by
                have := work1 p e3 S W9 k h.hw.jp
                rw [← he3, f3.1, f3.2] at this
                exact this.mono fun _ _ hm => ⟨hm.1, h.same (by rw [← he3]; exact hm.2), hm.2.2⟩
              have K4 : Hid (∀ W9, Ap w W9 S p tb P W e3 (k + 1) la2 → Calls Try.prog 12 #[.pointer (some ⟨p, 0, none⟩), .int .i64 0] W9 fun r w9 => r = .returned (.agg #[.bool true, .int .i64 vr, .int .i64 vn, .int .i64 vn, .bool vc]) ∧ Ap w w9 S p tb P W e3 (k + 1) la2 ∧ But No W9 w9) := fun W9 h => by have := state1 p e3 S W9 h.hw.jp; rw [hst3] at this; exact this.mono fun _ _ hm => ⟨hm.1, h.no hm.2, hm.2⟩
              have ha3 : e3.a = true := by rw [← he3]; exact hva
              have K5 : Hid (∀ W9, Ap w W9 S p tb P W e3 (k + 1) la2 → Calls Try.prog 14 #[.pointer (some ⟨p, 0, none⟩), .int .i64 0] W9 fun r w9 => r = .returned (.bool true) ∧ Rel w w9 p tb P W (k + 1) la2) := fun W9 h => by have := over1 p e3 S W9 h.hw.jp; rw [ha3] at this; exact this.mono fun _ _ hm => ⟨hm.1, ⟨S, _, h.over hm.2⟩⟩
              have g0 := HF2.out.n0
              have g1 := HF2.out.nm
              have g2 := HF2.out.mW
              rw [HW2.out] at g2
              rw [hvn] at g0
              rw [hvm] at g2
              have t1 : decide (vn < vn) = false := by simp
              have t2 : decide (W < vn) = false := by simp; omega
              clear hA hvr hvc hvn hvm hva hst hst3 he3 g1 g2 hN f3 HF2 HZ2 HW2 HW3 ha3
              refine (C1.out _ HP1.out).mono ?_
              rintro e wz ⟨rfl, rfl⟩
              go_wp2_with (first | (go_at_call 12; ((with_reducible refine (K1.out _ HP2.out).mono ?_); rintro e wb ⟨rfl, hz⟩; have HB := Lib.hid (hz.no ((But.refl No wb).alloc (.cells #[.bool true, .int .i64 vr, .int .i64 vn, .int .i64 vn, .bool vc] 35))); have BX := Lib.hid (Blk.new wb #[.bool true, .int .i64 vr, .int .i64 vn, .int .i64 vn, .bool vc] 35); have NB : Hid (¬ S wb.heap.size) := fun hs => absurd (hz.hw.jp.lt _ hs) (Nat.lt_irrefl _); clear hz HP2)) | (go_at_call 13; ((with_reducible refine (KW1.out _ HB.out).mono ?_); rintro e wc ⟨rfl, hz, hbb⟩; have HC := Lib.hid hz; have BX2 := Lib.hid (BX.out.but hbb NB.out); clear hz hbb HB BX)) | (go_at_call 13; ((with_reducible refine (KW2.out _ HC.out).mono ?_); rintro e wd ⟨rfl, hz, hbb⟩; have HDD := Lib.hid hz; have BX3 := Lib.hid (BX2.out.but hbb NB.out); clear hz hbb HC BX2)) | (go_at_call 12; ((with_reducible refine (K4.out _ HDD.out).mono ?_); rintro e we ⟨rfl, hz, hbb⟩; have HE9 := Lib.hid (hz.no ((But.refl No we).alloc (.cells #[.bool true, .int .i64 vr, .int .i64 vn, .int .i64 vn, .bool vc] 35))); obtain ⟨j0, j1, j2, j3, j4⟩ := cells5 ((BX3.out.but hbb (fun f => f)).alloc (.cells #[.bool true, .int .i64 vr, .int .i64 vn, .int .i64 vn, .bool vc] 35)); obtain ⟨l0, l1, l2, l3, l4⟩ := cells5 (Blk.new we #[.bool true, .int .i64 vr, .int .i64 vn, .int .i64 vn, .bool vc] 35); have tc0 := HE9.out.bx.cell (o := 0) rfl; have tc2 := HE9.out.bx.cell (o := 2) rfl; clear hz hbb HDD BX3)) | (go_at_call 14; ((with_reducible refine (K5.out _ HE9.out).mono ?_); rintro e wf ⟨rfl, hz⟩; have HF9 := Lib.hid hz; clear hz)))
              go_roundw
              case rel => exact ⟨k + 1, _, by go_num, rfl, by omega, by omega, HF9⟩
              case measure => simp [intOf]; omega
            · by_cases hB : e2.n + 1 = e2.m
              · obtain ⟨vr, hvr⟩ : ∃ y, e2.r = y := ⟨_, rfl⟩
                obtain ⟨vc, hvc⟩ : ∃ y, e2.c = y := ⟨_, rfl⟩
                obtain ⟨vn, hvn⟩ : ∃ y, e2.n = y := ⟨_, rfl⟩
                obtain ⟨vm, hvm⟩ : ∃ y, e2.m = y := ⟨_, rfl⟩
                have hva : e2.a = true := hA
                have hst : stv e2 = .agg #[.bool true, .int .i64 vr, .int .i64 vm, .int .i64 vn, .bool vc] := by unfold stv; rw [hva, hvr, hvm, hvn, hvc]
                obtain ⟨e3, he3⟩ : ∃ y, ({ e2 with n := e2.n + 1, k := (k : Int) } : En) = y := ⟨_, rfl⟩
                have hst3 : stv e3 = .agg #[.bool true, .int .i64 vr, .int .i64 vm, .int .i64 (vn + 1), .bool vc] := by rw [← he3]; unfold stv; show Value.agg #[.bool e2.a, .int .i64 e2.r, .int .i64 e2.m, .int .i64 (e2.n + 1), .bool e2.c] = _; rw [hva, hvr, hvm, hvn, hvc]
                have K1 : Hid (∀ W9, Ap w W9 S p tb P W e2 k la2 → Calls Try.prog 12 #[.pointer (some ⟨p, 0, none⟩), .int .i64 0] W9 fun r w9 => r = .returned (.agg #[.bool true, .int .i64 vr, .int .i64 vm, .int .i64 vn, .bool vc]) ∧ Ap w w9 S p tb P W e2 k la2) := fun W9 h => by have := state1 p e2 S W9 h.hw.jp; rw [hst] at this; exact this.mono fun _ _ hm => ⟨hm.1, h.no hm.2⟩
                have KW1 : Hid (∀ W9, Ap w W9 S p tb P W e2 k la2 → Calls Try.prog 13 #[.pointer (some ⟨p, 0, none⟩), .int .i64 0, .int .i64 k] W9 fun r w9 => r = .returned (.bool true) ∧ Ap w w9 S p tb P W e3 (k + 1) la2 ∧ But S W9 w9) := fun W9 h => by
                  obtain ⟨f1, f2, _, _⟩ := h.work_yes (by omega) hva hN
                  have := work1 p e2 S W9 k h.hw.jp
                  rw [f1, f2] at this
                  exact this.mono fun _ _ hm => ⟨hm.1, by rw [← he3]; exact h.worked hva hm.2, hm.2.2⟩
                have KW2 : Hid (∀ W9, Ap w W9 S p tb P W e3 (k + 1) la2 → Calls Try.prog 13 #[.pointer (some ⟨p, 0, none⟩), .int .i64 0, .int .i64 k] W9 fun r w9 => r = .returned (.bool false) ∧ Ap w w9 S p tb P W e3 (k + 1) la2 ∧ But S W9 w9) := fun W9 h => by
                  have f3 : wrkB e3 k = false ∧ wrkE e3 k = e3 := by rw [← he3]; exact HW3.out hva hN
                  have := work1 p e3 S W9 k h.hw.jp
                  rw [f3.1, f3.2] at this
                  exact this.mono fun _ _ hm => ⟨hm.1, h.same hm.2, hm.2.2⟩
                have K4 : Hid (∀ W9, Ap w W9 S p tb P W e3 (k + 1) la2 → Calls Try.prog 12 #[.pointer (some ⟨p, 0, none⟩), .int .i64 0] W9 fun r w9 => r = .returned (.agg #[.bool true, .int .i64 vr, .int .i64 vm, .int .i64 (vn + 1), .bool vc]) ∧ Ap w w9 S p tb P W e3 (k + 1) la2 ∧ But No W9 w9) := fun W9 h => by have := state1 p e3 S W9 h.hw.jp; rw [hst3] at this; exact this.mono fun _ _ hm => ⟨hm.1, h.no hm.2, hm.2⟩
                have ha3 : e3.a = true := by rw [← he3]; exact hva
                have K5 : Hid (∀ W9, Ap w W9 S p tb P W e3 (k + 1) la2 → Calls Try.prog 14 #[.pointer (some ⟨p, 0, none⟩), .int .i64 0] W9 fun r w9 => r = .returned (.bool true) ∧ Rel w w9 p tb P W (k + 1) la2) := fun W9 h => by have := over1 p e3 S W9 h.hw.jp; rw [ha3] at this; exact this.mono fun _ _ hm => ⟨hm.1, ⟨S, _, h.over hm.2⟩⟩
                have g0 := HF2.out.n0
                have g1 := HF2.out.nm
                have g2 := HF2.out.mW
                rw [HW2.out] at g2
                rw [hvn] at g0 g1 hN hB
                rw [hvm] at g1 g2 hN hB
                have v30 : vn ≤ 30 := by omega
                have t1 : decide (vn < vm) = true := by simp; omega
                have t2 : decide (W < vn + 1) = false := by simp; omega
                have t3 : decide (W < vm) = false := by simp; omega
                have t4 : (vn + 1 == vm) = true := by simpa using hB
                clear hA hvr hvc hvn hvm hva hst hst3 he3 g1 g2 hN hB HF2 HZ2 HW2 HW3 ha3
                refine (C1.out _ HP1.out).mono ?_
                rintro e wz ⟨rfl, rfl⟩
                go_wp2_with (first | (go_at_call 12; ((with_reducible refine (K1.out _ HP2.out).mono ?_); rintro e wb ⟨rfl, hz⟩; have HB := Lib.hid (hz.no ((But.refl No wb).alloc (.cells #[.bool true, .int .i64 vr, .int .i64 vm, .int .i64 vn, .bool vc] 35))); have BX := Lib.hid (Blk.new wb #[.bool true, .int .i64 vr, .int .i64 vm, .int .i64 vn, .bool vc] 35); have NB : Hid (¬ S wb.heap.size) := fun hs => absurd (hz.hw.jp.lt _ hs) (Nat.lt_irrefl _); clear hz HP2)) | (go_at_call 13; ((with_reducible refine (KW1.out _ HB.out).mono ?_); rintro e wc ⟨rfl, hz, hbb⟩; have HC := Lib.hid hz; have BX2 := Lib.hid (BX.out.but hbb NB.out); clear hz hbb HB BX)) | (go_at_call 13; ((with_reducible refine (KW2.out _ HC.out).mono ?_); rintro e wd ⟨rfl, hz, hbb⟩; have HDD := Lib.hid hz; have BX3 := Lib.hid (BX2.out.but hbb NB.out); clear hz hbb HC BX2)) | (go_at_call 12; ((with_reducible refine (K4.out _ HDD.out).mono ?_); rintro e we ⟨rfl, hz, hbb⟩; have HE9 := Lib.hid (hz.no ((But.refl No we).alloc (.cells #[.bool true, .int .i64 vr, .int .i64 vm, .int .i64 (vn + 1), .bool vc] 35))); obtain ⟨j0, j1, j2, j3, j4⟩ := cells5 ((BX3.out.but hbb (fun f => f)).alloc (.cells #[.bool true, .int .i64 vr, .int .i64 vm, .int .i64 (vn + 1), .bool vc] 35)); obtain ⟨l0, l1, l2, l3, l4⟩ := cells5 (Blk.new we #[.bool true, .int .i64 vr, .int .i64 vm, .int .i64 (vn + 1), .bool vc] 35); have tc0 := HE9.out.bx.cell (o := 0) rfl; have tc2 := HE9.out.bx.cell (o := 2) rfl; clear hz hbb HDD BX3)) | (go_at_call 14; ((with_reducible refine (K5.out _ HE9.out).mono ?_); rintro e wf ⟨rfl, hz⟩; have HF9 := Lib.hid hz; clear hz)))
                go_roundw
                case rel => exact ⟨k + 1, _, by go_num, rfl, by omega, by omega, HF9⟩
                case measure => simp [intOf]; omega
              · obtain ⟨vr, hvr⟩ : ∃ y, e2.r = y := ⟨_, rfl⟩
                obtain ⟨vc, hvc⟩ : ∃ y, e2.c = y := ⟨_, rfl⟩
                obtain ⟨vn, hvn⟩ : ∃ y, e2.n = y := ⟨_, rfl⟩
                obtain ⟨vm, hvm⟩ : ∃ y, e2.m = y := ⟨_, rfl⟩
                have hva : e2.a = true := hA
                have hst : stv e2 = .agg #[.bool true, .int .i64 vr, .int .i64 vm, .int .i64 vn, .bool vc] := by unfold stv; rw [hva, hvr, hvm, hvn, hvc]
                obtain ⟨e3, he3⟩ : ∃ y, ({ e2 with n := e2.n + 1, k := (k : Int) } : En) = y := ⟨_, rfl⟩
                have hst3 : stv e3 = .agg #[.bool true, .int .i64 vr, .int .i64 vm, .int .i64 (vn + 1), .bool vc] := by rw [← he3]; unfold stv; show Value.agg #[.bool e2.a, .int .i64 e2.r, .int .i64 e2.m, .int .i64 (e2.n + 1), .bool e2.c] = _; rw [hva, hvr, hvm, hvn, hvc]
                have K1 : Hid (∀ W9, Ap w W9 S p tb P W e2 k la2 → Calls Try.prog 12 #[.pointer (some ⟨p, 0, none⟩), .int .i64 0] W9 fun r w9 => r = .returned (.agg #[.bool true, .int .i64 vr, .int .i64 vm, .int .i64 vn, .bool vc]) ∧ Ap w w9 S p tb P W e2 k la2) := fun W9 h => by have := state1 p e2 S W9 h.hw.jp; rw [hst] at this; exact this.mono fun _ _ hm => ⟨hm.1, h.no hm.2⟩
                have KW1 : Hid (∀ W9, Ap w W9 S p tb P W e2 k la2 → Calls Try.prog 13 #[.pointer (some ⟨p, 0, none⟩), .int .i64 0, .int .i64 k] W9 fun r w9 => r = .returned (.bool true) ∧ Ap w w9 S p tb P W e3 (k + 1) la2 ∧ But S W9 w9) := fun W9 h => by
                  obtain ⟨f1, f2, _, _⟩ := h.work_yes (by omega) hva hN
                  have := work1 p e2 S W9 k h.hw.jp
                  rw [f1, f2] at this
                  exact this.mono fun _ _ hm => ⟨hm.1, by rw [← he3]; exact h.worked hva hm.2, hm.2.2⟩
                have KW2 : Hid (∀ W9, Ap w W9 S p tb P W e3 (k + 1) la2 → Calls Try.prog 13 #[.pointer (some ⟨p, 0, none⟩), .int .i64 0, .int .i64 k] W9 fun r w9 => r = .returned (.bool false) ∧ Ap w w9 S p tb P W e3 (k + 1) la2 ∧ But S W9 w9) := fun W9 h => by
                  have f3 : wrkB e3 k = false ∧ wrkE e3 k = e3 := by rw [← he3]; exact HW3.out hva hN
                  have := work1 p e3 S W9 k h.hw.jp
                  rw [f3.1, f3.2] at this
                  exact this.mono fun _ _ hm => ⟨hm.1, h.same hm.2, hm.2.2⟩
                have K4 : Hid (∀ W9, Ap w W9 S p tb P W e3 (k + 1) la2 → Calls Try.prog 12 #[.pointer (some ⟨p, 0, none⟩), .int .i64 0] W9 fun r w9 => r = .returned (.agg #[.bool true, .int .i64 vr, .int .i64 vm, .int .i64 (vn + 1), .bool vc]) ∧ Ap w w9 S p tb P W e3 (k + 1) la2 ∧ But No W9 w9) := fun W9 h => by have := state1 p e3 S W9 h.hw.jp; rw [hst3] at this; exact this.mono fun _ _ hm => ⟨hm.1, h.no hm.2, hm.2⟩
                have g0 := HF2.out.n0
                have g1 := HF2.out.nm
                have g2 := HF2.out.mW
                rw [HW2.out] at g2
                rw [hvn] at g0 g1 hN hB
                rw [hvm] at g1 g2 hN hB
                have v30 : vn ≤ 30 := by omega
                have t1 : decide (vn < vm) = true := by simp; omega
                have t2 : decide (W < vn + 1) = false := by simp; omega
                have t3 : decide (W < vm) = false := by simp; omega
                have t4 : (vn + 1 == vm) = false := by simpa using hB
                clear hA hvr hvc hvn hvm hva hst hst3 he3 g1 g2 hN hB HF2 HZ2 HW2 HW3
                refine (C1.out _ HP1.out).mono ?_
                rintro e wz ⟨rfl, rfl⟩
                go_wp2_with (first | (go_at_call 12; ((with_reducible refine (K1.out _ HP2.out).mono ?_); rintro e wb ⟨rfl, hz⟩; have HB := Lib.hid (hz.no ((But.refl No wb).alloc (.cells #[.bool true, .int .i64 vr, .int .i64 vm, .int .i64 vn, .bool vc] 35))); have BX := Lib.hid (Blk.new wb #[.bool true, .int .i64 vr, .int .i64 vm, .int .i64 vn, .bool vc] 35); have NB : Hid (¬ S wb.heap.size) := fun hs => absurd (hz.hw.jp.lt _ hs) (Nat.lt_irrefl _); clear hz HP2)) | (go_at_call 13; ((with_reducible refine (KW1.out _ HB.out).mono ?_); rintro e wc ⟨rfl, hz, hbb⟩; have HC := Lib.hid hz; have BX2 := Lib.hid (BX.out.but hbb NB.out); clear hz hbb HB BX)) | (go_at_call 13; ((with_reducible refine (KW2.out _ HC.out).mono ?_); rintro e wd ⟨rfl, hz, hbb⟩; have HDD := Lib.hid hz; have BX3 := Lib.hid (BX2.out.but hbb NB.out); clear hz hbb HC BX2)) | (go_at_call 12; ((with_reducible refine (K4.out _ HDD.out).mono ?_); rintro e we ⟨rfl, hz, hbb⟩; have HE9 := Lib.hid (hz.no ((But.refl No we).alloc (.cells #[.bool true, .int .i64 vr, .int .i64 vm, .int .i64 (vn + 1), .bool vc] 35))); obtain ⟨j0, j1, j2, j3, j4⟩ := cells5 ((BX3.out.but hbb (fun f => f)).alloc (.cells #[.bool true, .int .i64 vr, .int .i64 vm, .int .i64 (vn + 1), .bool vc] 35)); obtain ⟨l0, l1, l2, l3, l4⟩ := cells5 (Blk.new we #[.bool true, .int .i64 vr, .int .i64 vm, .int .i64 (vn + 1), .bool vc] 35); have tc0 := HE9.out.bx.cell (o := 0) rfl; have tc2 := HE9.out.bx.cell (o := 2) rfl; clear hz hbb HDD BX3)))
                go_roundw
                case rel => exact ⟨k + 1, _, by go_num, rfl, by omega, by omega, (⟨S, _, HE9.out⟩ : Rel w _ p tb P W (k + 1) la2)⟩
                case measure => simp [intOf]; omega
          · skip
            obtain ⟨vr, hvr⟩ : ∃ y, e2.r = y := ⟨_, rfl⟩
            obtain ⟨vc, hvc⟩ : ∃ y, e2.c = y := ⟨_, rfl⟩
            have hva : e2.a = false := by simpa using hA
            have hvn := (HZ2.out hva).1
            have hvm := (HZ2.out hva).2
            have hst : stv e2 = .agg #[.bool false, .int .i64 vr, .int .i64 0, .int .i64 0, .bool vc] := by unfold stv; rw [hva, hvr, hvm, hvn, hvc]
            obtain ⟨e3, he3⟩ : ∃ y, e2 = y := ⟨_, rfl⟩
            have hst3 : stv e3 = .agg #[.bool false, .int .i64 vr, .int .i64 0, .int .i64 0, .bool vc] := by rw [← he3]; exact hst
            have K1 : Hid (∀ W9, Ap w W9 S p tb P W e2 k la2 → Calls Try.prog 12 #[.pointer (some ⟨p, 0, none⟩), .int .i64 0] W9 fun r w9 => r = .returned (.agg #[.bool false, .int .i64 vr, .int .i64 0, .int .i64 0, .bool vc]) ∧ Ap w w9 S p tb P W e2 k la2) := fun W9 h => by have := state1 p e2 S W9 h.hw.jp; rw [hst] at this; exact this.mono fun _ _ hm => ⟨hm.1, h.no hm.2⟩
            have f3 : wrkB e2 k = false ∧ wrkE e2 k = e2 := Ap.work_no (.inl hva)
            have KW1 : Hid (∀ W9, Ap w W9 S p tb P W e2 k la2 → Calls Try.prog 13 #[.pointer (some ⟨p, 0, none⟩), .int .i64 0, .int .i64 k] W9 fun r w9 => r = .returned (.bool false) ∧ Ap w w9 S p tb P W e3 (k + 1) la2 ∧ But S W9 w9) := fun W9 h => by
              have := work1 p e2 S W9 k h.hw.jp
              rw [f3.1, f3.2] at this
              exact this.mono fun _ _ hm => ⟨hm.1, by rw [← he3]; exact h.kept hm.2, hm.2.2⟩
            have KW2 : Hid (∀ W9, Ap w W9 S p tb P W e3 (k + 1) la2 → Calls Try.prog 13 #[.pointer (some ⟨p, 0, none⟩), .int .i64 0, .int .i64 k] W9 fun r w9 => r = .returned (.bool false) ∧ Ap w w9 S p tb P W e3 (k + 1) la2 ∧ But S W9 w9) := fun W9 h => by
              have := work1 p e3 S W9 k h.hw.jp
              rw [← he3, f3.1, f3.2] at this
              exact this.mono fun _ _ hm => ⟨hm.1, h.same (by rw [← he3]; exact hm.2), hm.2.2⟩
            have K4 : Hid (∀ W9, Ap w W9 S p tb P W e3 (k + 1) la2 → Calls Try.prog 12 #[.pointer (some ⟨p, 0, none⟩), .int .i64 0] W9 fun r w9 => r = .returned (.agg #[.bool false, .int .i64 vr, .int .i64 0, .int .i64 0, .bool vc]) ∧ Ap w w9 S p tb P W e3 (k + 1) la2 ∧ But No W9 w9) := fun W9 h => by have := state1 p e3 S W9 h.hw.jp; rw [hst3] at this; exact this.mono fun _ _ hm => ⟨hm.1, h.no hm.2, hm.2⟩
            have g0 := HF2.out.n0
            have g1 := HF2.out.nm
            have g2 := HF2.out.mW
            rw [HW2.out] at g2
            have t2 : decide (W < 0) = false := by simp; omega
            clear hA hvr hvc hvn hvm hva hst hst3 he3 g1 g2 f3 HF2 HZ2 HW2 HW3
            refine (C1.out _ HP1.out).mono ?_
            rintro e wz ⟨rfl, rfl⟩
            go_wp2_with (first | (go_at_call 12; ((with_reducible refine (K1.out _ HP2.out).mono ?_); rintro e wb ⟨rfl, hz⟩; have HB := Lib.hid (hz.no ((But.refl No wb).alloc (.cells #[.bool false, .int .i64 vr, .int .i64 0, .int .i64 0, .bool vc] 35))); have BX := Lib.hid (Blk.new wb #[.bool false, .int .i64 vr, .int .i64 0, .int .i64 0, .bool vc] 35); have NB : Hid (¬ S wb.heap.size) := fun hs => absurd (hz.hw.jp.lt _ hs) (Nat.lt_irrefl _); clear hz HP2)) | (go_at_call 13; ((with_reducible refine (KW1.out _ HB.out).mono ?_); rintro e wc ⟨rfl, hz, hbb⟩; have HC := Lib.hid hz; have BX2 := Lib.hid (BX.out.but hbb NB.out); clear hz hbb HB BX)) | (go_at_call 13; ((with_reducible refine (KW2.out _ HC.out).mono ?_); rintro e wd ⟨rfl, hz, hbb⟩; have HDD := Lib.hid hz; have BX3 := Lib.hid (BX2.out.but hbb NB.out); clear hz hbb HC BX2)) | (go_at_call 12; ((with_reducible refine (K4.out _ HDD.out).mono ?_); rintro e we ⟨rfl, hz, hbb⟩; have HE9 := Lib.hid (hz.no ((But.refl No we).alloc (.cells #[.bool false, .int .i64 vr, .int .i64 0, .int .i64 0, .bool vc] 35))); obtain ⟨j0, j1, j2, j3, j4⟩ := cells5 ((BX3.out.but hbb (fun f => f)).alloc (.cells #[.bool false, .int .i64 vr, .int .i64 0, .int .i64 0, .bool vc] 35)); obtain ⟨l0, l1, l2, l3, l4⟩ := cells5 (Blk.new we #[.bool false, .int .i64 vr, .int .i64 0, .int .i64 0, .bool vc] 35); have tc0 := HE9.out.bx.cell (o := 0) rfl; have tc2 := HE9.out.bx.cell (o := 2) rfl; clear hz hbb HDD BX3)))
            go_roundw
            case rel => exact ⟨k + 1, _, by go_num, rfl, by omega, by omega, (⟨S, _, HE9.out⟩ : Rel w _ p tb P W (k + 1) la2)⟩
            case measure => simp [intOf]; omega
      · have bz : (z.tmod 3 != 0) = true := by simpa using hz3
        go_wp2_with fail
        refine (CK.out _).mono ?_
        rintro e wz ⟨rfl, rfl⟩
        go_wp2_with fail
        refine (ask1 p e0 S _ (1 + d) HP0.out.hw.jp).mono ?_
        rintro e wq ⟨rfl, hm⟩
        have HP1 := Lib.hid (HP0.out.ask (1 + d) hm)
        generalize askE e0 (1 + d) = e1 at HP1
        clear hz3 HP0 CK hm
        generalize askB e0 (1 + d) = u0
        go_wp2_with fail
        have HW3 : Hid (∀ e2 : En, e2.a = true → e2.n ≠ e2.m → wrkB { e2 with n := e2.n + 1, k := (k : Int) } k = false ∧ wrkE { e2 with n := e2.n + 1, k := (k : Int) } k = { e2 with n := e2.n + 1, k := (k : Int) }) := fun e2 _ _ => by
          have h2 : wrkB { e2 with n := e2.n + 1, k := (k : Int) } k = false := by unfold wrkB; rw [decide_eq_false_iff_not]; rintro ⟨_, _, _, h3⟩; exact h3 rfl
          exact ⟨h2, by unfold wrkE; rw [h2]; rfl⟩
        by_cases hnx : nxt e1 k = k
        · obtain ⟨hs1, hs2, hs3, hs4⟩ := HP1.out.start (by omega) hnx
          have HF2' := HP1.out.fit.sta k
          have HW2' : (stt e1 k).W = W := HP1.out.eW
          rw [hs2] at HF2'
          obtain ⟨e2, he2⟩ : ∃ y, stt e1 k = y := ⟨_, rfl⟩
          have HA2 : Hid (e2.a = true) := by show _ = _; rw [← he2]; rfl
          rw [he2] at HF2' HW2' hs2 hs4
          have HF2 := Lib.hid HF2'
          have HW2 := Lib.hid HW2'
          have HZ2 : Hid (e2.a = false → e2.n = 0 ∧ e2.m = 0) := fun h => by rw [HA2.out] at h; cases h
          have C1 : Hid (∀ W9, Ap w W9 S p tb P W e1 k la → Calls Try.prog 10 #[.pointer (some ⟨p, 0, none⟩), .int .i64 0, .int .i64 k] W9 fun r w9 => r = .returned (.int .i64 k) ∧ W9 = w9) := fun W9 h => by have := next1 p e1 S W9 k h.hw.jp; rw [hnx] at this; exact this
          have HM4 : Hid (∀ W9, Ap w W9 S p tb P W e1 k la → Calls Try.prog 11 #[.pointer (some ⟨p, 0, none⟩), .int .i64 0, .int .i64 k] W9 fun r w9 => r = .returned (.bool true) ∧ Ap w w9 S p tb P W e2 k k) := fun W9 h => by
            have := start1 p e1 S W9 k h.hw.jp
            rw [hs1, hs2] at this
            obtain ⟨_, _, _, h4⟩ := h.start (by omega) hnx
            rw [he2] at h4
            exact this.mono fun _ _ hm => ⟨hm.1, h4 _ hm.2⟩
          have be : ((k : Int) == (k : Int)) = true := by simp
          replace HW3 := Lib.hid (HW3.out e2)
          have HM5 : Hid (∀ W9, Ap w W9 S p tb P W e1 k la → Calls Try.prog 11 #[.pointer (some ⟨p, 0, none⟩), .int .i64 0, .int .i64 k] W9 fun r w9 => r = .returned (.bool true) ∧ Ap w w9 S p tb P W e2 k k) := HM4
          clear HM4 hs1 hs2 hs4 hnx he2 HF2' HW2'
          rcases hs3 with hl | ⟨hl1, hl2, hl3⟩
          · subst hl
            by_cases hA : e2.a = true
            · by_cases hN : e2.n = e2.m
              · obtain ⟨vr, hvr⟩ : ∃ y, e2.r = y := ⟨_, rfl⟩
                obtain ⟨vc, hvc⟩ : ∃ y, e2.c = y := ⟨_, rfl⟩
                obtain ⟨vn, hvn⟩ : ∃ y, e2.n = y := ⟨_, rfl⟩
                have hva : e2.a = true := hA
                have hvm : e2.m = vn := by rw [← hN]; exact hvn
                have hst : stv e2 = .agg #[.bool true, .int .i64 vr, .int .i64 vn, .int .i64 vn, .bool vc] := by unfold stv; rw [hva, hvr, hvm, hvn, hvc]
                obtain ⟨e3, he3⟩ : ∃ y, e2 = y := ⟨_, rfl⟩
                have hst3 : stv e3 = .agg #[.bool true, .int .i64 vr, .int .i64 vn, .int .i64 vn, .bool vc] := by rw [← he3]; exact hst
                have K1 : Hid (∀ W9, Ap w W9 S p tb P W e2 k (k : Int) → Calls Try.prog 12 #[.pointer (some ⟨p, 0, none⟩), .int .i64 0] W9 fun r w9 => r = .returned (.agg #[.bool true, .int .i64 vr, .int .i64 vn, .int .i64 vn, .bool vc]) ∧ Ap w w9 S p tb P W e2 k (k : Int)) := fun W9 h => by have := state1 p e2 S W9 h.hw.jp; rw [hst] at this; exact this.mono fun _ _ hm => ⟨hm.1, h.no hm.2⟩
                have f3 : wrkB e2 k = false ∧ wrkE e2 k = e2 := Ap.work_no (.inr hN)
                have KW1 : Hid (∀ W9, Ap w W9 S p tb P W e2 k (k : Int) → Calls Try.prog 13 #[.pointer (some ⟨p, 0, none⟩), .int .i64 0, .int .i64 k] W9 fun r w9 => r = .returned (.bool false) ∧ Ap w w9 S p tb P W e3 (k + 1) (k : Int) ∧ But S W9 w9) := fun W9 h => by
                  have := work1 p e2 S W9 k h.hw.jp
                  rw [f3.1, f3.2] at this
                  exact this.mono fun _ _ hm => ⟨hm.1, by rw [← he3]; exact h.kept hm.2, hm.2.2⟩
                have KW2 : Hid (∀ W9, Ap w W9 S p tb P W e3 (k + 1) (k : Int) → Calls Try.prog 13 #[.pointer (some ⟨p, 0, none⟩), .int .i64 0, .int .i64 k] W9 fun r w9 => r = .returned (.bool false) ∧ Ap w w9 S p tb P W e3 (k + 1) (k : Int) ∧ But S W9 w9) := fun W9 h => by
                  have := work1 p e3 S W9 k h.hw.jp
                  rw [← he3, f3.1, f3.2] at this
                  exact this.mono fun _ _ hm => ⟨hm.1, h.same (by rw [← he3]; exact hm.2), hm.2.2⟩
                have K4 : Hid (∀ W9, Ap w W9 S p tb P W e3 (k + 1) (k : Int) → Calls Try.prog 12 #[.pointer (some ⟨p, 0, none⟩), .int .i64 0] W9 fun r w9 => r = .returned (.agg #[.bool true, .int .i64 vr, .int .i64 vn, .int .i64 vn, .bool vc]) ∧ Ap w w9 S p tb P W e3 (k + 1) (k : Int) ∧ But No W9 w9) := fun W9 h => by have := state1 p e3 S W9 h.hw.jp; rw [hst3] at this; exact this.mono fun _ _ hm => ⟨hm.1, h.no hm.2, hm.2⟩
                have ha3 : e3.a = true := by rw [← he3]; exact hva
                have K5 : Hid (∀ W9, Ap w W9 S p tb P W e3 (k + 1) (k : Int) → Calls Try.prog 14 #[.pointer (some ⟨p, 0, none⟩), .int .i64 0] W9 fun r w9 => r = .returned (.bool true) ∧ Rel w w9 p tb P W (k + 1) (k : Int)) := fun W9 h => by have := over1 p e3 S W9 h.hw.jp; rw [ha3] at this; exact this.mono fun _ _ hm => ⟨hm.1, ⟨S, _, h.over hm.2⟩⟩
                have g0 := HF2.out.n0
                have g1 := HF2.out.nm
                have g2 := HF2.out.mW
                rw [HW2.out] at g2
                rw [hvn] at g0
                rw [hvm] at g2
                have t1 : decide (vn < vn) = false := by simp
                have t2 : decide (W < vn) = false := by simp; omega
                clear hA hvr hvc hvn hvm hva hst hst3 he3 g1 g2 hN f3 HF2 HZ2 HW2 HW3 ha3
                refine (C1.out _ HP1.out).mono ?_
                rintro e wz ⟨rfl, rfl⟩
                go_wp2_with (first | (go_at_call 11; ((with_reducible refine (HM5.out _ HP1.out).mono ?_); rintro e wz ⟨rfl, hz⟩; have HP2 := Lib.hid hz; have tc0 := hz.bx.cell (o := 0) rfl; clear hz)) | (go_at_call 12; ((with_reducible refine (K1.out _ HP2.out).mono ?_); rintro e wb ⟨rfl, hz⟩; have HB := Lib.hid (hz.no ((But.refl No wb).alloc (.cells #[.bool true, .int .i64 vr, .int .i64 vn, .int .i64 vn, .bool vc] 35))); have BX := Lib.hid (Blk.new wb #[.bool true, .int .i64 vr, .int .i64 vn, .int .i64 vn, .bool vc] 35); have NB : Hid (¬ S wb.heap.size) := fun hs => absurd (hz.hw.jp.lt _ hs) (Nat.lt_irrefl _); clear hz HP2)) | (go_at_call 13; ((with_reducible refine (KW1.out _ HB.out).mono ?_); rintro e wc ⟨rfl, hz, hbb⟩; have HC := Lib.hid hz; have BX2 := Lib.hid (BX.out.but hbb NB.out); clear hz hbb HB BX)) | (go_at_call 13; ((with_reducible refine (KW2.out _ HC.out).mono ?_); rintro e wd ⟨rfl, hz, hbb⟩; have HDD := Lib.hid hz; have BX3 := Lib.hid (BX2.out.but hbb NB.out); clear hz hbb HC BX2)) | (go_at_call 12; ((with_reducible refine (K4.out _ HDD.out).mono ?_); rintro e we ⟨rfl, hz, hbb⟩; have HE9 := Lib.hid (hz.no ((But.refl No we).alloc (.cells #[.bool true, .int .i64 vr, .int .i64 vn, .int .i64 vn, .bool vc] 35))); obtain ⟨j0, j1, j2, j3, j4⟩ := cells5 ((BX3.out.but hbb (fun f => f)).alloc (.cells #[.bool true, .int .i64 vr, .int .i64 vn, .int .i64 vn, .bool vc] 35)); obtain ⟨l0, l1, l2, l3, l4⟩ := cells5 (Blk.new we #[.bool true, .int .i64 vr, .int .i64 vn, .int .i64 vn, .bool vc] 35); have tc0 := HE9.out.bx.cell (o := 0) rfl; have tc2 := HE9.out.bx.cell (o := 2) rfl; clear hz hbb HDD BX3)) | (go_at_call 14; ((with_reducible refine (K5.out _ HE9.out).mono ?_); rintro e wf ⟨rfl, hz⟩; have HF9 := Lib.hid hz; clear hz)))
                go_roundw
                case rel => exact ⟨k + 1, _, by go_num, rfl, by omega, by omega, HF9⟩
                case measure => simp [intOf]; omega
              · by_cases hB : e2.n + 1 = e2.m
                · obtain ⟨vr, hvr⟩ : ∃ y, e2.r = y := ⟨_, rfl⟩
                  obtain ⟨vc, hvc⟩ : ∃ y, e2.c = y := ⟨_, rfl⟩
                  obtain ⟨vn, hvn⟩ : ∃ y, e2.n = y := ⟨_, rfl⟩
                  obtain ⟨vm, hvm⟩ : ∃ y, e2.m = y := ⟨_, rfl⟩
                  have hva : e2.a = true := hA
                  have hst : stv e2 = .agg #[.bool true, .int .i64 vr, .int .i64 vm, .int .i64 vn, .bool vc] := by unfold stv; rw [hva, hvr, hvm, hvn, hvc]
                  obtain ⟨e3, he3⟩ : ∃ y, ({ e2 with n := e2.n + 1, k := (k : Int) } : En) = y := ⟨_, rfl⟩
                  have hst3 : stv e3 = .agg #[.bool true, .int .i64 vr, .int .i64 vm, .int .i64 (vn + 1), .bool vc] := by rw [← he3]; unfold stv; show Value.agg #[.bool e2.a, .int .i64 e2.r, .int .i64 e2.m, .int .i64 (e2.n + 1), .bool e2.c] = _; rw [hva, hvr, hvm, hvn, hvc]
                  have K1 : Hid (∀ W9, Ap w W9 S p tb P W e2 k (k : Int) → Calls Try.prog 12 #[.pointer (some ⟨p, 0, none⟩), .int .i64 0] W9 fun r w9 => r = .returned (.agg #[.bool true, .int .i64 vr, .int .i64 vm, .int .i64 vn, .bool vc]) ∧ Ap w w9 S p tb P W e2 k (k : Int)) := fun W9 h => by have := state1 p e2 S W9 h.hw.jp; rw [hst] at this; exact this.mono fun _ _ hm => ⟨hm.1, h.no hm.2⟩
                  have KW1 : Hid (∀ W9, Ap w W9 S p tb P W e2 k (k : Int) → Calls Try.prog 13 #[.pointer (some ⟨p, 0, none⟩), .int .i64 0, .int .i64 k] W9 fun r w9 => r = .returned (.bool true) ∧ Ap w w9 S p tb P W e3 (k + 1) (k : Int) ∧ But S W9 w9) := fun W9 h => by
                    obtain ⟨f1, f2, _, _⟩ := h.work_yes (by omega) hva hN
                    have := work1 p e2 S W9 k h.hw.jp
                    rw [f1, f2] at this
                    exact this.mono fun _ _ hm => ⟨hm.1, by rw [← he3]; exact h.worked hva hm.2, hm.2.2⟩
                  have KW2 : Hid (∀ W9, Ap w W9 S p tb P W e3 (k + 1) (k : Int) → Calls Try.prog 13 #[.pointer (some ⟨p, 0, none⟩), .int .i64 0, .int .i64 k] W9 fun r w9 => r = .returned (.bool false) ∧ Ap w w9 S p tb P W e3 (k + 1) (k : Int) ∧ But S W9 w9) := fun W9 h => by
                    have f3 : wrkB e3 k = false ∧ wrkE e3 k = e3 := by rw [← he3]; exact HW3.out hva hN
                    have := work1 p e3 S W9 k h.hw.jp
                    rw [f3.1, f3.2] at this
                    exact this.mono fun _ _ hm => ⟨hm.1, h.same hm.2, hm.2.2⟩
                  have K4 : Hid (∀ W9, Ap w W9 S p tb P W e3 (k + 1) (k : Int) → Calls Try.prog 12 #[.pointer (some ⟨p, 0, none⟩), .int .i64 0] W9 fun r w9 => r = .returned (.agg #[.bool true, .int .i64 vr, .int .i64 vm, .int .i64 (vn + 1), .bool vc]) ∧ Ap w w9 S p tb P W e3 (k + 1) (k : Int) ∧ But No W9 w9) := fun W9 h => by have := state1 p e3 S W9 h.hw.jp; rw [hst3] at this; exact this.mono fun _ _ hm => ⟨hm.1, h.no hm.2, hm.2⟩
                  have ha3 : e3.a = true := by rw [← he3]; exact hva
                  have K5 : Hid (∀ W9, Ap w W9 S p tb P W e3 (k + 1) (k : Int) → Calls Try.prog 14 #[.pointer (some ⟨p, 0, none⟩), .int .i64 0] W9 fun r w9 => r = .returned (.bool true) ∧ Rel w w9 p tb P W (k + 1) (k : Int)) := fun W9 h => by have := over1 p e3 S W9 h.hw.jp; rw [ha3] at this; exact this.mono fun _ _ hm => ⟨hm.1, ⟨S, _, h.over hm.2⟩⟩
                  have g0 := HF2.out.n0
                  have g1 := HF2.out.nm
                  have g2 := HF2.out.mW
                  rw [HW2.out] at g2
                  rw [hvn] at g0 g1 hN hB
                  rw [hvm] at g1 g2 hN hB
                  have v30 : vn ≤ 30 := by omega
                  have t1 : decide (vn < vm) = true := by simp; omega
                  have t2 : decide (W < vn + 1) = false := by simp; omega
                  have t3 : decide (W < vm) = false := by simp; omega
                  have t4 : (vn + 1 == vm) = true := by simpa using hB
                  clear hA hvr hvc hvn hvm hva hst hst3 he3 g1 g2 hN hB HF2 HZ2 HW2 HW3 ha3
                  refine (C1.out _ HP1.out).mono ?_
                  rintro e wz ⟨rfl, rfl⟩
                  go_wp2_with (first | (go_at_call 11; ((with_reducible refine (HM5.out _ HP1.out).mono ?_); rintro e wz ⟨rfl, hz⟩; have HP2 := Lib.hid hz; have tc0 := hz.bx.cell (o := 0) rfl; clear hz)) | (go_at_call 12; ((with_reducible refine (K1.out _ HP2.out).mono ?_); rintro e wb ⟨rfl, hz⟩; have HB := Lib.hid (hz.no ((But.refl No wb).alloc (.cells #[.bool true, .int .i64 vr, .int .i64 vm, .int .i64 vn, .bool vc] 35))); have BX := Lib.hid (Blk.new wb #[.bool true, .int .i64 vr, .int .i64 vm, .int .i64 vn, .bool vc] 35); have NB : Hid (¬ S wb.heap.size) := fun hs => absurd (hz.hw.jp.lt _ hs) (Nat.lt_irrefl _); clear hz HP2)) | (go_at_call 13; ((with_reducible refine (KW1.out _ HB.out).mono ?_); rintro e wc ⟨rfl, hz, hbb⟩; have HC := Lib.hid hz; have BX2 := Lib.hid (BX.out.but hbb NB.out); clear hz hbb HB BX)) | (go_at_call 13; ((with_reducible refine (KW2.out _ HC.out).mono ?_); rintro e wd ⟨rfl, hz, hbb⟩; have HDD := Lib.hid hz; have BX3 := Lib.hid (BX2.out.but hbb NB.out); clear hz hbb HC BX2)) | (go_at_call 12; ((with_reducible refine (K4.out _ HDD.out).mono ?_); rintro e we ⟨rfl, hz, hbb⟩; have HE9 := Lib.hid (hz.no ((But.refl No we).alloc (.cells #[.bool true, .int .i64 vr, .int .i64 vm, .int .i64 (vn + 1), .bool vc] 35))); obtain ⟨j0, j1, j2, j3, j4⟩ := cells5 ((BX3.out.but hbb (fun f => f)).alloc (.cells #[.bool true, .int .i64 vr, .int .i64 vm, .int .i64 (vn + 1), .bool vc] 35)); obtain ⟨l0, l1, l2, l3, l4⟩ := cells5 (Blk.new we #[.bool true, .int .i64 vr, .int .i64 vm, .int .i64 (vn + 1), .bool vc] 35); have tc0 := HE9.out.bx.cell (o := 0) rfl; have tc2 := HE9.out.bx.cell (o := 2) rfl; clear hz hbb HDD BX3)) | (go_at_call 14; ((with_reducible refine (K5.out _ HE9.out).mono ?_); rintro e wf ⟨rfl, hz⟩; have HF9 := Lib.hid hz; clear hz)))
                  go_roundw
                  case rel => exact ⟨k + 1, _, by go_num, rfl, by omega, by omega, HF9⟩
                  case measure => simp [intOf]; omega
                · obtain ⟨vr, hvr⟩ : ∃ y, e2.r = y := ⟨_, rfl⟩
                  obtain ⟨vc, hvc⟩ : ∃ y, e2.c = y := ⟨_, rfl⟩
                  obtain ⟨vn, hvn⟩ : ∃ y, e2.n = y := ⟨_, rfl⟩
                  obtain ⟨vm, hvm⟩ : ∃ y, e2.m = y := ⟨_, rfl⟩
                  have hva : e2.a = true := hA
                  have hst : stv e2 = .agg #[.bool true, .int .i64 vr, .int .i64 vm, .int .i64 vn, .bool vc] := by unfold stv; rw [hva, hvr, hvm, hvn, hvc]
                  obtain ⟨e3, he3⟩ : ∃ y, ({ e2 with n := e2.n + 1, k := (k : Int) } : En) = y := ⟨_, rfl⟩
                  have hst3 : stv e3 = .agg #[.bool true, .int .i64 vr, .int .i64 vm, .int .i64 (vn + 1), .bool vc] := by rw [← he3]; unfold stv; show Value.agg #[.bool e2.a, .int .i64 e2.r, .int .i64 e2.m, .int .i64 (e2.n + 1), .bool e2.c] = _; rw [hva, hvr, hvm, hvn, hvc]
                  have K1 : Hid (∀ W9, Ap w W9 S p tb P W e2 k (k : Int) → Calls Try.prog 12 #[.pointer (some ⟨p, 0, none⟩), .int .i64 0] W9 fun r w9 => r = .returned (.agg #[.bool true, .int .i64 vr, .int .i64 vm, .int .i64 vn, .bool vc]) ∧ Ap w w9 S p tb P W e2 k (k : Int)) := fun W9 h => by have := state1 p e2 S W9 h.hw.jp; rw [hst] at this; exact this.mono fun _ _ hm => ⟨hm.1, h.no hm.2⟩
                  have KW1 : Hid (∀ W9, Ap w W9 S p tb P W e2 k (k : Int) → Calls Try.prog 13 #[.pointer (some ⟨p, 0, none⟩), .int .i64 0, .int .i64 k] W9 fun r w9 => r = .returned (.bool true) ∧ Ap w w9 S p tb P W e3 (k + 1) (k : Int) ∧ But S W9 w9) := fun W9 h => by
                    obtain ⟨f1, f2, _, _⟩ := h.work_yes (by omega) hva hN
                    have := work1 p e2 S W9 k h.hw.jp
                    rw [f1, f2] at this
                    exact this.mono fun _ _ hm => ⟨hm.1, by rw [← he3]; exact h.worked hva hm.2, hm.2.2⟩
                  have KW2 : Hid (∀ W9, Ap w W9 S p tb P W e3 (k + 1) (k : Int) → Calls Try.prog 13 #[.pointer (some ⟨p, 0, none⟩), .int .i64 0, .int .i64 k] W9 fun r w9 => r = .returned (.bool false) ∧ Ap w w9 S p tb P W e3 (k + 1) (k : Int) ∧ But S W9 w9) := fun W9 h => by
                    have f3 : wrkB e3 k = false ∧ wrkE e3 k = e3 := by rw [← he3]; exact HW3.out hva hN
                    have := work1 p e3 S W9 k h.hw.jp
                    rw [f3.1, f3.2] at this
                    exact this.mono fun _ _ hm => ⟨hm.1, h.same hm.2, hm.2.2⟩
                  have K4 : Hid (∀ W9, Ap w W9 S p tb P W e3 (k + 1) (k : Int) → Calls Try.prog 12 #[.pointer (some ⟨p, 0, none⟩), .int .i64 0] W9 fun r w9 => r = .returned (.agg #[.bool true, .int .i64 vr, .int .i64 vm, .int .i64 (vn + 1), .bool vc]) ∧ Ap w w9 S p tb P W e3 (k + 1) (k : Int) ∧ But No W9 w9) := fun W9 h => by have := state1 p e3 S W9 h.hw.jp; rw [hst3] at this; exact this.mono fun _ _ hm => ⟨hm.1, h.no hm.2, hm.2⟩
                  have g0 := HF2.out.n0
                  have g1 := HF2.out.nm
                  have g2 := HF2.out.mW
                  rw [HW2.out] at g2
                  rw [hvn] at g0 g1 hN hB
                  rw [hvm] at g1 g2 hN hB
                  have v30 : vn ≤ 30 := by omega
                  have t1 : decide (vn < vm) = true := by simp; omega
                  have t2 : decide (W < vn + 1) = false := by simp; omega
                  have t3 : decide (W < vm) = false := by simp; omega
                  have t4 : (vn + 1 == vm) = false := by simpa using hB
                  clear hA hvr hvc hvn hvm hva hst hst3 he3 g1 g2 hN hB HF2 HZ2 HW2 HW3
                  refine (C1.out _ HP1.out).mono ?_
                  rintro e wz ⟨rfl, rfl⟩
                  go_wp2_with (first | (go_at_call 11; ((with_reducible refine (HM5.out _ HP1.out).mono ?_); rintro e wz ⟨rfl, hz⟩; have HP2 := Lib.hid hz; have tc0 := hz.bx.cell (o := 0) rfl; clear hz)) | (go_at_call 12; ((with_reducible refine (K1.out _ HP2.out).mono ?_); rintro e wb ⟨rfl, hz⟩; have HB := Lib.hid (hz.no ((But.refl No wb).alloc (.cells #[.bool true, .int .i64 vr, .int .i64 vm, .int .i64 vn, .bool vc] 35))); have BX := Lib.hid (Blk.new wb #[.bool true, .int .i64 vr, .int .i64 vm, .int .i64 vn, .bool vc] 35); have NB : Hid (¬ S wb.heap.size) := fun hs => absurd (hz.hw.jp.lt _ hs) (Nat.lt_irrefl _); clear hz HP2)) | (go_at_call 13; ((with_reducible refine (KW1.out _ HB.out).mono ?_); rintro e wc ⟨rfl, hz, hbb⟩; have HC := Lib.hid hz; have BX2 := Lib.hid (BX.out.but hbb NB.out); clear hz hbb HB BX)) | (go_at_call 13; ((with_reducible refine (KW2.out _ HC.out).mono ?_); rintro e wd ⟨rfl, hz, hbb⟩; have HDD := Lib.hid hz; have BX3 := Lib.hid (BX2.out.but hbb NB.out); clear hz hbb HC BX2)) | (go_at_call 12; ((with_reducible refine (K4.out _ HDD.out).mono ?_); rintro e we ⟨rfl, hz, hbb⟩; have HE9 := Lib.hid (hz.no ((But.refl No we).alloc (.cells #[.bool true, .int .i64 vr, .int .i64 vm, .int .i64 (vn + 1), .bool vc] 35))); obtain ⟨j0, j1, j2, j3, j4⟩ := cells5 ((BX3.out.but hbb (fun f => f)).alloc (.cells #[.bool true, .int .i64 vr, .int .i64 vm, .int .i64 (vn + 1), .bool vc] 35)); obtain ⟨l0, l1, l2, l3, l4⟩ := cells5 (Blk.new we #[.bool true, .int .i64 vr, .int .i64 vm, .int .i64 (vn + 1), .bool vc] 35); have tc0 := HE9.out.bx.cell (o := 0) rfl; have tc2 := HE9.out.bx.cell (o := 2) rfl; clear hz hbb HDD BX3)))
                  go_roundw
                  case rel => exact ⟨k + 1, _, by go_num, rfl, by omega, by omega, (⟨S, _, HE9.out⟩ : Rel w _ p tb P W (k + 1) (k : Int))⟩
                  case measure => simp [intOf]; omega
            · skip
              exact absurd HA2.out hA
          · have b7 : decide (0 ≤ la) = true := by simpa using hl1
            have b8 : decide ((k : Int) - la < P) = false := by simp; omega
            clear hl3
            by_cases hA : e2.a = true
            · by_cases hN : e2.n = e2.m
              · obtain ⟨vr, hvr⟩ : ∃ y, e2.r = y := ⟨_, rfl⟩
                obtain ⟨vc, hvc⟩ : ∃ y, e2.c = y := ⟨_, rfl⟩
                obtain ⟨vn, hvn⟩ : ∃ y, e2.n = y := ⟨_, rfl⟩
                have hva : e2.a = true := hA
                have hvm : e2.m = vn := by rw [← hN]; exact hvn
                have hst : stv e2 = .agg #[.bool true, .int .i64 vr, .int .i64 vn, .int .i64 vn, .bool vc] := by unfold stv; rw [hva, hvr, hvm, hvn, hvc]
                obtain ⟨e3, he3⟩ : ∃ y, e2 = y := ⟨_, rfl⟩
                have hst3 : stv e3 = .agg #[.bool true, .int .i64 vr, .int .i64 vn, .int .i64 vn, .bool vc] := by rw [← he3]; exact hst
                have K1 : Hid (∀ W9, Ap w W9 S p tb P W e2 k (k : Int) → Calls Try.prog 12 #[.pointer (some ⟨p, 0, none⟩), .int .i64 0] W9 fun r w9 => r = .returned (.agg #[.bool true, .int .i64 vr, .int .i64 vn, .int .i64 vn, .bool vc]) ∧ Ap w w9 S p tb P W e2 k (k : Int)) := fun W9 h => by have := state1 p e2 S W9 h.hw.jp; rw [hst] at this; exact this.mono fun _ _ hm => ⟨hm.1, h.no hm.2⟩
                have f3 : wrkB e2 k = false ∧ wrkE e2 k = e2 := Ap.work_no (.inr hN)
                have KW1 : Hid (∀ W9, Ap w W9 S p tb P W e2 k (k : Int) → Calls Try.prog 13 #[.pointer (some ⟨p, 0, none⟩), .int .i64 0, .int .i64 k] W9 fun r w9 => r = .returned (.bool false) ∧ Ap w w9 S p tb P W e3 (k + 1) (k : Int) ∧ But S W9 w9) := fun W9 h => by
                  have := work1 p e2 S W9 k h.hw.jp
                  rw [f3.1, f3.2] at this
                  exact this.mono fun _ _ hm => ⟨hm.1, by rw [← he3]; exact h.kept hm.2, hm.2.2⟩
                have KW2 : Hid (∀ W9, Ap w W9 S p tb P W e3 (k + 1) (k : Int) → Calls Try.prog 13 #[.pointer (some ⟨p, 0, none⟩), .int .i64 0, .int .i64 k] W9 fun r w9 => r = .returned (.bool false) ∧ Ap w w9 S p tb P W e3 (k + 1) (k : Int) ∧ But S W9 w9) := fun W9 h => by
                  have := work1 p e3 S W9 k h.hw.jp
                  rw [← he3, f3.1, f3.2] at this
                  exact this.mono fun _ _ hm => ⟨hm.1, h.same (by rw [← he3]; exact hm.2), hm.2.2⟩
                have K4 : Hid (∀ W9, Ap w W9 S p tb P W e3 (k + 1) (k : Int) → Calls Try.prog 12 #[.pointer (some ⟨p, 0, none⟩), .int .i64 0] W9 fun r w9 => r = .returned (.agg #[.bool true, .int .i64 vr, .int .i64 vn, .int .i64 vn, .bool vc]) ∧ Ap w w9 S p tb P W e3 (k + 1) (k : Int) ∧ But No W9 w9) := fun W9 h => by have := state1 p e3 S W9 h.hw.jp; rw [hst3] at this; exact this.mono fun _ _ hm => ⟨hm.1, h.no hm.2, hm.2⟩
                have ha3 : e3.a = true := by rw [← he3]; exact hva
                have K5 : Hid (∀ W9, Ap w W9 S p tb P W e3 (k + 1) (k : Int) → Calls Try.prog 14 #[.pointer (some ⟨p, 0, none⟩), .int .i64 0] W9 fun r w9 => r = .returned (.bool true) ∧ Rel w w9 p tb P W (k + 1) (k : Int)) := fun W9 h => by have := over1 p e3 S W9 h.hw.jp; rw [ha3] at this; exact this.mono fun _ _ hm => ⟨hm.1, ⟨S, _, h.over hm.2⟩⟩
                have g0 := HF2.out.n0
                have g1 := HF2.out.nm
                have g2 := HF2.out.mW
                rw [HW2.out] at g2
                rw [hvn] at g0
                rw [hvm] at g2
                have t1 : decide (vn < vn) = false := by simp
                have t2 : decide (W < vn) = false := by simp; omega
                clear hA hvr hvc hvn hvm hva hst hst3 he3 g1 g2 hN f3 HF2 HZ2 HW2 HW3 ha3
                refine (C1.out _ HP1.out).mono ?_
                rintro e wz ⟨rfl, rfl⟩
                go_wp2_with (first | (go_at_call 11; ((with_reducible refine (HM5.out _ HP1.out).mono ?_); rintro e wz ⟨rfl, hz⟩; have HP2 := Lib.hid hz; have tc0 := hz.bx.cell (o := 0) rfl; clear hz)) | (go_at_call 12; ((with_reducible refine (K1.out _ HP2.out).mono ?_); rintro e wb ⟨rfl, hz⟩; have HB := Lib.hid (hz.no ((But.refl No wb).alloc (.cells #[.bool true, .int .i64 vr, .int .i64 vn, .int .i64 vn, .bool vc] 35))); have BX := Lib.hid (Blk.new wb #[.bool true, .int .i64 vr, .int .i64 vn, .int .i64 vn, .bool vc] 35); have NB : Hid (¬ S wb.heap.size) := fun hs => absurd (hz.hw.jp.lt _ hs) (Nat.lt_irrefl _); clear hz HP2)) | (go_at_call 13; ((with_reducible refine (KW1.out _ HB.out).mono ?_); rintro e wc ⟨rfl, hz, hbb⟩; have HC := Lib.hid hz; have BX2 := Lib.hid (BX.out.but hbb NB.out); clear hz hbb HB BX)) | (go_at_call 13; ((with_reducible refine (KW2.out _ HC.out).mono ?_); rintro e wd ⟨rfl, hz, hbb⟩; have HDD := Lib.hid hz; have BX3 := Lib.hid (BX2.out.but hbb NB.out); clear hz hbb HC BX2)) | (go_at_call 12; ((with_reducible refine (K4.out _ HDD.out).mono ?_); rintro e we ⟨rfl, hz, hbb⟩; have HE9 := Lib.hid (hz.no ((But.refl No we).alloc (.cells #[.bool true, .int .i64 vr, .int .i64 vn, .int .i64 vn, .bool vc] 35))); obtain ⟨j0, j1, j2, j3, j4⟩ := cells5 ((BX3.out.but hbb (fun f => f)).alloc (.cells #[.bool true, .int .i64 vr, .int .i64 vn, .int .i64 vn, .bool vc] 35)); obtain ⟨l0, l1, l2, l3, l4⟩ := cells5 (Blk.new we #[.bool true, .int .i64 vr, .int .i64 vn, .int .i64 vn, .bool vc] 35); have tc0 := HE9.out.bx.cell (o := 0) rfl; have tc2 := HE9.out.bx.cell (o := 2) rfl; clear hz hbb HDD BX3)) | (go_at_call 14; ((with_reducible refine (K5.out _ HE9.out).mono ?_); rintro e wf ⟨rfl, hz⟩; have HF9 := Lib.hid hz; clear hz)))
                go_roundw
                case rel => exact ⟨k + 1, _, by go_num, rfl, by omega, by omega, HF9⟩
                case measure => simp [intOf]; omega
              · by_cases hB : e2.n + 1 = e2.m
                · obtain ⟨vr, hvr⟩ : ∃ y, e2.r = y := ⟨_, rfl⟩
                  obtain ⟨vc, hvc⟩ : ∃ y, e2.c = y := ⟨_, rfl⟩
                  obtain ⟨vn, hvn⟩ : ∃ y, e2.n = y := ⟨_, rfl⟩
                  obtain ⟨vm, hvm⟩ : ∃ y, e2.m = y := ⟨_, rfl⟩
                  have hva : e2.a = true := hA
                  have hst : stv e2 = .agg #[.bool true, .int .i64 vr, .int .i64 vm, .int .i64 vn, .bool vc] := by unfold stv; rw [hva, hvr, hvm, hvn, hvc]
                  obtain ⟨e3, he3⟩ : ∃ y, ({ e2 with n := e2.n + 1, k := (k : Int) } : En) = y := ⟨_, rfl⟩
                  have hst3 : stv e3 = .agg #[.bool true, .int .i64 vr, .int .i64 vm, .int .i64 (vn + 1), .bool vc] := by rw [← he3]; unfold stv; show Value.agg #[.bool e2.a, .int .i64 e2.r, .int .i64 e2.m, .int .i64 (e2.n + 1), .bool e2.c] = _; rw [hva, hvr, hvm, hvn, hvc]
                  have K1 : Hid (∀ W9, Ap w W9 S p tb P W e2 k (k : Int) → Calls Try.prog 12 #[.pointer (some ⟨p, 0, none⟩), .int .i64 0] W9 fun r w9 => r = .returned (.agg #[.bool true, .int .i64 vr, .int .i64 vm, .int .i64 vn, .bool vc]) ∧ Ap w w9 S p tb P W e2 k (k : Int)) := fun W9 h => by have := state1 p e2 S W9 h.hw.jp; rw [hst] at this; exact this.mono fun _ _ hm => ⟨hm.1, h.no hm.2⟩
                  have KW1 : Hid (∀ W9, Ap w W9 S p tb P W e2 k (k : Int) → Calls Try.prog 13 #[.pointer (some ⟨p, 0, none⟩), .int .i64 0, .int .i64 k] W9 fun r w9 => r = .returned (.bool true) ∧ Ap w w9 S p tb P W e3 (k + 1) (k : Int) ∧ But S W9 w9) := fun W9 h => by
                    obtain ⟨f1, f2, _, _⟩ := h.work_yes (by omega) hva hN
                    have := work1 p e2 S W9 k h.hw.jp
                    rw [f1, f2] at this
                    exact this.mono fun _ _ hm => ⟨hm.1, by rw [← he3]; exact h.worked hva hm.2, hm.2.2⟩
                  have KW2 : Hid (∀ W9, Ap w W9 S p tb P W e3 (k + 1) (k : Int) → Calls Try.prog 13 #[.pointer (some ⟨p, 0, none⟩), .int .i64 0, .int .i64 k] W9 fun r w9 => r = .returned (.bool false) ∧ Ap w w9 S p tb P W e3 (k + 1) (k : Int) ∧ But S W9 w9) := fun W9 h => by
                    have f3 : wrkB e3 k = false ∧ wrkE e3 k = e3 := by rw [← he3]; exact HW3.out hva hN
                    have := work1 p e3 S W9 k h.hw.jp
                    rw [f3.1, f3.2] at this
                    exact this.mono fun _ _ hm => ⟨hm.1, h.same hm.2, hm.2.2⟩
                  have K4 : Hid (∀ W9, Ap w W9 S p tb P W e3 (k + 1) (k : Int) → Calls Try.prog 12 #[.pointer (some ⟨p, 0, none⟩), .int .i64 0] W9 fun r w9 => r = .returned (.agg #[.bool true, .int .i64 vr, .int .i64 vm, .int .i64 (vn + 1), .bool vc]) ∧ Ap w w9 S p tb P W e3 (k + 1) (k : Int) ∧ But No W9 w9) := fun W9 h => by have := state1 p e3 S W9 h.hw.jp; rw [hst3] at this; exact this.mono fun _ _ hm => ⟨hm.1, h.no hm.2, hm.2⟩
                  have ha3 : e3.a = true := by rw [← he3]; exact hva
                  have K5 : Hid (∀ W9, Ap w W9 S p tb P W e3 (k + 1) (k : Int) → Calls Try.prog 14 #[.pointer (some ⟨p, 0, none⟩), .int .i64 0] W9 fun r w9 => r = .returned (.bool true) ∧ Rel w w9 p tb P W (k + 1) (k : Int)) := fun W9 h => by have := over1 p e3 S W9 h.hw.jp; rw [ha3] at this; exact this.mono fun _ _ hm => ⟨hm.1, ⟨S, _, h.over hm.2⟩⟩
                  have g0 := HF2.out.n0
                  have g1 := HF2.out.nm
                  have g2 := HF2.out.mW
                  rw [HW2.out] at g2
                  rw [hvn] at g0 g1 hN hB
                  rw [hvm] at g1 g2 hN hB
                  have v30 : vn ≤ 30 := by omega
                  have t1 : decide (vn < vm) = true := by simp; omega
                  have t2 : decide (W < vn + 1) = false := by simp; omega
                  have t3 : decide (W < vm) = false := by simp; omega
                  have t4 : (vn + 1 == vm) = true := by simpa using hB
                  clear hA hvr hvc hvn hvm hva hst hst3 he3 g1 g2 hN hB HF2 HZ2 HW2 HW3 ha3
                  refine (C1.out _ HP1.out).mono ?_
                  rintro e wz ⟨rfl, rfl⟩
                  go_wp2_with (first | (go_at_call 11; ((with_reducible refine (HM5.out _ HP1.out).mono ?_); rintro e wz ⟨rfl, hz⟩; have HP2 := Lib.hid hz; have tc0 := hz.bx.cell (o := 0) rfl; clear hz)) | (go_at_call 12; ((with_reducible refine (K1.out _ HP2.out).mono ?_); rintro e wb ⟨rfl, hz⟩; have HB := Lib.hid (hz.no ((But.refl No wb).alloc (.cells #[.bool true, .int .i64 vr, .int .i64 vm, .int .i64 vn, .bool vc] 35))); have BX := Lib.hid (Blk.new wb #[.bool true, .int .i64 vr, .int .i64 vm, .int .i64 vn, .bool vc] 35); have NB : Hid (¬ S wb.heap.size) := fun hs => absurd (hz.hw.jp.lt _ hs) (Nat.lt_irrefl _); clear hz HP2)) | (go_at_call 13; ((with_reducible refine (KW1.out _ HB.out).mono ?_); rintro e wc ⟨rfl, hz, hbb⟩; have HC := Lib.hid hz; have BX2 := Lib.hid (BX.out.but hbb NB.out); clear hz hbb HB BX)) | (go_at_call 13; ((with_reducible refine (KW2.out _ HC.out).mono ?_); rintro e wd ⟨rfl, hz, hbb⟩; have HDD := Lib.hid hz; have BX3 := Lib.hid (BX2.out.but hbb NB.out); clear hz hbb HC BX2)) | (go_at_call 12; ((with_reducible refine (K4.out _ HDD.out).mono ?_); rintro e we ⟨rfl, hz, hbb⟩; have HE9 := Lib.hid (hz.no ((But.refl No we).alloc (.cells #[.bool true, .int .i64 vr, .int .i64 vm, .int .i64 (vn + 1), .bool vc] 35))); obtain ⟨j0, j1, j2, j3, j4⟩ := cells5 ((BX3.out.but hbb (fun f => f)).alloc (.cells #[.bool true, .int .i64 vr, .int .i64 vm, .int .i64 (vn + 1), .bool vc] 35)); obtain ⟨l0, l1, l2, l3, l4⟩ := cells5 (Blk.new we #[.bool true, .int .i64 vr, .int .i64 vm, .int .i64 (vn + 1), .bool vc] 35); have tc0 := HE9.out.bx.cell (o := 0) rfl; have tc2 := HE9.out.bx.cell (o := 2) rfl; clear hz hbb HDD BX3)) | (go_at_call 14; ((with_reducible refine (K5.out _ HE9.out).mono ?_); rintro e wf ⟨rfl, hz⟩; have HF9 := Lib.hid hz; clear hz)))
                  go_roundw
                  case rel => exact ⟨k + 1, _, by go_num, rfl, by omega, by omega, HF9⟩
                  case measure => simp [intOf]; omega
                · obtain ⟨vr, hvr⟩ : ∃ y, e2.r = y := ⟨_, rfl⟩
                  obtain ⟨vc, hvc⟩ : ∃ y, e2.c = y := ⟨_, rfl⟩
                  obtain ⟨vn, hvn⟩ : ∃ y, e2.n = y := ⟨_, rfl⟩
                  obtain ⟨vm, hvm⟩ : ∃ y, e2.m = y := ⟨_, rfl⟩
                  have hva : e2.a = true := hA
                  have hst : stv e2 = .agg #[.bool true, .int .i64 vr, .int .i64 vm, .int .i64 vn, .bool vc] := by unfold stv; rw [hva, hvr, hvm, hvn, hvc]
                  obtain ⟨e3, he3⟩ : ∃ y, ({ e2 with n := e2.n + 1, k := (k : Int) } : En) = y := ⟨_, rfl⟩
                  have hst3 : stv e3 = .agg #[.bool true, .int .i64 vr, .int .i64 vm, .int .i64 (vn + 1), .bool vc] := by rw [← he3]; unfold stv; show Value.agg #[.bool e2.a, .int .i64 e2.r, .int .i64 e2.m, .int .i64 (e2.n + 1), .bool e2.c] = _; rw [hva, hvr, hvm, hvn, hvc]
                  have K1 : Hid (∀ W9, Ap w W9 S p tb P W e2 k (k : Int) → Calls Try.prog 12 #[.pointer (some ⟨p, 0, none⟩), .int .i64 0] W9 fun r w9 => r = .returned (.agg #[.bool true, .int .i64 vr, .int .i64 vm, .int .i64 vn, .bool vc]) ∧ Ap w w9 S p tb P W e2 k (k : Int)) := fun W9 h => by have := state1 p e2 S W9 h.hw.jp; rw [hst] at this; exact this.mono fun _ _ hm => ⟨hm.1, h.no hm.2⟩
                  have KW1 : Hid (∀ W9, Ap w W9 S p tb P W e2 k (k : Int) → Calls Try.prog 13 #[.pointer (some ⟨p, 0, none⟩), .int .i64 0, .int .i64 k] W9 fun r w9 => r = .returned (.bool true) ∧ Ap w w9 S p tb P W e3 (k + 1) (k : Int) ∧ But S W9 w9) := fun W9 h => by
                    obtain ⟨f1, f2, _, _⟩ := h.work_yes (by omega) hva hN
                    have := work1 p e2 S W9 k h.hw.jp
                    rw [f1, f2] at this
                    exact this.mono fun _ _ hm => ⟨hm.1, by rw [← he3]; exact h.worked hva hm.2, hm.2.2⟩
                  have KW2 : Hid (∀ W9, Ap w W9 S p tb P W e3 (k + 1) (k : Int) → Calls Try.prog 13 #[.pointer (some ⟨p, 0, none⟩), .int .i64 0, .int .i64 k] W9 fun r w9 => r = .returned (.bool false) ∧ Ap w w9 S p tb P W e3 (k + 1) (k : Int) ∧ But S W9 w9) := fun W9 h => by
                    have f3 : wrkB e3 k = false ∧ wrkE e3 k = e3 := by rw [← he3]; exact HW3.out hva hN
                    have := work1 p e3 S W9 k h.hw.jp
                    rw [f3.1, f3.2] at this
                    exact this.mono fun _ _ hm => ⟨hm.1, h.same hm.2, hm.2.2⟩
                  have K4 : Hid (∀ W9, Ap w W9 S p tb P W e3 (k + 1) (k : Int) → Calls Try.prog 12 #[.pointer (some ⟨p, 0, none⟩), .int .i64 0] W9 fun r w9 => r = .returned (.agg #[.bool true, .int .i64 vr, .int .i64 vm, .int .i64 (vn + 1), .bool vc]) ∧ Ap w w9 S p tb P W e3 (k + 1) (k : Int) ∧ But No W9 w9) := fun W9 h => by have := state1 p e3 S W9 h.hw.jp; rw [hst3] at this; exact this.mono fun _ _ hm => ⟨hm.1, h.no hm.2, hm.2⟩
                  have g0 := HF2.out.n0
                  have g1 := HF2.out.nm
                  have g2 := HF2.out.mW
                  rw [HW2.out] at g2
                  rw [hvn] at g0 g1 hN hB
                  rw [hvm] at g1 g2 hN hB
                  have v30 : vn ≤ 30 := by omega
                  have t1 : decide (vn < vm) = true := by simp; omega
                  have t2 : decide (W < vn + 1) = false := by simp; omega
                  have t3 : decide (W < vm) = false := by simp; omega
                  have t4 : (vn + 1 == vm) = false := by simpa using hB
                  clear hA hvr hvc hvn hvm hva hst hst3 he3 g1 g2 hN hB HF2 HZ2 HW2 HW3
                  refine (C1.out _ HP1.out).mono ?_
                  rintro e wz ⟨rfl, rfl⟩
                  go_wp2_with (first | (go_at_call 11; ((with_reducible refine (HM5.out _ HP1.out).mono ?_); rintro e wz ⟨rfl, hz⟩; have HP2 := Lib.hid hz; have tc0 := hz.bx.cell (o := 0) rfl; clear hz)) | (go_at_call 12; ((with_reducible refine (K1.out _ HP2.out).mono ?_); rintro e wb ⟨rfl, hz⟩; have HB := Lib.hid (hz.no ((But.refl No wb).alloc (.cells #[.bool true, .int .i64 vr, .int .i64 vm, .int .i64 vn, .bool vc] 35))); have BX := Lib.hid (Blk.new wb #[.bool true, .int .i64 vr, .int .i64 vm, .int .i64 vn, .bool vc] 35); have NB : Hid (¬ S wb.heap.size) := fun hs => absurd (hz.hw.jp.lt _ hs) (Nat.lt_irrefl _); clear hz HP2)) | (go_at_call 13; ((with_reducible refine (KW1.out _ HB.out).mono ?_); rintro e wc ⟨rfl, hz, hbb⟩; have HC := Lib.hid hz; have BX2 := Lib.hid (BX.out.but hbb NB.out); clear hz hbb HB BX)) | (go_at_call 13; ((with_reducible refine (KW2.out _ HC.out).mono ?_); rintro e wd ⟨rfl, hz, hbb⟩; have HDD := Lib.hid hz; have BX3 := Lib.hid (BX2.out.but hbb NB.out); clear hz hbb HC BX2)) | (go_at_call 12; ((with_reducible refine (K4.out _ HDD.out).mono ?_); rintro e we ⟨rfl, hz, hbb⟩; have HE9 := Lib.hid (hz.no ((But.refl No we).alloc (.cells #[.bool true, .int .i64 vr, .int .i64 vm, .int .i64 (vn + 1), .bool vc] 35))); obtain ⟨j0, j1, j2, j3, j4⟩ := cells5 ((BX3.out.but hbb (fun f => f)).alloc (.cells #[.bool true, .int .i64 vr, .int .i64 vm, .int .i64 (vn + 1), .bool vc] 35)); obtain ⟨l0, l1, l2, l3, l4⟩ := cells5 (Blk.new we #[.bool true, .int .i64 vr, .int .i64 vm, .int .i64 (vn + 1), .bool vc] 35); have tc0 := HE9.out.bx.cell (o := 0) rfl; have tc2 := HE9.out.bx.cell (o := 2) rfl; clear hz hbb HDD BX3)))
                  go_roundw
                  case rel => exact ⟨k + 1, _, by go_num, rfl, by omega, by omega, (⟨S, _, HE9.out⟩ : Rel w _ p tb P W (k + 1) (k : Int))⟩
                  case measure => simp [intOf]; omega
            · skip
              exact absurd HA2.out hA
        · have C1 : Hid (∀ W9, Ap w W9 S p tb P W e1 k la → Calls Try.prog 10 #[.pointer (some ⟨p, 0, none⟩), .int .i64 0, .int .i64 k] W9 fun r w9 => r = .returned (.int .i64 (nxt e1 k)) ∧ W9 = w9) := fun W9 h => next1 p e1 S W9 k h.hw.jp
          have be : (nxt e1 k == (k : Int)) = false := by simpa using hnx
          generalize nxt e1 k = y at C1 be
          obtain ⟨e2, he2⟩ : ∃ y, e1 = y := ⟨_, rfl⟩
          obtain ⟨la2, hla2⟩ : ∃ y : Int, la = y := ⟨_, rfl⟩
          have HF2 := Lib.hid HP1.out.fit
          have HZ2 := Lib.hid HP1.out.az
          have HW2 := Lib.hid HP1.out.eW
          have HP2 := Lib.hid HP1.out
          rw [he2] at HF2 HZ2 HW2 HP2
          replace HW3 := Lib.hid (HW3.out e2)
          subst hla2
          obtain ⟨la2, hla2⟩ : ∃ y : Int, y = la := ⟨_, rfl⟩
          rw [← hla2] at HP2 HP1 C1
          subst hla2
          clear hnx he2
          by_cases hA : e2.a = true
          · by_cases hN : e2.n = e2.m
            · obtain ⟨vr, hvr⟩ : ∃ y, e2.r = y := ⟨_, rfl⟩
              obtain ⟨vc, hvc⟩ : ∃ y, e2.c = y := ⟨_, rfl⟩
              obtain ⟨vn, hvn⟩ : ∃ y, e2.n = y := ⟨_, rfl⟩
              have hva : e2.a = true := hA
              have hvm : e2.m = vn := by rw [← hN]; exact hvn
              have hst : stv e2 = .agg #[.bool true, .int .i64 vr, .int .i64 vn, .int .i64 vn, .bool vc] := by unfold stv; rw [hva, hvr, hvm, hvn, hvc]
              obtain ⟨e3, he3⟩ : ∃ y, e2 = y := ⟨_, rfl⟩
              have hst3 : stv e3 = .agg #[.bool true, .int .i64 vr, .int .i64 vn, .int .i64 vn, .bool vc] := by rw [← he3]; exact hst
              have K1 : Hid (∀ W9, Ap w W9 S p tb P W e2 k la2 → Calls Try.prog 12 #[.pointer (some ⟨p, 0, none⟩), .int .i64 0] W9 fun r w9 => r = .returned (.agg #[.bool true, .int .i64 vr, .int .i64 vn, .int .i64 vn, .bool vc]) ∧ Ap w w9 S p tb P W e2 k la2) := fun W9 h => by have := state1 p e2 S W9 h.hw.jp; rw [hst] at this; exact this.mono fun _ _ hm => ⟨hm.1, h.no hm.2⟩
              have f3 : wrkB e2 k = false ∧ wrkE e2 k = e2 := Ap.work_no (.inr hN)
              have KW1 : Hid (∀ W9, Ap w W9 S p tb P W e2 k la2 → Calls Try.prog 13 #[.pointer (some ⟨p, 0, none⟩), .int .i64 0, .int .i64 k] W9 fun r w9 => r = .returned (.bool false) ∧ Ap w w9 S p tb P W e3 (k + 1) la2 ∧ But S W9 w9) := fun W9 h => by
                have := work1 p e2 S W9 k h.hw.jp
                rw [f3.1, f3.2] at this
                exact this.mono fun _ _ hm => ⟨hm.1, by rw [← he3]; exact h.kept hm.2, hm.2.2⟩
              have KW2 : Hid (∀ W9, Ap w W9 S p tb P W e3 (k + 1) la2 → Calls Try.prog 13 #[.pointer (some ⟨p, 0, none⟩), .int .i64 0, .int .i64 k] W9 fun r w9 => r = .returned (.bool false) ∧ Ap w w9 S p tb P W e3 (k + 1) la2 ∧ But S W9 w9) := fun W9 h => by
                have := work1 p e3 S W9 k h.hw.jp
                rw [← he3, f3.1, f3.2] at this
                exact this.mono fun _ _ hm => ⟨hm.1, h.same (by rw [← he3]; exact hm.2), hm.2.2⟩
              have K4 : Hid (∀ W9, Ap w W9 S p tb P W e3 (k + 1) la2 → Calls Try.prog 12 #[.pointer (some ⟨p, 0, none⟩), .int .i64 0] W9 fun r w9 => r = .returned (.agg #[.bool true, .int .i64 vr, .int .i64 vn, .int .i64 vn, .bool vc]) ∧ Ap w w9 S p tb P W e3 (k + 1) la2 ∧ But No W9 w9) := fun W9 h => by have := state1 p e3 S W9 h.hw.jp; rw [hst3] at this; exact this.mono fun _ _ hm => ⟨hm.1, h.no hm.2, hm.2⟩
              have ha3 : e3.a = true := by rw [← he3]; exact hva
              have K5 : Hid (∀ W9, Ap w W9 S p tb P W e3 (k + 1) la2 → Calls Try.prog 14 #[.pointer (some ⟨p, 0, none⟩), .int .i64 0] W9 fun r w9 => r = .returned (.bool true) ∧ Rel w w9 p tb P W (k + 1) la2) := fun W9 h => by have := over1 p e3 S W9 h.hw.jp; rw [ha3] at this; exact this.mono fun _ _ hm => ⟨hm.1, ⟨S, _, h.over hm.2⟩⟩
              have g0 := HF2.out.n0
              have g1 := HF2.out.nm
              have g2 := HF2.out.mW
              rw [HW2.out] at g2
              rw [hvn] at g0
              rw [hvm] at g2
              have t1 : decide (vn < vn) = false := by simp
              have t2 : decide (W < vn) = false := by simp; omega
              clear hA hvr hvc hvn hvm hva hst hst3 he3 g1 g2 hN f3 HF2 HZ2 HW2 HW3 ha3
              refine (C1.out _ HP1.out).mono ?_
              rintro e wz ⟨rfl, rfl⟩
              go_wp2_with (first | (go_at_call 12; ((with_reducible refine (K1.out _ HP2.out).mono ?_); rintro e wb ⟨rfl, hz⟩; have HB := Lib.hid (hz.no ((But.refl No wb).alloc (.cells #[.bool true, .int .i64 vr, .int .i64 vn, .int .i64 vn, .bool vc] 35))); have BX := Lib.hid (Blk.new wb #[.bool true, .int .i64 vr, .int .i64 vn, .int .i64 vn, .bool vc] 35); have NB : Hid (¬ S wb.heap.size) := fun hs => absurd (hz.hw.jp.lt _ hs) (Nat.lt_irrefl _); clear hz HP2)) | (go_at_call 13; ((with_reducible refine (KW1.out _ HB.out).mono ?_); rintro e wc ⟨rfl, hz, hbb⟩; have HC := Lib.hid hz; have BX2 := Lib.hid (BX.out.but hbb NB.out); clear hz hbb HB BX)) | (go_at_call 13; ((with_reducible refine (KW2.out _ HC.out).mono ?_); rintro e wd ⟨rfl, hz, hbb⟩; have HDD := Lib.hid hz; have BX3 := Lib.hid (BX2.out.but hbb NB.out); clear hz hbb HC BX2)) | (go_at_call 12; ((with_reducible refine (K4.out _ HDD.out).mono ?_); rintro e we ⟨rfl, hz, hbb⟩; have HE9 := Lib.hid (hz.no ((But.refl No we).alloc (.cells #[.bool true, .int .i64 vr, .int .i64 vn, .int .i64 vn, .bool vc] 35))); obtain ⟨j0, j1, j2, j3, j4⟩ := cells5 ((BX3.out.but hbb (fun f => f)).alloc (.cells #[.bool true, .int .i64 vr, .int .i64 vn, .int .i64 vn, .bool vc] 35)); obtain ⟨l0, l1, l2, l3, l4⟩ := cells5 (Blk.new we #[.bool true, .int .i64 vr, .int .i64 vn, .int .i64 vn, .bool vc] 35); have tc0 := HE9.out.bx.cell (o := 0) rfl; have tc2 := HE9.out.bx.cell (o := 2) rfl; clear hz hbb HDD BX3)) | (go_at_call 14; ((with_reducible refine (K5.out _ HE9.out).mono ?_); rintro e wf ⟨rfl, hz⟩; have HF9 := Lib.hid hz; clear hz)))
              go_roundw
              case rel => exact ⟨k + 1, _, by go_num, rfl, by omega, by omega, HF9⟩
              case measure => simp [intOf]; omega
            · by_cases hB : e2.n + 1 = e2.m
              · obtain ⟨vr, hvr⟩ : ∃ y, e2.r = y := ⟨_, rfl⟩
                obtain ⟨vc, hvc⟩ : ∃ y, e2.c = y := ⟨_, rfl⟩
                obtain ⟨vn, hvn⟩ : ∃ y, e2.n = y := ⟨_, rfl⟩
                obtain ⟨vm, hvm⟩ : ∃ y, e2.m = y := ⟨_, rfl⟩
                have hva : e2.a = true := hA
                have hst : stv e2 = .agg #[.bool true, .int .i64 vr, .int .i64 vm, .int .i64 vn, .bool vc] := by unfold stv; rw [hva, hvr, hvm, hvn, hvc]
                obtain ⟨e3, he3⟩ : ∃ y, ({ e2 with n := e2.n + 1, k := (k : Int) } : En) = y := ⟨_, rfl⟩
                have hst3 : stv e3 = .agg #[.bool true, .int .i64 vr, .int .i64 vm, .int .i64 (vn + 1), .bool vc] := by rw [← he3]; unfold stv; show Value.agg #[.bool e2.a, .int .i64 e2.r, .int .i64 e2.m, .int .i64 (e2.n + 1), .bool e2.c] = _; rw [hva, hvr, hvm, hvn, hvc]
                have K1 : Hid (∀ W9, Ap w W9 S p tb P W e2 k la2 → Calls Try.prog 12 #[.pointer (some ⟨p, 0, none⟩), .int .i64 0] W9 fun r w9 => r = .returned (.agg #[.bool true, .int .i64 vr, .int .i64 vm, .int .i64 vn, .bool vc]) ∧ Ap w w9 S p tb P W e2 k la2) := fun W9 h => by have := state1 p e2 S W9 h.hw.jp; rw [hst] at this; exact this.mono fun _ _ hm => ⟨hm.1, h.no hm.2⟩
                have KW1 : Hid (∀ W9, Ap w W9 S p tb P W e2 k la2 → Calls Try.prog 13 #[.pointer (some ⟨p, 0, none⟩), .int .i64 0, .int .i64 k] W9 fun r w9 => r = .returned (.bool true) ∧ Ap w w9 S p tb P W e3 (k + 1) la2 ∧ But S W9 w9) := fun W9 h => by
                  obtain ⟨f1, f2, _, _⟩ := h.work_yes (by omega) hva hN
                  have := work1 p e2 S W9 k h.hw.jp
                  rw [f1, f2] at this
                  exact this.mono fun _ _ hm => ⟨hm.1, by rw [← he3]; exact h.worked hva hm.2, hm.2.2⟩
                have KW2 : Hid (∀ W9, Ap w W9 S p tb P W e3 (k + 1) la2 → Calls Try.prog 13 #[.pointer (some ⟨p, 0, none⟩), .int .i64 0, .int .i64 k] W9 fun r w9 => r = .returned (.bool false) ∧ Ap w w9 S p tb P W e3 (k + 1) la2 ∧ But S W9 w9) := fun W9 h => by
                  have f3 : wrkB e3 k = false ∧ wrkE e3 k = e3 := by rw [← he3]; exact HW3.out hva hN
                  have := work1 p e3 S W9 k h.hw.jp
                  rw [f3.1, f3.2] at this
                  exact this.mono fun _ _ hm => ⟨hm.1, h.same hm.2, hm.2.2⟩
                have K4 : Hid (∀ W9, Ap w W9 S p tb P W e3 (k + 1) la2 → Calls Try.prog 12 #[.pointer (some ⟨p, 0, none⟩), .int .i64 0] W9 fun r w9 => r = .returned (.agg #[.bool true, .int .i64 vr, .int .i64 vm, .int .i64 (vn + 1), .bool vc]) ∧ Ap w w9 S p tb P W e3 (k + 1) la2 ∧ But No W9 w9) := fun W9 h => by have := state1 p e3 S W9 h.hw.jp; rw [hst3] at this; exact this.mono fun _ _ hm => ⟨hm.1, h.no hm.2, hm.2⟩
                have ha3 : e3.a = true := by rw [← he3]; exact hva
                have K5 : Hid (∀ W9, Ap w W9 S p tb P W e3 (k + 1) la2 → Calls Try.prog 14 #[.pointer (some ⟨p, 0, none⟩), .int .i64 0] W9 fun r w9 => r = .returned (.bool true) ∧ Rel w w9 p tb P W (k + 1) la2) := fun W9 h => by have := over1 p e3 S W9 h.hw.jp; rw [ha3] at this; exact this.mono fun _ _ hm => ⟨hm.1, ⟨S, _, h.over hm.2⟩⟩
                have g0 := HF2.out.n0
                have g1 := HF2.out.nm
                have g2 := HF2.out.mW
                rw [HW2.out] at g2
                rw [hvn] at g0 g1 hN hB
                rw [hvm] at g1 g2 hN hB
                have v30 : vn ≤ 30 := by omega
                have t1 : decide (vn < vm) = true := by simp; omega
                have t2 : decide (W < vn + 1) = false := by simp; omega
                have t3 : decide (W < vm) = false := by simp; omega
                have t4 : (vn + 1 == vm) = true := by simpa using hB
                clear hA hvr hvc hvn hvm hva hst hst3 he3 g1 g2 hN hB HF2 HZ2 HW2 HW3 ha3
                refine (C1.out _ HP1.out).mono ?_
                rintro e wz ⟨rfl, rfl⟩
                go_wp2_with (first | (go_at_call 12; ((with_reducible refine (K1.out _ HP2.out).mono ?_); rintro e wb ⟨rfl, hz⟩; have HB := Lib.hid (hz.no ((But.refl No wb).alloc (.cells #[.bool true, .int .i64 vr, .int .i64 vm, .int .i64 vn, .bool vc] 35))); have BX := Lib.hid (Blk.new wb #[.bool true, .int .i64 vr, .int .i64 vm, .int .i64 vn, .bool vc] 35); have NB : Hid (¬ S wb.heap.size) := fun hs => absurd (hz.hw.jp.lt _ hs) (Nat.lt_irrefl _); clear hz HP2)) | (go_at_call 13; ((with_reducible refine (KW1.out _ HB.out).mono ?_); rintro e wc ⟨rfl, hz, hbb⟩; have HC := Lib.hid hz; have BX2 := Lib.hid (BX.out.but hbb NB.out); clear hz hbb HB BX)) | (go_at_call 13; ((with_reducible refine (KW2.out _ HC.out).mono ?_); rintro e wd ⟨rfl, hz, hbb⟩; have HDD := Lib.hid hz; have BX3 := Lib.hid (BX2.out.but hbb NB.out); clear hz hbb HC BX2)) | (go_at_call 12; ((with_reducible refine (K4.out _ HDD.out).mono ?_); rintro e we ⟨rfl, hz, hbb⟩; have HE9 := Lib.hid (hz.no ((But.refl No we).alloc (.cells #[.bool true, .int .i64 vr, .int .i64 vm, .int .i64 (vn + 1), .bool vc] 35))); obtain ⟨j0, j1, j2, j3, j4⟩ := cells5 ((BX3.out.but hbb (fun f => f)).alloc (.cells #[.bool true, .int .i64 vr, .int .i64 vm, .int .i64 (vn + 1), .bool vc] 35)); obtain ⟨l0, l1, l2, l3, l4⟩ := cells5 (Blk.new we #[.bool true, .int .i64 vr, .int .i64 vm, .int .i64 (vn + 1), .bool vc] 35); have tc0 := HE9.out.bx.cell (o := 0) rfl; have tc2 := HE9.out.bx.cell (o := 2) rfl; clear hz hbb HDD BX3)) | (go_at_call 14; ((with_reducible refine (K5.out _ HE9.out).mono ?_); rintro e wf ⟨rfl, hz⟩; have HF9 := Lib.hid hz; clear hz)))
                go_roundw
                case rel => exact ⟨k + 1, _, by go_num, rfl, by omega, by omega, HF9⟩
                case measure => simp [intOf]; omega
              · obtain ⟨vr, hvr⟩ : ∃ y, e2.r = y := ⟨_, rfl⟩
                obtain ⟨vc, hvc⟩ : ∃ y, e2.c = y := ⟨_, rfl⟩
                obtain ⟨vn, hvn⟩ : ∃ y, e2.n = y := ⟨_, rfl⟩
                obtain ⟨vm, hvm⟩ : ∃ y, e2.m = y := ⟨_, rfl⟩
                have hva : e2.a = true := hA
                have hst : stv e2 = .agg #[.bool true, .int .i64 vr, .int .i64 vm, .int .i64 vn, .bool vc] := by unfold stv; rw [hva, hvr, hvm, hvn, hvc]
                obtain ⟨e3, he3⟩ : ∃ y, ({ e2 with n := e2.n + 1, k := (k : Int) } : En) = y := ⟨_, rfl⟩
                have hst3 : stv e3 = .agg #[.bool true, .int .i64 vr, .int .i64 vm, .int .i64 (vn + 1), .bool vc] := by rw [← he3]; unfold stv; show Value.agg #[.bool e2.a, .int .i64 e2.r, .int .i64 e2.m, .int .i64 (e2.n + 1), .bool e2.c] = _; rw [hva, hvr, hvm, hvn, hvc]
                have K1 : Hid (∀ W9, Ap w W9 S p tb P W e2 k la2 → Calls Try.prog 12 #[.pointer (some ⟨p, 0, none⟩), .int .i64 0] W9 fun r w9 => r = .returned (.agg #[.bool true, .int .i64 vr, .int .i64 vm, .int .i64 vn, .bool vc]) ∧ Ap w w9 S p tb P W e2 k la2) := fun W9 h => by have := state1 p e2 S W9 h.hw.jp; rw [hst] at this; exact this.mono fun _ _ hm => ⟨hm.1, h.no hm.2⟩
                have KW1 : Hid (∀ W9, Ap w W9 S p tb P W e2 k la2 → Calls Try.prog 13 #[.pointer (some ⟨p, 0, none⟩), .int .i64 0, .int .i64 k] W9 fun r w9 => r = .returned (.bool true) ∧ Ap w w9 S p tb P W e3 (k + 1) la2 ∧ But S W9 w9) := fun W9 h => by
                  obtain ⟨f1, f2, _, _⟩ := h.work_yes (by omega) hva hN
                  have := work1 p e2 S W9 k h.hw.jp
                  rw [f1, f2] at this
                  exact this.mono fun _ _ hm => ⟨hm.1, by rw [← he3]; exact h.worked hva hm.2, hm.2.2⟩
                have KW2 : Hid (∀ W9, Ap w W9 S p tb P W e3 (k + 1) la2 → Calls Try.prog 13 #[.pointer (some ⟨p, 0, none⟩), .int .i64 0, .int .i64 k] W9 fun r w9 => r = .returned (.bool false) ∧ Ap w w9 S p tb P W e3 (k + 1) la2 ∧ But S W9 w9) := fun W9 h => by
                  have f3 : wrkB e3 k = false ∧ wrkE e3 k = e3 := by rw [← he3]; exact HW3.out hva hN
                  have := work1 p e3 S W9 k h.hw.jp
                  rw [f3.1, f3.2] at this
                  exact this.mono fun _ _ hm => ⟨hm.1, h.same hm.2, hm.2.2⟩
                have K4 : Hid (∀ W9, Ap w W9 S p tb P W e3 (k + 1) la2 → Calls Try.prog 12 #[.pointer (some ⟨p, 0, none⟩), .int .i64 0] W9 fun r w9 => r = .returned (.agg #[.bool true, .int .i64 vr, .int .i64 vm, .int .i64 (vn + 1), .bool vc]) ∧ Ap w w9 S p tb P W e3 (k + 1) la2 ∧ But No W9 w9) := fun W9 h => by have := state1 p e3 S W9 h.hw.jp; rw [hst3] at this; exact this.mono fun _ _ hm => ⟨hm.1, h.no hm.2, hm.2⟩
                have g0 := HF2.out.n0
                have g1 := HF2.out.nm
                have g2 := HF2.out.mW
                rw [HW2.out] at g2
                rw [hvn] at g0 g1 hN hB
                rw [hvm] at g1 g2 hN hB
                have v30 : vn ≤ 30 := by omega
                have t1 : decide (vn < vm) = true := by simp; omega
                have t2 : decide (W < vn + 1) = false := by simp; omega
                have t3 : decide (W < vm) = false := by simp; omega
                have t4 : (vn + 1 == vm) = false := by simpa using hB
                clear hA hvr hvc hvn hvm hva hst hst3 he3 g1 g2 hN hB HF2 HZ2 HW2 HW3
                refine (C1.out _ HP1.out).mono ?_
                rintro e wz ⟨rfl, rfl⟩
                go_wp2_with (first | (go_at_call 12; ((with_reducible refine (K1.out _ HP2.out).mono ?_); rintro e wb ⟨rfl, hz⟩; have HB := Lib.hid (hz.no ((But.refl No wb).alloc (.cells #[.bool true, .int .i64 vr, .int .i64 vm, .int .i64 vn, .bool vc] 35))); have BX := Lib.hid (Blk.new wb #[.bool true, .int .i64 vr, .int .i64 vm, .int .i64 vn, .bool vc] 35); have NB : Hid (¬ S wb.heap.size) := fun hs => absurd (hz.hw.jp.lt _ hs) (Nat.lt_irrefl _); clear hz HP2)) | (go_at_call 13; ((with_reducible refine (KW1.out _ HB.out).mono ?_); rintro e wc ⟨rfl, hz, hbb⟩; have HC := Lib.hid hz; have BX2 := Lib.hid (BX.out.but hbb NB.out); clear hz hbb HB BX)) | (go_at_call 13; ((with_reducible refine (KW2.out _ HC.out).mono ?_); rintro e wd ⟨rfl, hz, hbb⟩; have HDD := Lib.hid hz; have BX3 := Lib.hid (BX2.out.but hbb NB.out); clear hz hbb HC BX2)) | (go_at_call 12; ((with_reducible refine (K4.out _ HDD.out).mono ?_); rintro e we ⟨rfl, hz, hbb⟩; have HE9 := Lib.hid (hz.no ((But.refl No we).alloc (.cells #[.bool true, .int .i64 vr, .int .i64 vm, .int .i64 (vn + 1), .bool vc] 35))); obtain ⟨j0, j1, j2, j3, j4⟩ := cells5 ((BX3.out.but hbb (fun f => f)).alloc (.cells #[.bool true, .int .i64 vr, .int .i64 vm, .int .i64 (vn + 1), .bool vc] 35)); obtain ⟨l0, l1, l2, l3, l4⟩ := cells5 (Blk.new we #[.bool true, .int .i64 vr, .int .i64 vm, .int .i64 (vn + 1), .bool vc] 35); have tc0 := HE9.out.bx.cell (o := 0) rfl; have tc2 := HE9.out.bx.cell (o := 2) rfl; clear hz hbb HDD BX3)))
                go_roundw
                case rel => exact ⟨k + 1, _, by go_num, rfl, by omega, by omega, (⟨S, _, HE9.out⟩ : Rel w _ p tb P W (k + 1) la2)⟩
                case measure => simp [intOf]; omega
          · skip
            obtain ⟨vr, hvr⟩ : ∃ y, e2.r = y := ⟨_, rfl⟩
            obtain ⟨vc, hvc⟩ : ∃ y, e2.c = y := ⟨_, rfl⟩
            have hva : e2.a = false := by simpa using hA
            have hvn := (HZ2.out hva).1
            have hvm := (HZ2.out hva).2
            have hst : stv e2 = .agg #[.bool false, .int .i64 vr, .int .i64 0, .int .i64 0, .bool vc] := by unfold stv; rw [hva, hvr, hvm, hvn, hvc]
            obtain ⟨e3, he3⟩ : ∃ y, e2 = y := ⟨_, rfl⟩
            have hst3 : stv e3 = .agg #[.bool false, .int .i64 vr, .int .i64 0, .int .i64 0, .bool vc] := by rw [← he3]; exact hst
            have K1 : Hid (∀ W9, Ap w W9 S p tb P W e2 k la2 → Calls Try.prog 12 #[.pointer (some ⟨p, 0, none⟩), .int .i64 0] W9 fun r w9 => r = .returned (.agg #[.bool false, .int .i64 vr, .int .i64 0, .int .i64 0, .bool vc]) ∧ Ap w w9 S p tb P W e2 k la2) := fun W9 h => by have := state1 p e2 S W9 h.hw.jp; rw [hst] at this; exact this.mono fun _ _ hm => ⟨hm.1, h.no hm.2⟩
            have f3 : wrkB e2 k = false ∧ wrkE e2 k = e2 := Ap.work_no (.inl hva)
            have KW1 : Hid (∀ W9, Ap w W9 S p tb P W e2 k la2 → Calls Try.prog 13 #[.pointer (some ⟨p, 0, none⟩), .int .i64 0, .int .i64 k] W9 fun r w9 => r = .returned (.bool false) ∧ Ap w w9 S p tb P W e3 (k + 1) la2 ∧ But S W9 w9) := fun W9 h => by
              have := work1 p e2 S W9 k h.hw.jp
              rw [f3.1, f3.2] at this
              exact this.mono fun _ _ hm => ⟨hm.1, by rw [← he3]; exact h.kept hm.2, hm.2.2⟩
            have KW2 : Hid (∀ W9, Ap w W9 S p tb P W e3 (k + 1) la2 → Calls Try.prog 13 #[.pointer (some ⟨p, 0, none⟩), .int .i64 0, .int .i64 k] W9 fun r w9 => r = .returned (.bool false) ∧ Ap w w9 S p tb P W e3 (k + 1) la2 ∧ But S W9 w9) := fun W9 h => by
              have := work1 p e3 S W9 k h.hw.jp
              rw [← he3, f3.1, f3.2] at this
              exact this.mono fun _ _ hm => ⟨hm.1, h.same (by rw [← he3]; exact hm.2), hm.2.2⟩
            have K4 : Hid (∀ W9, Ap w W9 S p tb P W e3 (k + 1) la2 → Calls Try.prog 12 #[.pointer (some ⟨p, 0, none⟩), .int .i64 0] W9 fun r w9 => r = .returned (.agg #[.bool false, .int .i64 vr, .int .i64 0, .int .i64 0, .bool vc]) ∧ Ap w w9 S p tb P W e3 (k + 1) la2 ∧ But No W9 w9) := fun W9 h => by have := state1 p e3 S W9 h.hw.jp; rw [hst3] at this; exact this.mono fun _ _ hm => ⟨hm.1, h.no hm.2, hm.2⟩
            have g0 := HF2.out.n0
            have g1 := HF2.out.nm
            have g2 := HF2.out.mW
            rw [HW2.out] at g2
            have t2 : decide (W < 0) = false := by simp; omega
            clear hA hvr hvc hvn hvm hva hst hst3 he3 g1 g2 f3 HF2 HZ2 HW2 HW3
            refine (C1.out _ HP1.out).mono ?_
            rintro e wz ⟨rfl, rfl⟩
            go_wp2_with (first | (go_at_call 12; ((with_reducible refine (K1.out _ HP2.out).mono ?_); rintro e wb ⟨rfl, hz⟩; have HB := Lib.hid (hz.no ((But.refl No wb).alloc (.cells #[.bool false, .int .i64 vr, .int .i64 0, .int .i64 0, .bool vc] 35))); have BX := Lib.hid (Blk.new wb #[.bool false, .int .i64 vr, .int .i64 0, .int .i64 0, .bool vc] 35); have NB : Hid (¬ S wb.heap.size) := fun hs => absurd (hz.hw.jp.lt _ hs) (Nat.lt_irrefl _); clear hz HP2)) | (go_at_call 13; ((with_reducible refine (KW1.out _ HB.out).mono ?_); rintro e wc ⟨rfl, hz, hbb⟩; have HC := Lib.hid hz; have BX2 := Lib.hid (BX.out.but hbb NB.out); clear hz hbb HB BX)) | (go_at_call 13; ((with_reducible refine (KW2.out _ HC.out).mono ?_); rintro e wd ⟨rfl, hz, hbb⟩; have HDD := Lib.hid hz; have BX3 := Lib.hid (BX2.out.but hbb NB.out); clear hz hbb HC BX2)) | (go_at_call 12; ((with_reducible refine (K4.out _ HDD.out).mono ?_); rintro e we ⟨rfl, hz, hbb⟩; have HE9 := Lib.hid (hz.no ((But.refl No we).alloc (.cells #[.bool false, .int .i64 vr, .int .i64 0, .int .i64 0, .bool vc] 35))); obtain ⟨j0, j1, j2, j3, j4⟩ := cells5 ((BX3.out.but hbb (fun f => f)).alloc (.cells #[.bool false, .int .i64 vr, .int .i64 0, .int .i64 0, .bool vc] 35)); obtain ⟨l0, l1, l2, l3, l4⟩ := cells5 (Blk.new we #[.bool false, .int .i64 vr, .int .i64 0, .int .i64 0, .bool vc] 35); have tc0 := HE9.out.bx.cell (o := 0) rfl; have tc2 := HE9.out.bx.cell (o := 2) rfl; clear hz hbb HDD BX3)))
            go_roundw
            case rel => exact ⟨k + 1, _, by go_num, rfl, by omega, by omega, (⟨S, _, HE9.out⟩ : Rel w _ p tb P W (k + 1) la2)⟩
            case measure => simp [intOf]; omega
    · by_cases h1 : k < n
      · have h2 : ¬ k < 200 := fun h2 => hgo ⟨h1, h2⟩
        have kn' : (k : Int) < (n : Int) := by omega
        have b1 : decide ((k : Int) < (n : Int)) = true := by simp; omega
        have b2 : decide ((k : Int) < 200) = false := by simp; omega
        clear hgo
        go_wp2
        go_ret
        exact ⟨rfl, HP0.out.hw.but⟩
      · have b1 : decide ((k : Int) < (n : Int)) = false := by simp; omega
        clear hgo
        go_wp2
        go_ret
        exact ⟨rfl, HP0.out.hw.but⟩
end jobApart
end Go.Proofs.Ytekgnofmldpifaa
