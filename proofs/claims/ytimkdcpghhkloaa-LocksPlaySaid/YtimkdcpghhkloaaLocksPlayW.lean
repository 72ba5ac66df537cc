/- LocksPlay: the walk. -/
import Derived.Test.YtimkdcpghhkloaaR3
namespace Go.Proofs.Ytimkdcpghhkloaa.locksPlay
open Go.ChangeShapes Go.WideShapes Go.ChangeAt Go.RowKit Go.Deep Go.Proofs.Ytimkdcpghhkloaa
open Go.Proofs.Ytimkdcpghhkloaa.lok
def Bo (w0 w : World) (p x n : Nat) (k : Nat) : Prop := ∃ q, Duo w0 w p x n k q q No
theorem qi_len {w0 w : World} {p x n : Nat} {N : Int} {q q2 : Nat → List Int} {E : Nat → Prop} (h : Duo w0 w p x n N q q2 E) (res : Int) : (qi n q res).length ≤ 24 := by
  obtain ⟨_, S, S2, h1, _⟩ := h
  unfold qi
  split
  · exact h1.ok.len _
  · simp
set_option maxHeartbeats 16000000 in
set_option maxRecDepth 100000 in
theorem walk (res : Int) (_ : (Lit.int .i64 res).wf = true) (A : Option Addr) (n c : Nat) (kd di dk : Nat → Int) (w : World) (hd : RdD w A n kd di dk) :
    Calls Try.prog 3 #[.int .i64 res, .slice A n c] w fun e w' => e = .returned (.bool true) ∧ But No w w' := by
  have HD := Lib.hid hd
  have hmx := hd.max
  clear hd
  by_cases hp : 0 ≤ res ∧ res ≤ 8
  · obtain ⟨r, rfl⟩ : ∃ r : Nat, res = r := ⟨res.toNat, by omega⟩
    have r8 : r ≤ 8 := by omega
    clear hp
    go_enter Try.func3, Try.ntmps3
    go_wp2_with fail
    refine (examples_any w).mono ?_
    rintro e w1 ⟨rfl, hb1⟩
    have HB1 := Lib.hid hb1
    clear hb1
    go_wp2_with fail
    refine (new_ok r w1 r8).mono ?_
    rintro e w2 ⟨p, S, rfl, h1, hb, hs⟩
    have H1 := Lib.hid (Hw.made h1 HB1.out hb hs)
    clear h1 hb hs HB1
    go_wp2_with fail
    refine (rnew_ok r w2 r8).mono ?_
    rintro e w3 ⟨x, S2, rfl, h1, hb, hs⟩
    have H2 : Hid (Bo w w3 p x r 0) := by
      have hlt := H1.out.lp.lt
      have hsz := H1.out.but.size
      exact ⟨_, H1.out.but.trans hb, S, S2, H1.out.lp.no hb, h1, fun j hj e => by have := hlt j hj; have := hs j e; omega, H1.out.new, fun j hj => Nat.le_trans hsz (hs j hj), fun _ f => f.elim⟩
    clear h1 hb hs H1
    go_wp2_with fail
    go_loopw [9] (fun i wr => ∃ k : Nat, i = .int .i64 (k : Int) ∧ k ≤ n ∧ k ≤ 300 ∧ Hid (Bo w wr p x r k)) (fun i _ => n - (intOf i).toNat)
    case atStart => exact ⟨0, rfl, by omega, by omega, H2⟩
    case round =>
      clear H2
      obtain ⟨k, rfl, hk, hk2, HB⟩ := hrel
      by_cases hlt : k < n
      · have kn : (k : Int) < (n : Int) := by omega
        by_cases h2 : k < 300
        · have k2 : (k : Int) < 300 := by omega
          obtain ⟨q, htw⟩ := HB.out
          have hbut : But No w wr := htw.1
          obtain ⟨b, off, rfl, hlb, hc⟩ := (HD.out.no hbut).at_ (by omega)
          obtain ⟨c0, c1, c2⟩ := hc k hlt
          have HF := Lib.hid (HD.out.fit k hlt)
          have HBOX := Lib.hid (htw.box #[.int .i64 (kd k), .int .i64 (di k), .int .i64 (dk k)])
          clear hc hbut htw HB
          generalize kd k = x0 at *
          generalize di k = x1 at *
          generalize dk k = x2 at *
          go_wp2_with fail
          generalize hw4 : wr.alloc (.cells #[.int .i64 x0, .int .i64 x1, .int .i64 x2] 31) = w4 at *
          clear hw4
          generalize wr.heap.size = bx at *
          have HP0 := Lib.hid HBOX.out
          obtain ⟨u0, u1, u2⟩ := HBOX.out.cells
          have pl0 := pk_lt x0 2 (by omega)
          have CP0 := Lib.hid (fun W => pick_any x0 2 W HF.out.1 (by omega) (by omega))
          have HT : Hid (inR x2) := HF.out.2.2
          generalize pk x0 2 = y0 at CP0 pl0
          clear HBOX c0 c1 c2 hlb HF
          rcases (by omega : y0 = 0 ∨ y0 = 1) with rfl | rfl
          · have ek : (k : Int) + 1 = ((k + 1 : Nat) : Int) := by omega
            have A1 : Hid (∀ W, Pz w W p x r (k : Int) q q bx #[.int .i64 x0, .int .i64 x1, .int .i64 x2] → Calls Try.prog 10 #[.pointer (some ⟨p, 0, none⟩), .int .i64 x1, .int .i64 x2] W fun ee w' => ee = .returned (.tuple #[.int .i64 (askA r q x1 x2), .int .i64 (askE r q x1 x2)]) ∧ Pz w w' p x r ((k + 1 : Nat) : Int) (askQ r q x1 x2) q bx #[.int .i64 x0, .int .i64 x1, .int .i64 x2]) := fun W h => by have := h.ask1 x1 x2 (by omega); rw [ek] at this; exact this
            have A2 : Hid (∀ W, Pz w W p x r ((k + 1 : Nat) : Int) (askQ r q x1 x2) q bx #[.int .i64 x0, .int .i64 x1, .int .i64 x2] → Calls Try.prog 11 #[.pointer (some ⟨x, 0, none⟩), .int .i64 x1, .int .i64 x2] W fun ee w' => ee = .returned (.tuple #[.int .i64 (askA r q x1 x2), .int .i64 (askE r q x1 x2)]) ∧ Pz w w' p x r ((k + 1 : Nat) : Int) (askQ r q x1 x2) (askQ r q x1 x2) bx #[.int .i64 x0, .int .i64 x1, .int .i64 x2]) := fun W h => h.ask2 x1 x2
            generalize (askQ r q x1 x2) = qq at *
            generalize (askA r q x1 x2) = a at *
            generalize (askE r q x1 x2) = e at *
            have B1 : Hid (∀ W, Pz w W p x r ((k + 1 : Nat) : Int) qq qq bx #[.int .i64 x0, .int .i64 x1, .int .i64 x2] → Calls Try.prog 14 #[.pointer (some ⟨p, 0, none⟩), .int .i64 x1] W fun ee w' => ee = .returned (.int .i64 (holdV r qq x1)) ∧ Pz w w' p x r ((k + 1 : Nat) : Int) qq qq bx #[.int .i64 x0, .int .i64 x1, .int .i64 x2]) := fun W h => h.hold1 x1
            have B2 : Hid (∀ W, Pz w W p x r ((k + 1 : Nat) : Int) qq qq bx #[.int .i64 x0, .int .i64 x1, .int .i64 x2] → Calls Try.prog 15 #[.pointer (some ⟨x, 0, none⟩), .int .i64 x1] W fun ee w' => ee = .returned (.int .i64 (holdV r qq x1)) ∧ Pz w w' p x r ((k + 1 : Nat) : Int) qq qq bx #[.int .i64 x0, .int .i64 x1, .int .i64 x2]) := fun W h => h.hold2 x1
            have B3 : Hid (∀ W, Pz w W p x r ((k + 1 : Nat) : Int) qq qq bx #[.int .i64 x0, .int .i64 x1, .int .i64 x2] → Calls Try.prog 16 #[.pointer (some ⟨p, 0, none⟩), .int .i64 x2] W fun ee w' => ee = .returned (.int .i64 (wantV r qq x2)) ∧ Pz w w' p x r ((k + 1 : Nat) : Int) qq qq bx #[.int .i64 x0, .int .i64 x1, .int .i64 x2]) := fun W h => h.wants1 x2 HT.out
            have B4 : Hid (∀ W, Pz w W p x r ((k + 1 : Nat) : Int) qq qq bx #[.int .i64 x0, .int .i64 x1, .int .i64 x2] → Calls Try.prog 17 #[.pointer (some ⟨x, 0, none⟩), .int .i64 x2] W fun ee w' => ee = .returned (.int .i64 (wantV r qq x2)) ∧ Pz w w' p x r ((k + 1 : Nat) : Int) qq qq bx #[.int .i64 x0, .int .i64 x1, .int .i64 x2]) := fun W h => h.wants2 x2
            have B5 : Hid (∀ W, Pz w W p x r ((k + 1 : Nat) : Int) qq qq bx #[.int .i64 x0, .int .i64 x1, .int .i64 x2] → Calls Try.prog 18 #[.pointer (some ⟨p, 0, none⟩), .int .i64 x2] W fun ee w' => ee = .returned (.bool (hasV r qq x2)) ∧ Pz w w' p x r ((k + 1 : Nat) : Int) qq qq bx #[.int .i64 x0, .int .i64 x1, .int .i64 x2]) := fun W h => h.has1 x2 HT.out
            have B6 : Hid (∀ W, Pz w W p x r ((k + 1 : Nat) : Int) qq qq bx #[.int .i64 x0, .int .i64 x1, .int .i64 x2] → Calls Try.prog 19 #[.pointer (some ⟨x, 0, none⟩), .int .i64 x2] W fun ee w' => ee = .returned (.bool (hasV r qq x2)) ∧ Pz w w' p x r ((k + 1 : Nat) : Int) qq qq bx #[.int .i64 x0, .int .i64 x1, .int .i64 x2]) := fun W h => h.has2 x2
            generalize holdV r qq x1 = z1 at *
            generalize wantV r qq x2 = z2 at *
            generalize hasV r qq x2 = z3 at *
            obtain ⟨l, hl⟩ : ∃ l, l = qi r qq x1 := ⟨_, rfl⟩
            obtain ⟨m, hm⟩ : ∃ m, m = l.length := ⟨_, rfl⟩
            have Q1 : Hid (∀ W, Pz w W p x r ((k + 1 : Nat) : Int) qq qq bx #[.int .i64 x0, .int .i64 x1, .int .i64 x2] → Calls Try.prog 20 #[.pointer (some ⟨p, 0, none⟩), .int .i64 x1] W fun ee w' => ∃ A, m ≤ 24 ∧ ee = .returned (.slice A m m) ∧ Pq w w' p x r ((k + 1 : Nat) : Int) qq bx #[.int .i64 x0, .int .i64 x1, .int .i64 x2] A m l) := fun W h => by have h9 := qi_len h.two x1; have := h.que1 x1; rw [← hl, ← hm] at this; rw [← hl, ← hm] at h9; exact this.mono fun _ _ ⟨A, h1, h2⟩ => ⟨A, h9, h1, h2⟩
            have Q2 : Hid (∀ W A, m ≤ 24 → Pq w W p x r ((k + 1 : Nat) : Int) qq bx #[.int .i64 x0, .int .i64 x1, .int .i64 x2] A m l → Calls Try.prog 21 #[.pointer (some ⟨x, 0, none⟩), .int .i64 x1] W fun ee w' => ∃ B c, ee = .returned (.slice B m c) ∧ Pl w w' p x r ((k + 1 : Nat) : Int) qq A B m 0 l) := fun W A h9 h => h.que2 x1 hl hm h9
            have KEEP : Hid (∀ W, Pz w W p x r ((k + 1 : Nat) : Int) qq qq bx #[.int .i64 x0, .int .i64 x1, .int .i64 x2] → W.cell? ⟨bx, 1, none⟩ = some (.int .i64 x1) ∧ W.cell? ⟨bx, 2, none⟩ = some (.int .i64 x2)) := fun W h => ⟨h.cells.2.1, h.cells.2.2⟩
            clear hl hm pl0 ek
            have g0 : (a != a) = false := by simp
            have g1 : (e != e) = false := by simp
            have g2 : (z1 != z1) = false := by simp
            have g3 : (z2 != z2) = false := by simp
            have g4 : (z3 != z3) = false := by simp
            have g5 : ((m : Int) != (m : Int)) = false := by simp
            go_wp2_with (first | (go_at_call 9; ((with_reducible refine (CP0.out _).mono ?_); rintro e wa ⟨rfl, rfl⟩)) | (go_at_call 10; ((with_reducible refine (A1.out _ HP0.out).mono ?_); rintro e wb ⟨rfl, hp⟩; have HP1 := Lib.hid hp; obtain ⟨u0, u1, u2⟩ := hp.cells; clear hp)) | (go_at_call 11; ((with_reducible refine (A2.out _ HP1.out).mono ?_); rintro e wc ⟨rfl, hp⟩; have HP2 := Lib.hid hp; clear hp)))
            go_region_held3 (fun w' => w'.cell? ⟨bx, 1, none⟩ = some (.int .i64 x1) ∧ w'.cell? ⟨bx, 2, none⟩ = some (.int .i64 x2))
              (first | exact KEEP.out _ HR6.out | exact KEEP.out _ HR5.out | exact KEEP.out _ HR4.out | exact KEEP.out _ HR3.out | exact KEEP.out _ HR2.out | exact KEEP.out _ HR1.out | exact KEEP.out _ (HP2.out.no (But.refl No _).drew))
              (first | (go_at_call 14; ((with_reducible refine (B1.out _ (HP2.out.no (But.refl No _).drew)).mono ?_); rintro e wd1 ⟨rfl, hp⟩; have HR1 := Lib.hid hp; clear hp)) | (go_at_call 15; ((with_reducible refine (B2.out _ HR1.out).mono ?_); rintro e wd2 ⟨rfl, hp⟩; have HR2 := Lib.hid hp; clear hp)) | (go_at_call 16; ((with_reducible refine (B3.out _ HR2.out).mono ?_); rintro e wd3 ⟨rfl, hp⟩; have HR3 := Lib.hid hp; clear hp)) | (go_at_call 17; ((with_reducible refine (B4.out _ HR3.out).mono ?_); rintro e wd4 ⟨rfl, hp⟩; have HR4 := Lib.hid hp; clear hp)) | (go_at_call 18; ((with_reducible refine (B5.out _ HR4.out).mono ?_); rintro e wd5 ⟨rfl, hp⟩; have HR5 := Lib.hid hp; clear hp)) | (go_at_call 19; ((with_reducible refine (B6.out _ HR5.out).mono ?_); rintro e wd6 ⟨rfl, hp⟩; have HR6 := Lib.hid hp; clear hp)))
            obtain ⟨u1, u2⟩ := KEEP.out _ HR6.out
            go_wp2_with (first | (go_at_call 20; ((with_reducible refine (Q1.out _ HR6.out).mono ?_); rintro e we ⟨A, m24, rfl, hp⟩; have HQ := Lib.hid hp; have u1 := hp.cell1; clear hp)) | (go_at_call 21; ((with_reducible refine (Q2.out _ _ m24 HQ.out).mono ?_); rintro e wf ⟨B, cB, rfl, hp⟩; have HL := Lib.hid hp; clear hp)))
            clear u1 u2 KEEP Q1 Q2 B1 B2 B3 B4 B5 B6 A1 A2
            go_loopw [17] (fun i wq => ∃ j : Nat, i = .int .i64 (j : Int) ∧ j ≤ m ∧ Hid (Pl w wq p x r ((k + 1 : Nat) : Int) qq A B m j l)) (fun i _ => m - (intOf i).toNat)
            case atStart => exact ⟨0, rfl, by omega, HL⟩
            case round =>
              clear HL
              obtain ⟨j, rfl, hj, HL⟩ := hrel
              by_cases hjm : j < m
              · have jm' : (j : Int) < (m : Int) := by omega
                obtain ⟨bq, b2, o2, rfl, rfl, d0, dz, d1⟩ := HL.out.at_ hjm
                have HN : Hid (∀ W, But No wr W → W.cell? ⟨bq, j, none⟩ = some (.int .i64 (l.getD j 0)) ∧ W.frozen? ⟨bq, j, none⟩ = false ∧ Pl w (W.setCell ⟨bq, j, none⟩ (.int .i64 (-1))) p x r ((k + 1 : Nat) : Int) qq (some ⟨bq, 0, none⟩) (some ⟨b2, o2, none⟩) m (j + 1) l) := fun W hb => ⟨(HL.out.no hb).at_ hjm |> fun ⟨_, _, _, e, _, h, _⟩ => by cases e; exact h, (HL.out.no hb).at_ hjm |> fun ⟨_, _, _, e, _, _, h, _⟩ => by cases e; exact h, (HL.out.no hb).next⟩
                generalize l.getD j 0 = y at *
                have gy : (y != y) = false := by simp
                go_wp2_with fail
                go_quiet (fail)
                obtain ⟨hcell, hfz, _⟩ := HN.out _ ((But.refl No wr).drewN nq)
                go_wp2
                go_roundw
                case rel => exact ⟨j + 1, by go_num, by omega, (HN.out _ ((But.refl No wr).drewN _)).2.2⟩
                case measure => simp [intOf]; omega
              · have HZ : Hid (Bo w _ p x r (k + 1)) := ⟨_, HL.out.two.un (by omega)⟩
                have b1 : decide ((j : Int) < (m : Int)) = false := by simp; omega
                go_wp2
                go_roundw
                case rel => exact ⟨k + 1, by go_num, by omega, by omega, HZ⟩
                case measure => simp [intOf]; omega
          · have A1 : Hid (∀ W, Pz w W p x r (k : Int) q q bx #[.int .i64 x0, .int .i64 x1, .int .i64 x2] → Calls Try.prog 12 #[.pointer (some ⟨p, 0, none⟩), .int .i64 x2] W fun ee w' => ee = .returned (.tuple #[.int .i64 (freA r q x2), .int .i64 (freE r q x2)]) ∧ Pz w w' p x r (k : Int) (freQ r q x2) q bx #[.int .i64 x0, .int .i64 x1, .int .i64 x2]) := fun W h => h.fre1 x2 HT.out
            have A2 : Hid (∀ W, Pz w W p x r (k : Int) (freQ r q x2) q bx #[.int .i64 x0, .int .i64 x1, .int .i64 x2] → Calls Try.prog 13 #[.pointer (some ⟨x, 0, none⟩), .int .i64 x2] W fun ee w' => ee = .returned (.tuple #[.int .i64 (freA r q x2), .int .i64 (freE r q x2)]) ∧ Pz w w' p x r (k : Int) (freQ r q x2) (freQ r q x2) bx #[.int .i64 x0, .int .i64 x1, .int .i64 x2]) := fun W h => h.fre2 x2
            generalize (freQ r q x2) = qq at *
            generalize (freA r q x2) = a at *
            generalize (freE r q x2) = e at *
            have B1 : Hid (∀ W, Pz w W p x r (k : Int) qq qq bx #[.int .i64 x0, .int .i64 x1, .int .i64 x2] → Calls Try.prog 14 #[.pointer (some ⟨p, 0, none⟩), .int .i64 x1] W fun ee w' => ee = .returned (.int .i64 (holdV r qq x1)) ∧ Pz w w' p x r (k : Int) qq qq bx #[.int .i64 x0, .int .i64 x1, .int .i64 x2]) := fun W h => h.hold1 x1
            have B2 : Hid (∀ W, Pz w W p x r (k : Int) qq qq bx #[.int .i64 x0, .int .i64 x1, .int .i64 x2] → Calls Try.prog 15 #[.pointer (some ⟨x, 0, none⟩), .int .i64 x1] W fun ee w' => ee = .returned (.int .i64 (holdV r qq x1)) ∧ Pz w w' p x r (k : Int) qq qq bx #[.int .i64 x0, .int .i64 x1, .int .i64 x2]) := fun W h => h.hold2 x1
            have B3 : Hid (∀ W, Pz w W p x r (k : Int) qq qq bx #[.int .i64 x0, .int .i64 x1, .int .i64 x2] → Calls Try.prog 16 #[.pointer (some ⟨p, 0, none⟩), .int .i64 x2] W fun ee w' => ee = .returned (.int .i64 (wantV r qq x2)) ∧ Pz w w' p x r (k : Int) qq qq bx #[.int .i64 x0, .int .i64 x1, .int .i64 x2]) := fun W h => h.wants1 x2 HT.out
            have B4 : Hid (∀ W, Pz w W p x r (k : Int) qq qq bx #[.int .i64 x0, .int .i64 x1, .int .i64 x2] → Calls Try.prog 17 #[.pointer (some ⟨x, 0, none⟩), .int .i64 x2] W fun ee w' => ee = .returned (.int .i64 (wantV r qq x2)) ∧ Pz w w' p x r (k : Int) qq qq bx #[.int .i64 x0, .int .i64 x1, .int .i64 x2]) := fun W h => h.wants2 x2
            have B5 : Hid (∀ W, Pz w W p x r (k : Int) qq qq bx #[.int .i64 x0, .int .i64 x1, .int .i64 x2] → Calls Try.prog 18 #[.pointer (some ⟨p, 0, none⟩), .int .i64 x2] W fun ee w' => ee = .returned (.bool (hasV r qq x2)) ∧ Pz w w' p x r (k : Int) qq qq bx #[.int .i64 x0, .int .i64 x1, .int .i64 x2]) := fun W h => h.has1 x2 HT.out
            have B6 : Hid (∀ W, Pz w W p x r (k : Int) qq qq bx #[.int .i64 x0, .int .i64 x1, .int .i64 x2] → Calls Try.prog 19 #[.pointer (some ⟨x, 0, none⟩), .int .i64 x2] W fun ee w' => ee = .returned (.bool (hasV r qq x2)) ∧ Pz w w' p x r (k : Int) qq qq bx #[.int .i64 x0, .int .i64 x1, .int .i64 x2]) := fun W h => h.has2 x2
            generalize holdV r qq x1 = z1 at *
            generalize wantV r qq x2 = z2 at *
            generalize hasV r qq x2 = z3 at *
            obtain ⟨l, hl⟩ : ∃ l, l = qi r qq x1 := ⟨_, rfl⟩
            obtain ⟨m, hm⟩ : ∃ m, m = l.length := ⟨_, rfl⟩
            have Q1 : Hid (∀ W, Pz w W p x r (k : Int) qq qq bx #[.int .i64 x0, .int .i64 x1, .int .i64 x2] → Calls Try.prog 20 #[.pointer (some ⟨p, 0, none⟩), .int .i64 x1] W fun ee w' => ∃ A, m ≤ 24 ∧ ee = .returned (.slice A m m) ∧ Pq w w' p x r (k : Int) qq bx #[.int .i64 x0, .int .i64 x1, .int .i64 x2] A m l) := fun W h => by have h9 := qi_len h.two x1; have := h.que1 x1; rw [← hl, ← hm] at this; rw [← hl, ← hm] at h9; exact this.mono fun _ _ ⟨A, h1, h2⟩ => ⟨A, h9, h1, h2⟩
            have Q2 : Hid (∀ W A, m ≤ 24 → Pq w W p x r (k : Int) qq bx #[.int .i64 x0, .int .i64 x1, .int .i64 x2] A m l → Calls Try.prog 21 #[.pointer (some ⟨x, 0, none⟩), .int .i64 x1] W fun ee w' => ∃ B c, ee = .returned (.slice B m c) ∧ Pl w w' p x r (k : Int) qq A B m 0 l) := fun W A h9 h => h.que2 x1 hl hm h9
            have KEEP : Hid (∀ W, Pz w W p x r (k : Int) qq qq bx #[.int .i64 x0, .int .i64 x1, .int .i64 x2] → W.cell? ⟨bx, 1, none⟩ = some (.int .i64 x1) ∧ W.cell? ⟨bx, 2, none⟩ = some (.int .i64 x2)) := fun W h => ⟨h.cells.2.1, h.cells.2.2⟩
            clear hl hm pl0
            have g0 : (a != a) = false := by simp
            have g1 : (e != e) = false := by simp
            have g2 : (z1 != z1) = false := by simp
            have g3 : (z2 != z2) = false := by simp
            have g4 : (z3 != z3) = false := by simp
            have g5 : ((m : Int) != (m : Int)) = false := by simp
            go_wp2_with (first | (go_at_call 9; ((with_reducible refine (CP0.out _).mono ?_); rintro e wa ⟨rfl, rfl⟩)) | (go_at_call 12; ((with_reducible refine (A1.out _ HP0.out).mono ?_); rintro e wb ⟨rfl, hp⟩; have HP1 := Lib.hid hp; obtain ⟨u0, u1, u2⟩ := hp.cells; clear hp)) | (go_at_call 13; ((with_reducible refine (A2.out _ HP1.out).mono ?_); rintro e wc ⟨rfl, hp⟩; have HP2 := Lib.hid hp; clear hp)))
            go_region_held3 (fun w' => w'.cell? ⟨bx, 1, none⟩ = some (.int .i64 x1) ∧ w'.cell? ⟨bx, 2, none⟩ = some (.int .i64 x2))
              (first | exact KEEP.out _ HR6.out | exact KEEP.out _ HR5.out | exact KEEP.out _ HR4.out | exact KEEP.out _ HR3.out | exact KEEP.out _ HR2.out | exact KEEP.out _ HR1.out | exact KEEP.out _ (HP2.out.no (But.refl No _).drew))
              (first | (go_at_call 14; ((with_reducible refine (B1.out _ (HP2.out.no (But.refl No _).drew)).mono ?_); rintro e wd1 ⟨rfl, hp⟩; have HR1 := Lib.hid hp; clear hp)) | (go_at_call 15; ((with_reducible refine (B2.out _ HR1.out).mono ?_); rintro e wd2 ⟨rfl, hp⟩; have HR2 := Lib.hid hp; clear hp)) | (go_at_call 16; ((with_reducible refine (B3.out _ HR2.out).mono ?_); rintro e wd3 ⟨rfl, hp⟩; have HR3 := Lib.hid hp; clear hp)) | (go_at_call 17; ((with_reducible refine (B4.out _ HR3.out).mono ?_); rintro e wd4 ⟨rfl, hp⟩; have HR4 := Lib.hid hp; clear hp)) | (go_at_call 18; ((with_reducible refine (B5.out _ HR4.out).mono ?_); rintro e wd5 ⟨rfl, hp⟩; have HR5 := Lib.hid hp; clear hp)) | (go_at_call 19; ((with_reducible refine (B6.out _ HR5.out).mono ?_); rintro e wd6 ⟨rfl, hp⟩; have HR6 := Lib.hid hp; clear hp)))
            obtain ⟨u1, u2⟩ := KEEP.out _ HR6.out
            go_wp2_with (first | (go_at_call 20; ((with_reducible refine (Q1.out _ HR6.out).mono ?_); rintro e we ⟨A, m24, rfl, hp⟩; have HQ := Lib.hid hp; have u1 := hp.cell1; clear hp)) | (go_at_call 21; ((with_reducible refine (Q2.out _ _ m24 HQ.out).mono ?_); rintro e wf ⟨B, cB, rfl, hp⟩; have HL := Lib.hid hp; clear hp)))
            clear u1 u2 KEEP Q1 Q2 B1 B2 B3 B4 B5 B6 A1 A2
            go_loopw [17] (fun i wq => ∃ j : Nat, i = .int .i64 (j : Int) ∧ j ≤ m ∧ Hid (Pl w wq p x r (k : Int) qq A B m j l)) (fun i _ => m - (intOf i).toNat)
            case atStart => exact ⟨0, rfl, by omega, HL⟩
            case round =>
              clear HL
              obtain ⟨j, rfl, hj, HL⟩ := hrel
              by_cases hjm : j < m
              · have jm' : (j : Int) < (m : Int) := by omega
                obtain ⟨bq, b2, o2, rfl, rfl, d0, dz, d1⟩ := HL.out.at_ hjm
                have HN : Hid (∀ W, But No wr W → W.cell? ⟨bq, j, none⟩ = some (.int .i64 (l.getD j 0)) ∧ W.frozen? ⟨bq, j, none⟩ = false ∧ Pl w (W.setCell ⟨bq, j, none⟩ (.int .i64 (-1))) p x r (k : Int) qq (some ⟨bq, 0, none⟩) (some ⟨b2, o2, none⟩) m (j + 1) l) := fun W hb => ⟨(HL.out.no hb).at_ hjm |> fun ⟨_, _, _, e, _, h, _⟩ => by cases e; exact h, (HL.out.no hb).at_ hjm |> fun ⟨_, _, _, e, _, _, h, _⟩ => by cases e; exact h, (HL.out.no hb).next⟩
                generalize l.getD j 0 = y at *
                have gy : (y != y) = false := by simp
                go_wp2_with fail
                go_quiet (fail)
                obtain ⟨hcell, hfz, _⟩ := HN.out _ ((But.refl No wr).drewN nq)
                go_wp2
                go_roundw
                case rel => exact ⟨j + 1, by go_num, by omega, (HN.out _ ((But.refl No wr).drewN _)).2.2⟩
                case measure => simp [intOf]; omega
              · have HZ : Hid (Bo w _ p x r (k + 1)) := ⟨_, HL.out.two.un (by omega)⟩
                have b1 : decide ((j : Int) < (m : Int)) = false := by simp; omega
                go_wp2
                go_roundw
                case rel => exact ⟨k + 1, by go_num, by omega, by omega, HZ⟩
                case measure => simp [intOf]; omega
        · have k2 : decide ((k : Int) < 300) = false := by simp; omega
          have HG : Hid (But No w wr) := by obtain ⟨_, hh, _⟩ := HB.out; exact hh
          go_wp2
          go_ret
          exact ⟨rfl, HG.out⟩
      · have kn : decide ((k : Int) < (n : Int)) = false := by simp; omega
        have HG : Hid (But No w wr) := by obtain ⟨_, hh, _⟩ := HB.out; exact hh
        go_wp2
        go_ret
        exact ⟨rfl, HG.out⟩
  · have hb : res < 0 ∨ 8 < res := by omega
    have HB := Lib.hid hb
    clear hp hb
    go_enter Try.func3, Try.ntmps3
    go_wp2_with fail
    refine (examples_any w).mono ?_
    rintro e w1 ⟨rfl, hb1⟩
    have HB1 := Lib.hid hb1
    clear hb1
    go_wp2_with fail
    refine (new_bad res w1 HB.out).mono ?_
    rintro e w2 ⟨rfl, rfl⟩
    go_wp2_with fail
    refine (rnew_bad res w1 HB.out).mono ?_
    rintro e w2 ⟨rfl, rfl⟩
    go_wp2
    go_ret
    exact ⟨rfl, HB1.out⟩
end Go.Proofs.Ytimkdcpghhkloaa.locksPlay
