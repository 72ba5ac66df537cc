/- LocksApart: the walk. -/
import Derived.Test.YtimkdcpghhkloaaO
namespace Go.Proofs.Ytimkdcpghhkloaa.locksApart
open Go.ChangeShapes Go.WideShapes Go.ChangeAt Go.RowKit Go.Deep Go.Proofs.Ytimkdcpghhkloaa
open Go.Proofs.Ytimkdcpghhkloaa.lok
def Bo (w0 w : World) (p1 p2 : Nat) (N : Int) : Prop := ∃ u v, RelA u v ∧ Two w0 w p1 p2 N u v No
theorem RelA.hds {u v : Nat → List Int} (h : RelA u v) : hd (u 0) < 12 ∧ (hd (u 1) = -1 ∨ 12 ≤ hd (u 1)) := by
  constructor
  · cases e : u 0 with
    | nil => decide
    | cons x l => exact h.lo x (by rw [e]; simp)
  · cases e : u 1 with
    | nil => exact .inl rfl
    | cons x l => exact .inr (h.hi x (by rw [e]; simp))
theorem end1 {w0 w : World} {p1 p2 : Nat} {N : Int} (h : Bo w0 w p1 p2 N) : ∀ W, But No w W → Calls Try.prog 14 #[.pointer (some ⟨p1, 0, none⟩), .int .i64 2] W fun r w' => r = .returned (.int .i64 (-1)) ∧ But No w w' := by
  obtain ⟨u, v, hr, _, S1, S2, h1, h2, _⟩ := h
  intro W hb
  have := holder_any p1 2 N u S1 W 2 (h1.no hb)
  have e : holdV 2 u 2 = -1 := rfl
  rw [e] at this
  exact this.mono fun _ _ ⟨e, hb2⟩ => ⟨e, hb.trans hb2⟩
theorem end2 {w0 w : World} {p1 p2 : Nat} {N : Int} (h : Bo w0 w p1 p2 N) : ∀ W, But No w W → Calls Try.prog 14 #[.pointer (some ⟨p2, 0, none⟩), .int .i64 1] W fun r w' => r = .returned (.int .i64 (-1)) ∧ But No w w' := by
  obtain ⟨u, v, hr, _, S1, S2, h1, h2, _⟩ := h
  intro W hb
  have := holder_any p2 2 N v S2 W 1 (h2.no hb)
  have e : holdV 2 v 1 = -1 := by show hd (v 1) = -1; rw [hr.none_]; rfl
  rw [e] at this
  exact this.mono fun _ _ ⟨e, hb2⟩ => ⟨e, hb.trans hb2⟩
set_option maxHeartbeats 8000000 in
set_option maxRecDepth 100000 in
theorem walk (A : Option Addr) (n c : Nat) (kd di dk : Nat → Int) (w : World) (hd : RdD w A n kd di dk) :
    Calls Try.prog 5 #[.slice A n c] w fun e w' => e = .returned (.bool true) ∧ But No w w' := by
  have HD := Lib.hid hd
  have hmx := hd.max
  clear hd
  go_enter Try.func5, Try.ntmps5
  go_wp2_with fail
  refine (examples_any w).mono ?_
  rintro e w1 ⟨rfl, hb1⟩
  have HB1 := Lib.hid hb1
  clear hb1
  go_wp2_with fail
  refine (new_ok 2 w1 (by omega)).mono ?_
  rintro e w2 ⟨p1, S1, rfl, h1, hb, hs⟩
  have H1 := Lib.hid (Hw.made h1 HB1.out hb hs)
  clear h1 hb hs HB1
  go_wp2_with fail
  refine (new_ok 2 w2 (by omega)).mono ?_
  rintro e w3 ⟨p2, S2, rfl, h1, hb, hs⟩
  have H2 : Hid (Bo w w3 p1 p2 (2 * ((0 : Nat) : Int))) := by
    have hlt := H1.out.lp.lt
    have hsz := H1.out.but.size
    exact ⟨_, _, RelA.nil, H1.out.but.trans hb, S1, S2, H1.out.lp.no hb, h1, fun j hj e => by have := hlt j hj; have := hs j e; omega, H1.out.new, fun j hj => Nat.le_trans hsz (hs j hj), fun _ f => f.elim⟩
  clear h1 hb hs H1
  go_wp2_with fail
  go_loopw [8] (fun i wr => ∃ k : Nat, i = .int .i64 (k : Int) ∧ k ≤ n ∧ k ≤ 200 ∧ Hid (Bo w wr p1 p2 (2 * (k : Int)))) (fun i _ => n - (intOf i).toNat)
  case atStart => exact ⟨0, rfl, by omega, by omega, H2⟩
  case round =>
    clear H2
    obtain ⟨k, rfl, hk, hk2, HB⟩ := hrel
    by_cases hlt : k < n
    · have kn : (k : Int) < (n : Int) := by omega
      by_cases h2 : k < 200
      · have k2 : (k : Int) < 200 := by omega
        obtain ⟨u, v, hrl, htw⟩ := HB.out
        have hbut : But No w wr := htw.1
        obtain ⟨b, off, rfl, hlb, hc⟩ := (HD.out.no hbut).at_ (by omega)
        obtain ⟨c0, c1, c2⟩ := hc k hlt
        have HF := Lib.hid (HD.out.fit k hlt)
        have HRL := Lib.hid hrl
        have HBOX := Lib.hid (htw.box #[.int .i64 (kd k), .int .i64 (di k), .int .i64 (dk k)])
        have HN : Hid (2 * (k : Int) < 100000 ∧ 2 * (k : Int) + 1 + 1 = 2 * ((k + 1 : Nat) : Int)) := ⟨by omega, by omega⟩
        clear hc hbut hrl htw HB
        generalize kd k = x0 at *
        generalize di k = x1 at *
        generalize dk k = x2 at *
        go_wp2_with fail
        generalize hw4 : wr.alloc (.cells #[.int .i64 x0, .int .i64 x1, .int .i64 x2] 31) = w4 at *
        clear hw4
        generalize wr.heap.size = bx at *
        have HP0 := Lib.hid HBOX.out
        obtain ⟨u0, u1, u2⟩ := HBOX.out.cells
        have pl0 := pk_lt x0 2 (by omega)
        have pl1 := pk_lt x1 2 (by omega)
        have pl2 := pk_lt x2 12 (by omega)
        have CP0 := Lib.hid (fun W => pick_any x0 2 W HF.out.1 (by omega) (by omega))
        have CP1 := Lib.hid (fun W => pick_any x1 2 W HF.out.2.1 (by omega) (by omega))
        have CP2 := Lib.hid (fun W => pick_any x2 12 W HF.out.2.2 (by omega) (by omega))
        generalize pk x0 2 = y0 at CP0 pl0
        generalize pk x1 2 = y1 at CP1 pl1
        generalize pk x2 12 = y2 at CP2 pl2
        obtain ⟨m1, m2⟩ := pl2
        clear HBOX c0 c1 c2 hlb
        rcases (by omega : (y0 = 0 ∧ y1 = 0) ∨ (y0 = 0 ∧ y1 = 1) ∨ (y0 = 1 ∧ y1 = 0) ∨ (y0 = 1 ∧ y1 = 1)) with ⟨rfl, rfl⟩ | ⟨rfl, rfl⟩ | ⟨rfl, rfl⟩ | ⟨rfl, rfl⟩
        · have HLK := Lib.hid HP0.out.oks
          have ht1 : y2 < 12 := by omega
          obtain ⟨ea, ee, hr2⟩ := HRL.out.ask0 HLK.out.1 HLK.out.2 ht1
          have HR2 := Lib.hid hr2
          have A1 : Hid (∀ W, Ap w W p1 p2 (2 * (k : Int)) u v bx #[.int .i64 x0, .int .i64 x1, .int .i64 x2] → Calls Try.prog 10 #[.pointer (some ⟨p1, 0, none⟩), .int .i64 0, .int .i64 y2] W fun r w' => r = .returned (.tuple #[.int .i64 (askA 2 u 0 y2), .int .i64 (askE 2 u 0 y2)]) ∧ Ap w w' p1 p2 (2 * (k : Int) + 1) (askQ 2 u 0 y2) v bx #[.int .i64 x0, .int .i64 x1, .int .i64 x2]) := fun W h => h.ask1 0 y2 (by have := HN.out.1; omega)
          have A2 : Hid (∀ W, Ap w W p1 p2 (2 * (k : Int) + 1) (askQ 2 u 0 y2) v bx #[.int .i64 x0, .int .i64 x1, .int .i64 x2] → Calls Try.prog 10 #[.pointer (some ⟨p2, 0, none⟩), .int .i64 0, .int .i64 y2] W fun r w' => r = .returned (.tuple #[.int .i64 (askA 2 u 0 y2), .int .i64 (askE 2 u 0 y2)]) ∧ Ap w w' p1 p2 (2 * (k : Int) + 1 + 1) (askQ 2 u 0 y2) (askQ 2 v 0 y2) bx #[.int .i64 x0, .int .i64 x1, .int .i64 x2]) := fun W h => by have := h.ask2 0 y2 (by have := HN.out.1; omega); rw [ea, ee] at this; exact this
          clear hr2 ea ee
          have hlu := Lib.hid (HLK.out.1.ask 0 y2)
          generalize askQ 2 u 0 y2 = uu at *
          generalize askQ 2 v 0 y2 = vv at *
          generalize (askA 2 u 0 y2) = a at *
          generalize (askE 2 u 0 y2) = e at *
          have L1 : Hid (∀ W, Ap w W p1 p2 (2 * (k : Int) + 1 + 1) uu vv bx #[.int .i64 x0, .int .i64 x1, .int .i64 x2] → Calls Try.prog 14 #[.pointer (some ⟨p1, 0, none⟩), .int .i64 0] W fun r w' => r = .returned (.int .i64 (hd (uu 0))) ∧ Ap w w' p1 p2 (2 * (k : Int) + 1 + 1) uu vv bx #[.int .i64 x0, .int .i64 x1, .int .i64 x2]) := fun W h => h.hold1 0 (by decide)
          have L2 : Hid (∀ W, Ap w W p1 p2 (2 * (k : Int) + 1 + 1) uu vv bx #[.int .i64 x0, .int .i64 x1, .int .i64 x2] → Calls Try.prog 14 #[.pointer (some ⟨p2, 0, none⟩), .int .i64 0] W fun r w' => r = .returned (.int .i64 (hd (uu 0))) ∧ Ap w w' p1 p2 (2 * (k : Int) + 1 + 1) uu vv bx #[.int .i64 x0, .int .i64 x1, .int .i64 x2]) := fun W h => by rw [← HR2.out.same]; exact h.hold2 0 (by decide)
          have L3 : Hid (∀ W, Ap w W p1 p2 (2 * (k : Int) + 1 + 1) uu vv bx #[.int .i64 x0, .int .i64 x1, .int .i64 x2] → Calls Try.prog 14 #[.pointer (some ⟨p1, 0, none⟩), .int .i64 1] W fun r w' => r = .returned (.int .i64 (hd (uu 1))) ∧ Ap w w' p1 p2 (2 * (k : Int) + 1 + 1) uu vv bx #[.int .i64 x0, .int .i64 x1, .int .i64 x2]) := fun W h => h.hold1 1 (by decide)
          have Q1 : Hid (∀ W, Ap w W p1 p2 (2 * (k : Int) + 1 + 1) uu vv bx #[.int .i64 x0, .int .i64 x1, .int .i64 x2] → Calls Try.prog 20 #[.pointer (some ⟨p1, 0, none⟩), .int .i64 0] W fun r w' => ∃ b, r = .returned (.slice (some ⟨b, 0, none⟩) (uu 0).length (uu 0).length) ∧ Ap w w' p1 p2 (2 * (k : Int) + 1 + 1) uu vv bx #[.int .i64 x0, .int .i64 x1, .int .i64 x2]) := fun W h => h.que1
          have Q2 : Hid (∀ W, Ap w W p1 p2 (2 * (k : Int) + 1 + 1) uu vv bx #[.int .i64 x0, .int .i64 x1, .int .i64 x2] → Calls Try.prog 20 #[.pointer (some ⟨p2, 0, none⟩), .int .i64 0] W fun r w' => ∃ b, r = .returned (.slice (some ⟨b, 0, none⟩) (uu 0).length (uu 0).length) ∧ Ap w w' p1 p2 (2 * (k : Int) + 1 + 1) uu vv bx #[.int .i64 x0, .int .i64 x1, .int .i64 x2]) := fun W h => by rw [← HR2.out.same]; exact h.que2
          obtain ⟨hx, hy⟩ := RelA.hds HR2.out
          generalize hd (uu 0) = x at *
          generalize hd (uu 1) = y at *
          have hml : (uu 0).length ≤ 24 := hlu.out.len 0
          generalize (uu 0).length = m at *
          have e1 : (x != x) = false := by simp
          have e2 : ((m : Int) != (m : Int)) = false := by simp
          have e3 : (a != a) = false := by simp
          have e4 : (e != e) = false := by simp
          have e5 : decide (x < 12) = true := by simpa using hx
          clear HRL ht1 HLK
          rcases hy with rfl | hy
          · go_wp2_with (first | (go_at_call 9; ((with_reducible refine (CP1.out _).mono ?_); rintro e wa ⟨rfl, rfl⟩)) | (go_at_call 9; ((with_reducible refine (CP2.out _).mono ?_); rintro e wa ⟨rfl, rfl⟩)) | (go_at_call 9; ((with_reducible refine (CP0.out _).mono ?_); rintro e wa ⟨rfl, rfl⟩)) | (go_at_call 10; ((with_reducible refine (A1.out _ HP0.out).mono ?_); rintro e wb ⟨rfl, hp⟩; have HP1 := Lib.hid hp; clear hp)) | (go_at_call 10; ((with_reducible refine (A2.out _ HP1.out).mono ?_); rintro e wc ⟨rfl, hp⟩; have HP2 := Lib.hid hp; clear hp)) | (go_at_call 14; ((with_reducible refine (L1.out _ HP2.out).mono ?_); rintro e wha ⟨rfl, hp⟩; have HA := Lib.hid hp; clear hp)) | (go_at_call 14; ((with_reducible refine (L2.out _ HA.out).mono ?_); rintro e whb ⟨rfl, hp⟩; have HB := Lib.hid hp; clear hp)) | (go_at_call 20; ((with_reducible refine (Q1.out _ HB.out).mono ?_); rintro e whc ⟨bqhc, rfl, hp⟩; have HC := Lib.hid hp; clear hp)) | (go_at_call 20; ((with_reducible refine (Q2.out _ HC.out).mono ?_); rintro e whd2 ⟨bqhd2, rfl, hp⟩; have HD2 := Lib.hid hp; clear hp)) | (go_at_call 14; ((with_reducible refine (L1.out _ HD2.out).mono ?_); rintro e whe ⟨rfl, hp⟩; have HE := Lib.hid hp; clear hp)) | (go_at_call 14; ((with_reducible refine (L3.out _ HE.out).mono ?_); rintro e whf2 ⟨rfl, hp⟩; have HF2 := Lib.hid hp; clear hp)) | (go_at_call 14; ((with_reducible refine (L3.out _ HF2.out).mono ?_); rintro e whg ⟨rfl, hp⟩; have HG := Lib.hid hp; clear hp)))
            have HZ : Hid (Bo w _ p1 p2 (2 * ((k + 1 : Nat) : Int))) := ⟨_, _, HR2.out, HF2.out.un (by have := HN.out.2; omega)⟩
            go_roundw
            case rel => exact ⟨k + 1, by go_num, by omega, by omega, HZ⟩
            case measure => simp [intOf]; omega
          · have e6 : decide (y < 0) = false := by simp; omega
            have e7 : decide (y < 12) = false := by simp; omega
            have e8 : ¬ y < 0 := by omega
            go_wp2_with (first | (go_at_call 9; ((with_reducible refine (CP1.out _).mono ?_); rintro e wa ⟨rfl, rfl⟩)) | (go_at_call 9; ((with_reducible refine (CP2.out _).mono ?_); rintro e wa ⟨rfl, rfl⟩)) | (go_at_call 9; ((with_reducible refine (CP0.out _).mono ?_); rintro e wa ⟨rfl, rfl⟩)) | (go_at_call 10; ((with_reducible refine (A1.out _ HP0.out).mono ?_); rintro e wb ⟨rfl, hp⟩; have HP1 := Lib.hid hp; clear hp)) | (go_at_call 10; ((with_reducible refine (A2.out _ HP1.out).mono ?_); rintro e wc ⟨rfl, hp⟩; have HP2 := Lib.hid hp; clear hp)) | (go_at_call 14; ((with_reducible refine (L1.out _ HP2.out).mono ?_); rintro e wha ⟨rfl, hp⟩; have HA := Lib.hid hp; clear hp)) | (go_at_call 14; ((with_reducible refine (L2.out _ HA.out).mono ?_); rintro e whb ⟨rfl, hp⟩; have HB := Lib.hid hp; clear hp)) | (go_at_call 20; ((with_reducible refine (Q1.out _ HB.out).mono ?_); rintro e whc ⟨bqhc, rfl, hp⟩; have HC := Lib.hid hp; clear hp)) | (go_at_call 20; ((with_reducible refine (Q2.out _ HC.out).mono ?_); rintro e whd2 ⟨bqhd2, rfl, hp⟩; have HD2 := Lib.hid hp; clear hp)) | (go_at_call 14; ((with_reducible refine (L1.out _ HD2.out).mono ?_); rintro e whe ⟨rfl, hp⟩; have HE := Lib.hid hp; clear hp)) | (go_at_call 14; ((with_reducible refine (L3.out _ HE.out).mono ?_); rintro e whf2 ⟨rfl, hp⟩; have HF2 := Lib.hid hp; clear hp)) | (go_at_call 14; ((with_reducible refine (L3.out _ HF2.out).mono ?_); rintro e whg ⟨rfl, hp⟩; have HG := Lib.hid hp; clear hp)))
            have HZ : Hid (Bo w _ p1 p2 (2 * ((k + 1 : Nat) : Int))) := ⟨_, _, HR2.out, HG.out.un (by have := HN.out.2; omega)⟩
            go_roundw
            case rel => exact ⟨k + 1, by go_num, by omega, by omega, HZ⟩
            case measure => simp [intOf]; omega
        · have HLK := Lib.hid HP0.out.oks
          have ht1 : 12 ≤ 12 + y2 := by omega
          have hr2 := HRL.out.ask1 ht1
          have HR2 := Lib.hid hr2
          have A1 : Hid (∀ W, Ap w W p1 p2 (2 * (k : Int)) u v bx #[.int .i64 x0, .int .i64 x1, .int .i64 x2] → Calls Try.prog 10 #[.pointer (some ⟨p1, 0, none⟩), .int .i64 1, .int .i64 (12 + y2)] W fun r w' => r = .returned (.tuple #[.int .i64 (askA 2 u 1 (12 + y2)), .int .i64 (askE 2 u 1 (12 + y2))]) ∧ Ap w w' p1 p2 (2 * (k : Int) + 1) (askQ 2 u 1 (12 + y2)) v bx #[.int .i64 x0, .int .i64 x1, .int .i64 x2]) := fun W h => h.ask1 1 (12 + y2) (by have := HN.out.1; omega)
          clear hr2
          have hlu := Lib.hid (HLK.out.1.ask 1 (12 + y2))
          generalize askQ 2 u 1 (12 + y2) = uu at *
          generalize (askA 2 u 1 (12 + y2)) = a at *
          generalize (askE 2 u 1 (12 + y2)) = e at *
          have L1 : Hid (∀ W, Ap w W p1 p2 (2 * (k : Int) + 1) uu v bx #[.int .i64 x0, .int .i64 x1, .int .i64 x2] → Calls Try.prog 14 #[.pointer (some ⟨p1, 0, none⟩), .int .i64 0] W fun r w' => r = .returned (.int .i64 (hd (uu 0))) ∧ Ap w w' p1 p2 (2 * (k : Int) + 1) uu v bx #[.int .i64 x0, .int .i64 x1, .int .i64 x2]) := fun W h => h.hold1 0 (by decide)
          have L2 : Hid (∀ W, Ap w W p1 p2 (2 * (k : Int) + 1) uu v bx #[.int .i64 x0, .int .i64 x1, .int .i64 x2] → Calls Try.prog 14 #[.pointer (some ⟨p2, 0, none⟩), .int .i64 0] W fun r w' => r = .returned (.int .i64 (hd (uu 0))) ∧ Ap w w' p1 p2 (2 * (k : Int) + 1) uu v bx #[.int .i64 x0, .int .i64 x1, .int .i64 x2]) := fun W h => by rw [← HR2.out.same]; exact h.hold2 0 (by decide)
          have L3 : Hid (∀ W, Ap w W p1 p2 (2 * (k : Int) + 1) uu v bx #[.int .i64 x0, .int .i64 x1, .int .i64 x2] → Calls Try.prog 14 #[.pointer (some ⟨p1, 0, none⟩), .int .i64 1] W fun r w' => r = .returned (.int .i64 (hd (uu 1))) ∧ Ap w w' p1 p2 (2 * (k : Int) + 1) uu v bx #[.int .i64 x0, .int .i64 x1, .int .i64 x2]) := fun W h => h.hold1 1 (by decide)
          have Q1 : Hid (∀ W, Ap w W p1 p2 (2 * (k : Int) + 1) uu v bx #[.int .i64 x0, .int .i64 x1, .int .i64 x2] → Calls Try.prog 20 #[.pointer (some ⟨p1, 0, none⟩), .int .i64 0] W fun r w' => ∃ b, r = .returned (.slice (some ⟨b, 0, none⟩) (uu 0).length (uu 0).length) ∧ Ap w w' p1 p2 (2 * (k : Int) + 1) uu v bx #[.int .i64 x0, .int .i64 x1, .int .i64 x2]) := fun W h => h.que1
          have Q2 : Hid (∀ W, Ap w W p1 p2 (2 * (k : Int) + 1) uu v bx #[.int .i64 x0, .int .i64 x1, .int .i64 x2] → Calls Try.prog 20 #[.pointer (some ⟨p2, 0, none⟩), .int .i64 0] W fun r w' => ∃ b, r = .returned (.slice (some ⟨b, 0, none⟩) (uu 0).length (uu 0).length) ∧ Ap w w' p1 p2 (2 * (k : Int) + 1) uu v bx #[.int .i64 x0, .int .i64 x1, .int .i64 x2]) := fun W h => by rw [← HR2.out.same]; exact h.que2
          obtain ⟨hx, hy⟩ := RelA.hds HR2.out
          generalize hd (uu 0) = x at *
          generalize hd (uu 1) = y at *
          have hml : (uu 0).length ≤ 24 := hlu.out.len 0
          generalize (uu 0).length = m at *
          have e1 : (x != x) = false := by simp
          have e2 : ((m : Int) != (m : Int)) = false := by simp
          have e3 : (a != a) = false := by simp
          have e4 : (e != e) = false := by simp
          have e5 : decide (x < 12) = true := by simpa using hx
          clear HRL ht1 HLK
          rcases hy with rfl | hy
          · go_wp2_with (first | (go_at_call 9; ((with_reducible refine (CP1.out _).mono ?_); rintro e wa ⟨rfl, rfl⟩)) | (go_at_call 9; ((with_reducible refine (CP2.out _).mono ?_); rintro e wa ⟨rfl, rfl⟩)) | (go_at_call 9; ((with_reducible refine (CP0.out _).mono ?_); rintro e wa ⟨rfl, rfl⟩)) | (go_at_call 10; ((with_reducible refine (A1.out _ HP0.out).mono ?_); rintro e wb ⟨rfl, hp⟩; have HP1 := Lib.hid hp; clear hp)) | (go_at_call 14; ((with_reducible refine (L1.out _ HP1.out).mono ?_); rintro e wha ⟨rfl, hp⟩; have HA := Lib.hid hp; clear hp)) | (go_at_call 14; ((with_reducible refine (L2.out _ HA.out).mono ?_); rintro e whb ⟨rfl, hp⟩; have HB := Lib.hid hp; clear hp)) | (go_at_call 20; ((with_reducible refine (Q1.out _ HB.out).mono ?_); rintro e whc ⟨bqhc, rfl, hp⟩; have HC := Lib.hid hp; clear hp)) | (go_at_call 20; ((with_reducible refine (Q2.out _ HC.out).mono ?_); rintro e whd2 ⟨bqhd2, rfl, hp⟩; have HD2 := Lib.hid hp; clear hp)) | (go_at_call 14; ((with_reducible refine (L1.out _ HD2.out).mono ?_); rintro e whe ⟨rfl, hp⟩; have HE := Lib.hid hp; clear hp)) | (go_at_call 14; ((with_reducible refine (L3.out _ HE.out).mono ?_); rintro e whf2 ⟨rfl, hp⟩; have HF2 := Lib.hid hp; clear hp)) | (go_at_call 14; ((with_reducible refine (L3.out _ HF2.out).mono ?_); rintro e whg ⟨rfl, hp⟩; have HG := Lib.hid hp; clear hp)))
            have HZ : Hid (Bo w _ p1 p2 (2 * ((k + 1 : Nat) : Int))) := ⟨_, _, HR2.out, HF2.out.un (by have := HN.out.2; omega)⟩
            go_roundw
            case rel => exact ⟨k + 1, by go_num, by omega, by omega, HZ⟩
            case measure => simp [intOf]; omega
          · have e6 : decide (y < 0) = false := by simp; omega
            have e7 : decide (y < 12) = false := by simp; omega
            have e8 : ¬ y < 0 := by omega
            go_wp2_with (first | (go_at_call 9; ((with_reducible refine (CP1.out _).mono ?_); rintro e wa ⟨rfl, rfl⟩)) | (go_at_call 9; ((with_reducible refine (CP2.out _).mono ?_); rintro e wa ⟨rfl, rfl⟩)) | (go_at_call 9; ((with_reducible refine (CP0.out _).mono ?_); rintro e wa ⟨rfl, rfl⟩)) | (go_at_call 10; ((with_reducible refine (A1.out _ HP0.out).mono ?_); rintro e wb ⟨rfl, hp⟩; have HP1 := Lib.hid hp; clear hp)) | (go_at_call 14; ((with_reducible refine (L1.out _ HP1.out).mono ?_); rintro e wha ⟨rfl, hp⟩; have HA := Lib.hid hp; clear hp)) | (go_at_call 14; ((with_reducible refine (L2.out _ HA.out).mono ?_); rintro e whb ⟨rfl, hp⟩; have HB := Lib.hid hp; clear hp)) | (go_at_call 20; ((with_reducible refine (Q1.out _ HB.out).mono ?_); rintro e whc ⟨bqhc, rfl, hp⟩; have HC := Lib.hid hp; clear hp)) | (go_at_call 20; ((with_reducible refine (Q2.out _ HC.out).mono ?_); rintro e whd2 ⟨bqhd2, rfl, hp⟩; have HD2 := Lib.hid hp; clear hp)) | (go_at_call 14; ((with_reducible refine (L1.out _ HD2.out).mono ?_); rintro e whe ⟨rfl, hp⟩; have HE := Lib.hid hp; clear hp)) | (go_at_call 14; ((with_reducible refine (L3.out _ HE.out).mono ?_); rintro e whf2 ⟨rfl, hp⟩; have HF2 := Lib.hid hp; clear hp)) | (go_at_call 14; ((with_reducible refine (L3.out _ HF2.out).mono ?_); rintro e whg ⟨rfl, hp⟩; have HG := Lib.hid hp; clear hp)))
            have HZ : Hid (Bo w _ p1 p2 (2 * ((k + 1 : Nat) : Int))) := ⟨_, _, HR2.out, HG.out.un (by have := HN.out.2; omega)⟩
            go_roundw
            case rel => exact ⟨k + 1, by go_num, by omega, by omega, HZ⟩
            case measure => simp [intOf]; omega
        · have HLK := Lib.hid HP0.out.oks
          have ht1 : y2 < 12 := by omega
          have HIR : Hid (inR y2) := inR_small (by omega)
          obtain ⟨ea, ee, hr2⟩ := HRL.out.fre0 HLK.out.1 HLK.out.2 ht1
          have HR2 := Lib.hid hr2
          have A1 : Hid (∀ W, Ap w W p1 p2 (2 * (k : Int)) u v bx #[.int .i64 x0, .int .i64 x1, .int .i64 x2] → Calls Try.prog 12 #[.pointer (some ⟨p1, 0, none⟩), .int .i64 y2] W fun r w' => r = .returned (.tuple #[.int .i64 (freA 2 u y2), .int .i64 (freE 2 u y2)]) ∧ Ap w w' p1 p2 (2 * (k : Int)) (freQ 2 u y2) v bx #[.int .i64 x0, .int .i64 x1, .int .i64 x2]) := fun W h => h.fre1 y2 HIR.out
          have A2 : Hid (∀ W, Ap w W p1 p2 (2 * (k : Int)) (freQ 2 u y2) v bx #[.int .i64 x0, .int .i64 x1, .int .i64 x2] → Calls Try.prog 12 #[.pointer (some ⟨p2, 0, none⟩), .int .i64 y2] W fun r w' => r = .returned (.tuple #[.int .i64 (freA 2 u y2), .int .i64 (freE 2 u y2)]) ∧ Ap w w' p1 p2 (2 * (k : Int)) (freQ 2 u y2) (freQ 2 v y2) bx #[.int .i64 x0, .int .i64 x1, .int .i64 x2]) := fun W h => by have := h.fre2 y2 HIR.out; rw [ea, ee] at this; exact this
          clear hr2 ea ee
          have hlu := Lib.hid (HLK.out.1.free y2)
          generalize freQ 2 u y2 = uu at *
          generalize freQ 2 v y2 = vv at *
          generalize (freA 2 u y2) = a at *
          generalize (freE 2 u y2) = e at *
          have L1 : Hid (∀ W, Ap w W p1 p2 (2 * (k : Int)) uu vv bx #[.int .i64 x0, .int .i64 x1, .int .i64 x2] → Calls Try.prog 14 #[.pointer (some ⟨p1, 0, none⟩), .int .i64 0] W fun r w' => r = .returned (.int .i64 (hd (uu 0))) ∧ Ap w w' p1 p2 (2 * (k : Int)) uu vv bx #[.int .i64 x0, .int .i64 x1, .int .i64 x2]) := fun W h => h.hold1 0 (by decide)
          have L2 : Hid (∀ W, Ap w W p1 p2 (2 * (k : Int)) uu vv bx #[.int .i64 x0, .int .i64 x1, .int .i64 x2] → Calls Try.prog 14 #[.pointer (some ⟨p2, 0, none⟩), .int .i64 0] W fun r w' => r = .returned (.int .i64 (hd (uu 0))) ∧ Ap w w' p1 p2 (2 * (k : Int)) uu vv bx #[.int .i64 x0, .int .i64 x1, .int .i64 x2]) := fun W h => by rw [← HR2.out.same]; exact h.hold2 0 (by decide)
          have L3 : Hid (∀ W, Ap w W p1 p2 (2 * (k : Int)) uu vv bx #[.int .i64 x0, .int .i64 x1, .int .i64 x2] → Calls Try.prog 14 #[.pointer (some ⟨p1, 0, none⟩), .int .i64 1] W fun r w' => r = .returned (.int .i64 (hd (uu 1))) ∧ Ap w w' p1 p2 (2 * (k : Int)) uu vv bx #[.int .i64 x0, .int .i64 x1, .int .i64 x2]) := fun W h => h.hold1 1 (by decide)
          have Q1 : Hid (∀ W, Ap w W p1 p2 (2 * (k : Int)) uu vv bx #[.int .i64 x0, .int .i64 x1, .int .i64 x2] → Calls Try.prog 20 #[.pointer (some ⟨p1, 0, none⟩), .int .i64 0] W fun r w' => ∃ b, r = .returned (.slice (some ⟨b, 0, none⟩) (uu 0).length (uu 0).length) ∧ Ap w w' p1 p2 (2 * (k : Int)) uu vv bx #[.int .i64 x0, .int .i64 x1, .int .i64 x2]) := fun W h => h.que1
          have Q2 : Hid (∀ W, Ap w W p1 p2 (2 * (k : Int)) uu vv bx #[.int .i64 x0, .int .i64 x1, .int .i64 x2] → Calls Try.prog 20 #[.pointer (some ⟨p2, 0, none⟩), .int .i64 0] W fun r w' => ∃ b, r = .returned (.slice (some ⟨b, 0, none⟩) (uu 0).length (uu 0).length) ∧ Ap w w' p1 p2 (2 * (k : Int)) uu vv bx #[.int .i64 x0, .int .i64 x1, .int .i64 x2]) := fun W h => by rw [← HR2.out.same]; exact h.que2
          obtain ⟨hx, hy⟩ := RelA.hds HR2.out
          generalize hd (uu 0) = x at *
          generalize hd (uu 1) = y at *
          have hml : (uu 0).length ≤ 24 := hlu.out.len 0
          generalize (uu 0).length = m at *
          have e1 : (x != x) = false := by simp
          have e2 : ((m : Int) != (m : Int)) = false := by simp
          have e3 : (a != a) = false := by simp
          have e4 : (e != e) = false := by simp
          have e5 : decide (x < 12) = true := by simpa using hx
          clear HRL ht1 HLK
          rcases hy with rfl | hy
          · go_wp2_with (first | (go_at_call 9; ((with_reducible refine (CP1.out _).mono ?_); rintro e wa ⟨rfl, rfl⟩)) | (go_at_call 9; ((with_reducible refine (CP2.out _).mono ?_); rintro e wa ⟨rfl, rfl⟩)) | (go_at_call 9; ((with_reducible refine (CP0.out _).mono ?_); rintro e wa ⟨rfl, rfl⟩)) | (go_at_call 12; ((with_reducible refine (A1.out _ HP0.out).mono ?_); rintro e wb ⟨rfl, hp⟩; have HP1 := Lib.hid hp; clear hp)) | (go_at_call 12; ((with_reducible refine (A2.out _ HP1.out).mono ?_); rintro e wc ⟨rfl, hp⟩; have HP2 := Lib.hid hp; clear hp)) | (go_at_call 14; ((with_reducible refine (L1.out _ HP2.out).mono ?_); rintro e wha ⟨rfl, hp⟩; have HA := Lib.hid hp; clear hp)) | (go_at_call 14; ((with_reducible refine (L2.out _ HA.out).mono ?_); rintro e whb ⟨rfl, hp⟩; have HB := Lib.hid hp; clear hp)) | (go_at_call 20; ((with_reducible refine (Q1.out _ HB.out).mono ?_); rintro e whc ⟨bqhc, rfl, hp⟩; have HC := Lib.hid hp; clear hp)) | (go_at_call 20; ((with_reducible refine (Q2.out _ HC.out).mono ?_); rintro e whd2 ⟨bqhd2, rfl, hp⟩; have HD2 := Lib.hid hp; clear hp)) | (go_at_call 14; ((with_reducible refine (L1.out _ HD2.out).mono ?_); rintro e whe ⟨rfl, hp⟩; have HE := Lib.hid hp; clear hp)) | (go_at_call 14; ((with_reducible refine (L3.out _ HE.out).mono ?_); rintro e whf2 ⟨rfl, hp⟩; have HF2 := Lib.hid hp; clear hp)) | (go_at_call 14; ((with_reducible refine (L3.out _ HF2.out).mono ?_); rintro e whg ⟨rfl, hp⟩; have HG := Lib.hid hp; clear hp)))
            have HZ : Hid (Bo w _ p1 p2 (2 * ((k + 1 : Nat) : Int))) := ⟨_, _, HR2.out, HF2.out.un (by have := HN.out.2; omega)⟩
            go_roundw
            case rel => exact ⟨k + 1, by go_num, by omega, by omega, HZ⟩
            case measure => simp [intOf]; omega
          · have e6 : decide (y < 0) = false := by simp; omega
            have e7 : decide (y < 12) = false := by simp; omega
            have e8 : ¬ y < 0 := by omega
            go_wp2_with (first | (go_at_call 9; ((with_reducible refine (CP1.out _).mono ?_); rintro e wa ⟨rfl, rfl⟩)) | (go_at_call 9; ((with_reducible refine (CP2.out _).mono ?_); rintro e wa ⟨rfl, rfl⟩)) | (go_at_call 9; ((with_reducible refine (CP0.out _).mono ?_); rintro e wa ⟨rfl, rfl⟩)) | (go_at_call 12; ((with_reducible refine (A1.out _ HP0.out).mono ?_); rintro e wb ⟨rfl, hp⟩; have HP1 := Lib.hid hp; clear hp)) | (go_at_call 12; ((with_reducible refine (A2.out _ HP1.out).mono ?_); rintro e wc ⟨rfl, hp⟩; have HP2 := Lib.hid hp; clear hp)) | (go_at_call 14; ((with_reducible refine (L1.out _ HP2.out).mono ?_); rintro e wha ⟨rfl, hp⟩; have HA := Lib.hid hp; clear hp)) | (go_at_call 14; ((with_reducible refine (L2.out _ HA.out).mono ?_); rintro e whb ⟨rfl, hp⟩; have HB := Lib.hid hp; clear hp)) | (go_at_call 20; ((with_reducible refine (Q1.out _ HB.out).mono ?_); rintro e whc ⟨bqhc, rfl, hp⟩; have HC := Lib.hid hp; clear hp)) | (go_at_call 20; ((with_reducible refine (Q2.out _ HC.out).mono ?_); rintro e whd2 ⟨bqhd2, rfl, hp⟩; have HD2 := Lib.hid hp; clear hp)) | (go_at_call 14; ((with_reducible refine (L1.out _ HD2.out).mono ?_); rintro e whe ⟨rfl, hp⟩; have HE := Lib.hid hp; clear hp)) | (go_at_call 14; ((with_reducible refine (L3.out _ HE.out).mono ?_); rintro e whf2 ⟨rfl, hp⟩; have HF2 := Lib.hid hp; clear hp)) | (go_at_call 14; ((with_reducible refine (L3.out _ HF2.out).mono ?_); rintro e whg ⟨rfl, hp⟩; have HG := Lib.hid hp; clear hp)))
            have HZ : Hid (Bo w _ p1 p2 (2 * ((k + 1 : Nat) : Int))) := ⟨_, _, HR2.out, HG.out.un (by have := HN.out.2; omega)⟩
            go_roundw
            case rel => exact ⟨k + 1, by go_num, by omega, by omega, HZ⟩
            case measure => simp [intOf]; omega
        · have HLK := Lib.hid HP0.out.oks
          have ht1 : 12 ≤ 12 + y2 := by omega
          have HIR : Hid (inR (12 + y2)) := inR_small (by omega)
          have hr2 := HRL.out.fre1 HLK.out.1 ht1
          have HR2 := Lib.hid hr2
          have A1 : Hid (∀ W, Ap w W p1 p2 (2 * (k : Int)) u v bx #[.int .i64 x0, .int .i64 x1, .int .i64 x2] → Calls Try.prog 12 #[.pointer (some ⟨p1, 0, none⟩), .int .i64 (12 + y2)] W fun r w' => r = .returned (.tuple #[.int .i64 (freA 2 u (12 + y2)), .int .i64 (freE 2 u (12 + y2))]) ∧ Ap w w' p1 p2 (2 * (k : Int)) (freQ 2 u (12 + y2)) v bx #[.int .i64 x0, .int .i64 x1, .int .i64 x2]) := fun W h => h.fre1 (12 + y2) HIR.out
          clear hr2
          have hlu := Lib.hid (HLK.out.1.free (12 + y2))
          generalize freQ 2 u (12 + y2) = uu at *
          generalize (freA 2 u (12 + y2)) = a at *
          generalize (freE 2 u (12 + y2)) = e at *
          have L1 : Hid (∀ W, Ap w W p1 p2 (2 * (k : Int)) uu v bx #[.int .i64 x0, .int .i64 x1, .int .i64 x2] → Calls Try.prog 14 #[.pointer (some ⟨p1, 0, none⟩), .int .i64 0] W fun r w' => r = .returned (.int .i64 (hd (uu 0))) ∧ Ap w w' p1 p2 (2 * (k : Int)) uu v bx #[.int .i64 x0, .int .i64 x1, .int .i64 x2]) := fun W h => h.hold1 0 (by decide)
          have L2 : Hid (∀ W, Ap w W p1 p2 (2 * (k : Int)) uu v bx #[.int .i64 x0, .int .i64 x1, .int .i64 x2] → Calls Try.prog 14 #[.pointer (some ⟨p2, 0, none⟩), .int .i64 0] W fun r w' => r = .returned (.int .i64 (hd (uu 0))) ∧ Ap w w' p1 p2 (2 * (k : Int)) uu v bx #[.int .i64 x0, .int .i64 x1, .int .i64 x2]) := fun W h => by rw [← HR2.out.same]; exact h.hold2 0 (by decide)
          have L3 : Hid (∀ W, Ap w W p1 p2 (2 * (k : Int)) uu v bx #[.int .i64 x0, .int .i64 x1, .int .i64 x2] → Calls Try.prog 14 #[.pointer (some ⟨p1, 0, none⟩), .int .i64 1] W fun r w' => r = .returned (.int .i64 (hd (uu 1))) ∧ Ap w w' p1 p2 (2 * (k : Int)) uu v bx #[.int .i64 x0, .int .i64 x1, .int .i64 x2]) := fun W h => h.hold1 1 (by decide)
          have Q1 : Hid (∀ W, Ap w W p1 p2 (2 * (k : Int)) uu v bx #[.int .i64 x0, .int .i64 x1, .int .i64 x2] → Calls Try.prog 20 #[.pointer (some ⟨p1, 0, none⟩), .int .i64 0] W fun r w' => ∃ b, r = .returned (.slice (some ⟨b, 0, none⟩) (uu 0).length (uu 0).length) ∧ Ap w w' p1 p2 (2 * (k : Int)) uu v bx #[.int .i64 x0, .int .i64 x1, .int .i64 x2]) := fun W h => h.que1
          have Q2 : Hid (∀ W, Ap w W p1 p2 (2 * (k : Int)) uu v bx #[.int .i64 x0, .int .i64 x1, .int .i64 x2] → Calls Try.prog 20 #[.pointer (some ⟨p2, 0, none⟩), .int .i64 0] W fun r w' => ∃ b, r = .returned (.slice (some ⟨b, 0, none⟩) (uu 0).length (uu 0).length) ∧ Ap w w' p1 p2 (2 * (k : Int)) uu v bx #[.int .i64 x0, .int .i64 x1, .int .i64 x2]) := fun W h => by rw [← HR2.out.same]; exact h.que2
          obtain ⟨hx, hy⟩ := RelA.hds HR2.out
          generalize hd (uu 0) = x at *
          generalize hd (uu 1) = y at *
          have hml : (uu 0).length ≤ 24 := hlu.out.len 0
          generalize (uu 0).length = m at *
          have e1 : (x != x) = false := by simp
          have e2 : ((m : Int) != (m : Int)) = false := by simp
          have e3 : (a != a) = false := by simp
          have e4 : (e != e) = false := by simp
          have e5 : decide (x < 12) = true := by simpa using hx
          clear HRL ht1 HLK
          rcases hy with rfl | hy
          · go_wp2_with (first | (go_at_call 9; ((with_reducible refine (CP1.out _).mono ?_); rintro e wa ⟨rfl, rfl⟩)) | (go_at_call 9; ((with_reducible refine (CP2.out _).mono ?_); rintro e wa ⟨rfl, rfl⟩)) | (go_at_call 9; ((with_reducible refine (CP0.out _).mono ?_); rintro e wa ⟨rfl, rfl⟩)) | (go_at_call 12; ((with_reducible refine (A1.out _ HP0.out).mono ?_); rintro e wb ⟨rfl, hp⟩; have HP1 := Lib.hid hp; clear hp)) | (go_at_call 14; ((with_reducible refine (L1.out _ HP1.out).mono ?_); rintro e wha ⟨rfl, hp⟩; have HA := Lib.hid hp; clear hp)) | (go_at_call 14; ((with_reducible refine (L2.out _ HA.out).mono ?_); rintro e whb ⟨rfl, hp⟩; have HB := Lib.hid hp; clear hp)) | (go_at_call 20; ((with_reducible refine (Q1.out _ HB.out).mono ?_); rintro e whc ⟨bqhc, rfl, hp⟩; have HC := Lib.hid hp; clear hp)) | (go_at_call 20; ((with_reducible refine (Q2.out _ HC.out).mono ?_); rintro e whd2 ⟨bqhd2, rfl, hp⟩; have HD2 := Lib.hid hp; clear hp)) | (go_at_call 14; ((with_reducible refine (L1.out _ HD2.out).mono ?_); rintro e whe ⟨rfl, hp⟩; have HE := Lib.hid hp; clear hp)) | (go_at_call 14; ((with_reducible refine (L3.out _ HE.out).mono ?_); rintro e whf2 ⟨rfl, hp⟩; have HF2 := Lib.hid hp; clear hp)) | (go_at_call 14; ((with_reducible refine (L3.out _ HF2.out).mono ?_); rintro e whg ⟨rfl, hp⟩; have HG := Lib.hid hp; clear hp)))
            have HZ : Hid (Bo w _ p1 p2 (2 * ((k + 1 : Nat) : Int))) := ⟨_, _, HR2.out, HF2.out.un (by have := HN.out.2; omega)⟩
            go_roundw
            case rel => exact ⟨k + 1, by go_num, by omega, by omega, HZ⟩
            case measure => simp [intOf]; omega
          · have e6 : decide (y < 0) = false := by simp; omega
            have e7 : decide (y < 12) = false := by simp; omega
            have e8 : ¬ y < 0 := by omega
            go_wp2_with (first | (go_at_call 9; ((with_reducible refine (CP1.out _).mono ?_); rintro e wa ⟨rfl, rfl⟩)) | (go_at_call 9; ((with_reducible refine (CP2.out _).mono ?_); rintro e wa ⟨rfl, rfl⟩)) | (go_at_call 9; ((with_reducible refine (CP0.out _).mono ?_); rintro e wa ⟨rfl, rfl⟩)) | (go_at_call 12; ((with_reducible refine (A1.out _ HP0.out).mono ?_); rintro e wb ⟨rfl, hp⟩; have HP1 := Lib.hid hp; clear hp)) | (go_at_call 14; ((with_reducible refine (L1.out _ HP1.out).mono ?_); rintro e wha ⟨rfl, hp⟩; have HA := Lib.hid hp; clear hp)) | (go_at_call 14; ((with_reducible refine (L2.out _ HA.out).mono ?_); rintro e whb ⟨rfl, hp⟩; have HB := Lib.hid hp; clear hp)) | (go_at_call 20; ((with_reducible refine (Q1.out _ HB.out).mono ?_); rintro e whc ⟨bqhc, rfl, hp⟩; have HC := Lib.hid hp; clear hp)) | (go_at_call 20; ((with_reducible refine (Q2.out _ HC.out).mono ?_); rintro e whd2 ⟨bqhd2, rfl, hp⟩; have HD2 := Lib.hid hp; clear hp)) | (go_at_call 14; ((with_reducible refine (L1.out _ HD2.out).mono ?_); rintro e whe ⟨rfl, hp⟩; have HE := Lib.hid hp; clear hp)) | (go_at_call 14; ((with_reducible refine (L3.out _ HE.out).mono ?_); rintro e whf2 ⟨rfl, hp⟩; have HF2 := Lib.hid hp; clear hp)) | (go_at_call 14; ((with_reducible refine (L3.out _ HF2.out).mono ?_); rintro e whg ⟨rfl, hp⟩; have HG := Lib.hid hp; clear hp)))
            have HZ : Hid (Bo w _ p1 p2 (2 * ((k + 1 : Nat) : Int))) := ⟨_, _, HR2.out, HG.out.un (by have := HN.out.2; omega)⟩
            go_roundw
            case rel => exact ⟨k + 1, by go_num, by omega, by omega, HZ⟩
            case measure => simp [intOf]; omega
      · have k2 : decide ((k : Int) < 200) = false := by simp; omega
        have HG : Hid (But No w wr) := by obtain ⟨u, v, _, hh, _⟩ := HB.out; exact hh
        have E1 := Lib.hid (end1 HB.out)
        have E2 := Lib.hid (end2 HB.out)
        go_wp2_with (first
          | (go_at_call 14; ((with_reducible refine (E1.out _ (But.refl _ _)).mono ?_); rintro e wa ⟨rfl, hz⟩; have HZ := Lib.hid hz; clear hz))
          | (go_at_call 14; ((with_reducible refine (E2.out _ HZ.out).mono ?_); rintro e wa ⟨rfl, hz⟩; have HZ2 := Lib.hid hz; clear hz)))
        go_ret
        exact ⟨rfl, HG.out.trans HZ2.out⟩
    · have kn : decide ((k : Int) < (n : Int)) = false := by simp; omega
      have HG : Hid (But No w wr) := by obtain ⟨u, v, _, hh, _⟩ := HB.out; exact hh
      have E1 := Lib.hid (end1 HB.out)
      have E2 := Lib.hid (end2 HB.out)
      go_wp2_with (first
        | (go_at_call 14; ((with_reducible refine (E1.out _ (But.refl _ _)).mono ?_); rintro e wa ⟨rfl, hz⟩; have HZ := Lib.hid hz; clear hz))
        | (go_at_call 14; ((with_reducible refine (E2.out _ HZ.out).mono ?_); rintro e wa ⟨rfl, hz⟩; have HZ2 := Lib.hid hz; clear hz)))
      go_ret
      exact ⟨rfl, HG.out.trans HZ2.out⟩
end Go.Proofs.Ytimkdcpghhkloaa.locksApart
