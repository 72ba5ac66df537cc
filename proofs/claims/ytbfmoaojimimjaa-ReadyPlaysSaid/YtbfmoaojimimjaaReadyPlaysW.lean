/- ReadyPlays: the walk. -/
import Derived.Test.YtbfmoaojimimjaaR6
import Derived.Test.YtbfmoaojimimjaaD
namespace Go.Proofs.Ytbfmoaojimimjaa.readyPlays
open Go.ChangeShapes Go.WideShapes Go.ChangeAt Go.RowKit Go.Deep Go.Proofs.Ytbfmoaojimimjaa
/-- Both queues after some deeds. -/
def Bo (w0 w : World) (q x : Nat) (pol : Int) (n : Int) : Prop :=
  ∃ L K, Rel K L ∧ But No w0 w ∧ ∃ S S2 : Nat → Prop, QP w S q pol n L ∧ RF w S2 x pol K ∧ (∀ k, S k → ¬ S2 k) ∧ (∀ k, S k → w0.heap.size ≤ k) ∧ (∀ k, S2 k → w0.heap.size ≤ k)
theorem Bo.box {w0 w : World} {q x : Nat} {pol n : Int} (h : Bo w0 w q x pol n) : ∃ L K, Rel K L ∧ ∀ cur, Pb w0 (w.alloc (.cells cur 31)) q x pol n L K w.heap.size cur := by
  obtain ⟨L, K, hr, hb, S, S2, h1, h2, h3, h4, h5⟩ := h
  refine ⟨L, K, hr, fun cur => ?_⟩
  have hB : But No w (w.alloc (.cells cur 31)) := (But.refl No w).alloc _
  exact ⟨⟨S, S2, h1.but hB (fun _ _ f => f), h2.but hB (fun _ _ f => f), h3, h4, h5, fun e => by have := h1.lt _ e; omega, fun e => by have := h2.lt _ e; omega⟩, Blk.new w _ _, hb.trans hB⟩
theorem next_bo {w0 w : World} {q x bx k : Nat} {pol : Int} {L : List E} {K : List One} {cur : Array Value} (h : Pb w0 w q x pol ((k : Int) + 1) L K bx cur) (hr : Rel K L) : Hid (Bo w0 w q x pol ((k + 1 : Nat) : Int)) := by
  obtain ⟨S, S2, h1, h2, h3, h4, h5, _⟩ := h.ex
  have e : ((k + 1 : Nat) : Int) = (k : Int) + 1 := by omega
  show Bo _ _ _ _ _ _
  rw [e]
  exact ⟨L, K, hr, h.but, S, S2, h1, h2, h3, h4, h5⟩
theorem bx3 {w0 w : World} {q x bx : Nat} {pol n : Int} {L : List E} {K : List One} {a b c : Int} (h : Pb w0 w q x pol n L K bx #[.int .i64 a, .int .i64 b, .int .i64 c]) :
    w.cell? ⟨bx, 0, none⟩ = some (.int .i64 a) ∧ w.cell? ⟨bx, 1, none⟩ = some (.int .i64 b) ∧ w.cell? ⟨bx, 2, none⟩ = some (.int .i64 c) :=
  ⟨h.blk.cell (o := 0) rfl, h.blk.cell (o := 1) rfl, h.blk.cell (o := 2) rfl⟩
theorem same_lists {w w' : World} {L : List E} {b c : Nat} {A : Option Addr} (hq : QOK L) (hb : Blk w b ((L.map E.t).map (Value.int .i64)).toArray 3) (hbut : But No w w') (ho : Ov w' (.slice A L.length c) (L.map E.t)) :
    Calls Try.prog 21 #[.slice (some ⟨b, 0, none⟩) L.length L.length, .slice A L.length c] w' fun e w2 => e = .returned (.bool true) ∧ But No w' w2 := by
  have hl := hq.len
  have r1 := blk_rl (hb.but hbut (fun f => f)) (by rw [List.length_map]; omega)
  rw [List.length_map] at r1
  have r2 := (ho.rl (by rw [List.length_map]; omega)).1
  have := numbers_any (some ⟨b, 0, none⟩) A L.length L.length L.length c (L.map E.t) (L.map E.t) w' r1 r2
  rw [decide_eq_true rfl] at this
  exact this
set_option maxHeartbeats 8000000 in
set_option maxRecDepth 100000 in
theorem walk (pol : Int) (_ : (Lit.int .i64 pol).wf = true) (A : Option Addr) (n c : Nat) (kd di dk : Nat → Int) (w : World) (hd : RdD w A n kd di dk) :
    Calls Try.prog 3 #[.int .i64 pol, .slice A n c] w fun e w' => e = .returned (.bool true) ∧ But No w w' := by
  have HD := Lib.hid hd
  have hmx := hd.max
  clear hd
  by_cases hp : pol = 1 ∨ pol = 2
  · have HP := Lib.hid hp
    clear hp
    go_enter Try.func3, Try.ntmps3
    go_wp2_with fail
    refine (examples_any w).mono ?_
    rintro e w1 ⟨rfl, hb1⟩
    have HB1 := Lib.hid hb1
    clear hb1
    go_wp2_with fail
    refine (new_any pol w1 HP.out).mono ?_
    rintro e w2 ⟨q, S, rfl, h1, hb, hs⟩
    have H1 := Lib.hid (Hw.made h1 HB1.out hb hs)
    clear h1 hb hs HB1
    go_wp2_with fail
    refine (rnew_any pol w2 HP.out).mono ?_
    rintro e w3 ⟨x, S2, rfl, h1, hb, hs⟩
    have H2 : Hid (Bo w w3 q x pol 0) := by
      have hlt := H1.out.qp.lt
      have hsz := H1.out.but.size
      exact ⟨[], [], Rel.nil, H1.out.but.trans hb, S, S2, H1.out.qp.but hb (fun _ _ f => f), h1, fun j hj e => by have := hlt j hj; have := hs j e; omega, H1.out.new, fun j hj => Nat.le_trans hsz (hs j hj)⟩
    clear h1 hb hs H1
    go_wp2_with fail
    go_loopw [9] (fun i wr => ∃ k : Nat, i = .int .i64 (k : Int) ∧ k ≤ n ∧ k ≤ 200 ∧ Hid (Bo w wr q x pol k)) (fun i _ => n - (intOf i).toNat)
    case atStart => exact ⟨0, rfl, by omega, by omega, H2⟩
    case round =>
      clear H2
      obtain ⟨k, rfl, hk, hk2, HB⟩ := hrel
      by_cases hlt : k < n
      · have kn : (k : Int) < (n : Int) := by omega
        by_cases h2 : k < 200
        · have k2 : (k : Int) < 200 := by omega
          have hbut : But No w wr := by obtain ⟨_, _, _, hh, _⟩ := HB.out; exact hh
          obtain ⟨b, off, rfl, hlb, hc⟩ := (HD.out.no hbut).at_ (by omega)
          obtain ⟨c0, c1, c2⟩ := hc k hlt
          have HF := Lib.hid (HD.out.fit k hlt)
          obtain ⟨L, K, hrl, hbox⟩ := HB.out.box
          have HRL := Lib.hid hrl
          have HBOX := Lib.hid (hbox #[.int .i64 (kd k), .int .i64 (di k), .int .i64 (dk k)])
          clear hc hbut hrl hbox
          generalize kd k = kd0 at *
          generalize di k = t at *
          generalize dk k = l at *
          have HT : Hid (inR t) := HF.out.2.1
          go_wp2_with fail
          generalize hw4 : wr.alloc (.cells #[.int .i64 kd0, .int .i64 t, .int .i64 l] 31) = w4 at *
          clear hw4
          generalize wr.heap.size = bx at *
          have HP0 := Lib.hid HBOX.out
          have HQ := Lib.hid HBOX.out.ok
          obtain ⟨u0, u1, u2⟩ := bx3 HBOX.out
          have hpl := pk_lt kd0 4 (by omega)
          clear HBOX c0 c1 c2 hlb
          rcases (by omega : pk kd0 4 = 0 ∨ pk kd0 4 = 1 ∨ pk kd0 4 = 2 ∨ pk kd0 4 = 3) with hpk | hpk | hpk | hpk
          · have CP : Hid (∀ W, Calls Try.prog 10 #[.int .i64 kd0, .int .i64 4] W fun r w' => r = .returned (.int .i64 0) ∧ W = w') := fun W => by have := pick_any kd0 4 W HF.out.1 (by omega) (by omega); rw [hpk] at this; exact this
            have P1 : Hid (∀ W, Pb w W q x pol k L K bx #[.int .i64 kd0, .int .i64 t, .int .i64 l] → Calls Try.prog 11 #[.pointer (some ⟨q, 0, none⟩), .int .i64 t, .int .i64 l] W fun r w' => r = .returned (.int .i64 (addN L t l)) ∧ Pb w w' q x pol (k + 1) (addL L t l) K bx #[.int .i64 kd0, .int .i64 t, .int .i64 l]) := fun W h => h.add t l (by omega)
            have P2 : Hid (∀ W, Pb w W q x pol (k + 1) (addL L t l) K bx #[.int .i64 kd0, .int .i64 t, .int .i64 l] → Calls Try.prog 12 #[.pointer (some ⟨x, 0, none⟩), .int .i64 t, .int .i64 l] W fun r w' => r = .returned (.int .i64 (addN L t l)) ∧ ∃ K', Pb w w' q x pol (k + 1) (addL L t l) K' bx #[.int .i64 kd0, .int .i64 t, .int .i64 l] ∧ Rel K' (addL L t l)) := fun W h => h.radd t l HRL.out HQ.out
            generalize addL L t l = L2 at *
            generalize addN L t l = rr at *
            have y1 : (rr != rr) = false := by simp
            have y2 : (levV t L2 != levV t L2) = false := by simp
            have y3 : (hasT t L2 != hasT t L2) = false := by simp
            have y4 : (firE L2 != firE L2) = false := by simp
            clear hpk
            go_wp2_with (first | (go_at_call 10; ((with_reducible refine (CP.out _).mono ?_); rintro e wa ⟨rfl, rfl⟩)) | (go_at_call 11; ((with_reducible refine (P1.out _ HP0.out).mono ?_); rintro e wb ⟨rfl, hp⟩; obtain ⟨u0, u1, u2⟩ := bx3 hp; have HP1 := Lib.hid hp; clear hp)) | (go_at_call 12; ((with_reducible refine (P2.out _ HP1.out).mono ?_); rintro e wc ⟨rfl, K2, hp, hr⟩; obtain ⟨u0, u1, u2⟩ := bx3 hp; have HP2 := Lib.hid hp; have HR2 := Lib.hid hr; clear hp hr)) | (go_at_call 19; ((with_reducible refine (HP2.out.lev t HT.out).mono ?_); rintro e wd ⟨rfl, hp⟩; obtain ⟨u0, u1, u2⟩ := bx3 hp; have HP3 := Lib.hid hp; clear hp)) | (go_at_call 20; ((with_reducible refine (HP3.out.rlev t HR2.out).mono ?_); rintro e we ⟨rfl, hp⟩; have HP4 := Lib.hid hp; clear hp)) | (go_at_call 22; ((with_reducible refine HP4.out.all.mono ?_); rintro e wf ⟨b3, rfl, hbk, hp⟩; have HP5 := Lib.hid hp; have BK5 := Lib.hid hbk; clear hp hbk)) | (go_at_call 23; ((with_reducible refine (HP5.out.rall HR2.out).mono ?_); rintro e wg ⟨A3, c3, rfl, ho, hb, hp⟩; have HP6 := Lib.hid hp; have CN := Lib.hid (same_lists HP5.out.ok BK5.out hb ho); clear hp ho hb)) | (go_at_call 21; ((with_reducible refine CN.out.mono ?_); rintro e wh ⟨rfl, hb⟩; have HP7 := Lib.hid (HP6.out.no hb); clear hb)) | (go_at_call 24; ((with_reducible refine HP7.out.fir.mono ?_); rintro e wi ⟨rfl, hp⟩; have HP8 := Lib.hid hp; clear hp)) | (go_at_call 25; ((with_reducible refine (HP8.out.rfir HR2.out).mono ?_); rintro e wj ⟨rfl, hp⟩; have HP9 := Lib.hid hp; clear hp)))
            go_roundw
            case rel => exact ⟨k + 1, by go_num, by omega, by omega, next_bo HP9.out HR2.out⟩
            case measure => simp [intOf]; omega
          · have CP : Hid (∀ W, Calls Try.prog 10 #[.int .i64 kd0, .int .i64 4] W fun r w' => r = .returned (.int .i64 1) ∧ W = w') := fun W => by have := pick_any kd0 4 W HF.out.1 (by omega) (by omega); rw [hpk] at this; exact this
            have P1 : Hid (∀ W, Pb w W q x pol k L K bx #[.int .i64 kd0, .int .i64 t, .int .i64 l] → Calls Try.prog 13 #[.pointer (some ⟨q, 0, none⟩), .int .i64 t, .int .i64 l] W fun r w' => r = .returned (.int .i64 (raiN pol L t l)) ∧ Pb w w' q x pol (k + 1) (raiL pol L t l) K bx #[.int .i64 kd0, .int .i64 t, .int .i64 l]) := fun W h => h.rai t l (by omega)
            have P2 : Hid (∀ W, Pb w W q x pol (k + 1) (raiL pol L t l) K bx #[.int .i64 kd0, .int .i64 t, .int .i64 l] → Calls Try.prog 14 #[.pointer (some ⟨x, 0, none⟩), .int .i64 t, .int .i64 l] W fun r w' => r = .returned (.int .i64 (raiN pol L t l)) ∧ ∃ K', Pb w w' q x pol (k + 1) (raiL pol L t l) K' bx #[.int .i64 kd0, .int .i64 t, .int .i64 l] ∧ Rel K' (raiL pol L t l)) := fun W h => h.rrai t l HRL.out HQ.out
            generalize raiL pol L t l = L2 at *
            generalize raiN pol L t l = rr at *
            have y1 : (rr != rr) = false := by simp
            have y2 : (levV t L2 != levV t L2) = false := by simp
            have y3 : (hasT t L2 != hasT t L2) = false := by simp
            have y4 : (firE L2 != firE L2) = false := by simp
            clear hpk
            go_wp2_with (first | (go_at_call 10; ((with_reducible refine (CP.out _).mono ?_); rintro e wa ⟨rfl, rfl⟩)) | (go_at_call 13; ((with_reducible refine (P1.out _ HP0.out).mono ?_); rintro e wb ⟨rfl, hp⟩; obtain ⟨u0, u1, u2⟩ := bx3 hp; have HP1 := Lib.hid hp; clear hp)) | (go_at_call 14; ((with_reducible refine (P2.out _ HP1.out).mono ?_); rintro e wc ⟨rfl, K2, hp, hr⟩; obtain ⟨u0, u1, u2⟩ := bx3 hp; have HP2 := Lib.hid hp; have HR2 := Lib.hid hr; clear hp hr)) | (go_at_call 19; ((with_reducible refine (HP2.out.lev t HT.out).mono ?_); rintro e wd ⟨rfl, hp⟩; obtain ⟨u0, u1, u2⟩ := bx3 hp; have HP3 := Lib.hid hp; clear hp)) | (go_at_call 20; ((with_reducible refine (HP3.out.rlev t HR2.out).mono ?_); rintro e we ⟨rfl, hp⟩; have HP4 := Lib.hid hp; clear hp)) | (go_at_call 22; ((with_reducible refine HP4.out.all.mono ?_); rintro e wf ⟨b3, rfl, hbk, hp⟩; have HP5 := Lib.hid hp; have BK5 := Lib.hid hbk; clear hp hbk)) | (go_at_call 23; ((with_reducible refine (HP5.out.rall HR2.out).mono ?_); rintro e wg ⟨A3, c3, rfl, ho, hb, hp⟩; have HP6 := Lib.hid hp; have CN := Lib.hid (same_lists HP5.out.ok BK5.out hb ho); clear hp ho hb)) | (go_at_call 21; ((with_reducible refine CN.out.mono ?_); rintro e wh ⟨rfl, hb⟩; have HP7 := Lib.hid (HP6.out.no hb); clear hb)) | (go_at_call 24; ((with_reducible refine HP7.out.fir.mono ?_); rintro e wi ⟨rfl, hp⟩; have HP8 := Lib.hid hp; clear hp)) | (go_at_call 25; ((with_reducible refine (HP8.out.rfir HR2.out).mono ?_); rintro e wj ⟨rfl, hp⟩; have HP9 := Lib.hid hp; clear hp)))
            go_roundw
            case rel => exact ⟨k + 1, by go_num, by omega, by omega, next_bo HP9.out HR2.out⟩
            case measure => simp [intOf]; omega
          · have CP : Hid (∀ W, Calls Try.prog 10 #[.int .i64 kd0, .int .i64 4] W fun r w' => r = .returned (.int .i64 2) ∧ W = w') := fun W => by have := pick_any kd0 4 W HF.out.1 (by omega) (by omega); rw [hpk] at this; exact this
            have P1 : Hid (∀ W, Pb w W q x pol k L K bx #[.int .i64 kd0, .int .i64 t, .int .i64 l] → Calls Try.prog 15 #[.pointer (some ⟨q, 0, none⟩), .int .i64 t] W fun r w' => r = .returned (.int .i64 (falN L t)) ∧ Pb w w' q x pol (k + 1) (falL L t) K bx #[.int .i64 kd0, .int .i64 t, .int .i64 l]) := fun W h => h.fal t (by omega) HT.out
            have P2 : Hid (∀ W, Pb w W q x pol (k + 1) (falL L t) K bx #[.int .i64 kd0, .int .i64 t, .int .i64 l] → Calls Try.prog 16 #[.pointer (some ⟨x, 0, none⟩), .int .i64 t] W fun r w' => r = .returned (.int .i64 (falN L t)) ∧ ∃ K', Pb w w' q x pol (k + 1) (falL L t) K' bx #[.int .i64 kd0, .int .i64 t, .int .i64 l] ∧ Rel K' (falL L t)) := fun W h => h.rfal t HRL.out HQ.out
            generalize falL L t = L2 at *
            generalize falN L t = rr at *
            have y1 : (rr != rr) = false := by simp
            have y2 : (levV t L2 != levV t L2) = false := by simp
            have y3 : (hasT t L2 != hasT t L2) = false := by simp
            have y4 : (firE L2 != firE L2) = false := by simp
            clear hpk
            go_wp2_with (first | (go_at_call 10; ((with_reducible refine (CP.out _).mono ?_); rintro e wa ⟨rfl, rfl⟩)) | (go_at_call 15; ((with_reducible refine (P1.out _ HP0.out).mono ?_); rintro e wb ⟨rfl, hp⟩; obtain ⟨u0, u1, u2⟩ := bx3 hp; have HP1 := Lib.hid hp; clear hp)) | (go_at_call 16; ((with_reducible refine (P2.out _ HP1.out).mono ?_); rintro e wc ⟨rfl, K2, hp, hr⟩; obtain ⟨u0, u1, u2⟩ := bx3 hp; have HP2 := Lib.hid hp; have HR2 := Lib.hid hr; clear hp hr)) | (go_at_call 19; ((with_reducible refine (HP2.out.lev t HT.out).mono ?_); rintro e wd ⟨rfl, hp⟩; obtain ⟨u0, u1, u2⟩ := bx3 hp; have HP3 := Lib.hid hp; clear hp)) | (go_at_call 20; ((with_reducible refine (HP3.out.rlev t HR2.out).mono ?_); rintro e we ⟨rfl, hp⟩; have HP4 := Lib.hid hp; clear hp)) | (go_at_call 22; ((with_reducible refine HP4.out.all.mono ?_); rintro e wf ⟨b3, rfl, hbk, hp⟩; have HP5 := Lib.hid hp; have BK5 := Lib.hid hbk; clear hp hbk)) | (go_at_call 23; ((with_reducible refine (HP5.out.rall HR2.out).mono ?_); rintro e wg ⟨A3, c3, rfl, ho, hb, hp⟩; have HP6 := Lib.hid hp; have CN := Lib.hid (same_lists HP5.out.ok BK5.out hb ho); clear hp ho hb)) | (go_at_call 21; ((with_reducible refine CN.out.mono ?_); rintro e wh ⟨rfl, hb⟩; have HP7 := Lib.hid (HP6.out.no hb); clear hb)) | (go_at_call 24; ((with_reducible refine HP7.out.fir.mono ?_); rintro e wi ⟨rfl, hp⟩; have HP8 := Lib.hid hp; clear hp)) | (go_at_call 25; ((with_reducible refine (HP8.out.rfir HR2.out).mono ?_); rintro e wj ⟨rfl, hp⟩; have HP9 := Lib.hid hp; clear hp)))
            go_roundw
            case rel => exact ⟨k + 1, by go_num, by omega, by omega, next_bo HP9.out HR2.out⟩
            case measure => simp [intOf]; omega
          · have CP : Hid (∀ W, Calls Try.prog 10 #[.int .i64 kd0, .int .i64 4] W fun r w' => r = .returned (.int .i64 3) ∧ W = w') := fun W => by have := pick_any kd0 4 W HF.out.1 (by omega) (by omega); rw [hpk] at this; exact this
            have P1 : Hid (∀ W, Pb w W q x pol k L K bx #[.int .i64 kd0, .int .i64 t, .int .i64 l] → Calls Try.prog 17 #[.pointer (some ⟨q, 0, none⟩), .int .i64 t] W fun r w' => r = .returned (.int .i64 (falN L t)) ∧ Pb w w' q x pol (k + 1) (delE t L) K bx #[.int .i64 kd0, .int .i64 t, .int .i64 l]) := fun W h => h.rem t HT.out
            have P2 : Hid (∀ W, Pb w W q x pol (k + 1) (delE t L) K bx #[.int .i64 kd0, .int .i64 t, .int .i64 l] → Calls Try.prog 18 #[.pointer (some ⟨x, 0, none⟩), .int .i64 t] W fun r w' => r = .returned (.int .i64 (falN L t)) ∧ ∃ K', Pb w w' q x pol (k + 1) (delE t L) K' bx #[.int .i64 kd0, .int .i64 t, .int .i64 l] ∧ Rel K' (delE t L)) := fun W h => h.rrem t HRL.out HQ.out
            generalize delE t L = L2 at *
            generalize falN L t = rr at *
            have y1 : (rr != rr) = false := by simp
            have y2 : (levV t L2 != levV t L2) = false := by simp
            have y3 : (hasT t L2 != hasT t L2) = false := by simp
            have y4 : (firE L2 != firE L2) = false := by simp
            clear hpk
            go_wp2_with (first | (go_at_call 10; ((with_reducible refine (CP.out _).mono ?_); rintro e wa ⟨rfl, rfl⟩)) | (go_at_call 17; ((with_reducible refine (P1.out _ HP0.out).mono ?_); rintro e wb ⟨rfl, hp⟩; obtain ⟨u0, u1, u2⟩ := bx3 hp; have HP1 := Lib.hid hp; clear hp)) | (go_at_call 18; ((with_reducible refine (P2.out _ HP1.out).mono ?_); rintro e wc ⟨rfl, K2, hp, hr⟩; obtain ⟨u0, u1, u2⟩ := bx3 hp; have HP2 := Lib.hid hp; have HR2 := Lib.hid hr; clear hp hr)) | (go_at_call 19; ((with_reducible refine (HP2.out.lev t HT.out).mono ?_); rintro e wd ⟨rfl, hp⟩; obtain ⟨u0, u1, u2⟩ := bx3 hp; have HP3 := Lib.hid hp; clear hp)) | (go_at_call 20; ((with_reducible refine (HP3.out.rlev t HR2.out).mono ?_); rintro e we ⟨rfl, hp⟩; have HP4 := Lib.hid hp; clear hp)) | (go_at_call 22; ((with_reducible refine HP4.out.all.mono ?_); rintro e wf ⟨b3, rfl, hbk, hp⟩; have HP5 := Lib.hid hp; have BK5 := Lib.hid hbk; clear hp hbk)) | (go_at_call 23; ((with_reducible refine (HP5.out.rall HR2.out).mono ?_); rintro e wg ⟨A3, c3, rfl, ho, hb, hp⟩; have HP6 := Lib.hid hp; have CN := Lib.hid (same_lists HP5.out.ok BK5.out hb ho); clear hp ho hb)) | (go_at_call 21; ((with_reducible refine CN.out.mono ?_); rintro e wh ⟨rfl, hb⟩; have HP7 := Lib.hid (HP6.out.no hb); clear hb)) | (go_at_call 24; ((with_reducible refine HP7.out.fir.mono ?_); rintro e wi ⟨rfl, hp⟩; have HP8 := Lib.hid hp; clear hp)) | (go_at_call 25; ((with_reducible refine (HP8.out.rfir HR2.out).mono ?_); rintro e wj ⟨rfl, hp⟩; have HP9 := Lib.hid hp; clear hp)))
            go_roundw
            case rel => exact ⟨k + 1, by go_num, by omega, by omega, next_bo HP9.out HR2.out⟩
            case measure => simp [intOf]; omega
        · have k2 : decide ((k : Int) < 200) = false := by simp; omega
          have HG : Hid (But No w wr) := by obtain ⟨_, _, _, hh, _⟩ := HB.out; exact hh
          go_wp2_with fail
          go_ret
          exact ⟨rfl, HG.out⟩
      · have kn : decide ((k : Int) < (n : Int)) = false := by simp; omega
        have HG : Hid (But No w wr) := by obtain ⟨_, _, _, hh, _⟩ := HB.out; exact hh
        go_wp2_with fail
        go_ret
        exact ⟨rfl, HG.out⟩
  · have p1 : pol ≠ 1 := fun e => hp (.inl e)
    have p2 : pol ≠ 2 := fun e => hp (.inr e)
    have C1 := Lib.hid (fun W => new_bad pol W p1 p2)
    have C2 := Lib.hid (fun W => rnew_bad pol W p1 p2)
    clear hp p1 p2
    go_enter Try.func3, Try.ntmps3
    go_wp2_with fail
    refine (examples_any w).mono ?_
    rintro e w1 ⟨rfl, hb1⟩
    have HB1 := Lib.hid hb1
    clear hb1
    go_wp2_with (first | (go_at_call 8; ((with_reducible refine (C1.out _).mono ?_); rintro e wb ⟨rfl, rfl⟩)) | (go_at_call 9; ((with_reducible refine (C2.out _).mono ?_); rintro e wb ⟨rfl, rfl⟩)))
    go_ret
    exact ⟨rfl, HB1.out⟩
end Go.Proofs.Ytbfmoaojimimjaa.readyPlays
