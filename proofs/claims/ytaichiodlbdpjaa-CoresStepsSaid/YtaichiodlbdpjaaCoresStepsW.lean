/- A core's steps are counted one by one; of no core there are none: CoresSteps returns true. (The walk.) -/
import Derived.Test.YtaichiodlbdpjaaR
import Derived.Deep.Cut
namespace Go.Proofs.Ytaichiodlbdpjaa.coresSteps
open Go.ChangeShapes Go.WideShapes Go.ChangeAt Go.RowKit Go.Deep
def C000 : Cs := ⟨0, 0, 0⟩
theorem fit000 : Fit C000 := by constructor <;> decide
/-- The cores, and beside them the numbers of their steps. -/
structure Sx (w wr : World) (S : Nat → Prop) (p n b k : Nat) (f : Nat → St) : Prop where
  hw : Hw w wr S p n C000 f
  vl : Vals wr b 3 n (fun j => .int .i64 (f j).s)
  new : w.heap.size ≤ b
  ns : ¬ S b
  bd : ∀ j, 0 ≤ (f j).s ∧ (f j).s ≤ k
theorem Sx.more {w wr : World} {S : Nat → Prop} {p n b k : Nat} {f : Nat → St} (h : Sx w wr S p n b k f) : Sx w wr S p n b (k + 1) f :=
  ⟨h.hw, h.vl, h.new, h.ns, fun j => ⟨(h.bd j).1, by have := (h.bd j).2; omega⟩⟩
/-- The number is raised first, then the core steps. -/
theorem Sx.step {w wr w2 wd : World} {S : Nat → Prop} {p n b k y : Nat} {f : Nat → St} (h : Sx w wr S p n b k f) (hwd : wd = wr.setCell ⟨b, y, none⟩ (.int .i64 ((f y).s + 1)))
    (hm : Mv wd.drew S p n C000 (upd f y ⟨(f y).o, (f y).l, (f y).s + 1⟩) w2) : Sx w w2 S p n b (k + 1) (upd f y ⟨(f y).o, (f y).l, (f y).s + 1⟩) := by
  subst hwd
  have hb : But No w (wr.setCell ⟨b, y, none⟩ (.int .i64 ((f y).s + 1))).drew := (h.hw.but.setNew (p := ⟨b, y, none⟩) h.new _).drew
  refine ⟨⟨hm.1, hb.andThen hm.2 (fun k hk => .inr (h.hw.new k hk)), h.hw.new⟩, ?_, h.new, h.ns, fun j => ?_⟩
  · have h1 : Vals (wr.setCell ⟨b, y, none⟩ (.int .i64 ((f y).s + 1))).drew b 3 n _ := h.vl.set (k := y) (.int .i64 ((f y).s + 1))
    refine (h1.but hm.2 h.ns).congr (fun j _ => ?_)
    unfold upd
    by_cases e : j = y
    · subst e; simp
    · simp [e]
  · unfold upd
    have h1 := h.bd j
    have h2 := h.bd y
    by_cases e : j = y
    · subst e; simp only [if_true]; omega
    · simp only [if_neg e]; omega
set_option maxHeartbeats 16000000 in
set_option maxRecDepth 100000 in
theorem walk (a0 : Int) (w0 : (Lit.int .i64 a0).wf = true) (A : Option Addr) (n c : Nat) (zs : List Int) (_hnc : n ≤ c) (w : World) (hd : Rd w A n zs) :
    Calls Try.prog 7 #[.int .i64 a0, .slice A n c] w fun e w' => e = .returned (.bool true) ∧ But No w w' := by
  have HD := Lib.hid hd
  have hmax := hd.max
  have CP8 : Hid (∀ W, Calls Try.prog 11 #[.int .i64 a0, .int .i64 8] W fun r w' => r = .returned (.int .i64 (pk a0 8)) ∧ W = w') := fun W => pick_any a0 8 W (inR_of w0) (by omega) (by omega)
  obtain ⟨q, hq⟩ : ∃ q : Nat, pk a0 8 = q := ⟨(pk a0 8).toNat, by have := pk_lt a0 8 (by omega); omega⟩
  have hq8 : q < 8 := by have := pk_lt a0 8 (by omega); omega
  rw [hq] at CP8
  obtain ⟨m, hm⟩ : ∃ m, m = 1 + q := ⟨_, rfl⟩
  have em : 1 + (q : Int) = (m : Int) := by omega
  have h1 : 1 ≤ m := by omega
  have h8 : m ≤ 8 := by omega
  obtain ⟨i0, hi0, hz0, hz1, hz2⟩ := info_parts info3
  have I0 : Hid (Try.prog.info? 3 = some i0 ∧ i0.zero = some (.int .i64 0) ∧ i0.size = 1 ∧ i0.bytes = 8) := ⟨hi0, hz0, hz1, hz2⟩
  clear hi0 hz0 hz1 hz2 hd hq hm
  go_enter Try.func7, Try.ntmps7
  go_wp2_with (first
    | (go_at_call 8; refine (examples_any _).mono ?_; rintro e w1 ⟨rfl, hb⟩; have HB := Lib.hid hb; clear hb)
    | (go_at_call 11; refine (CP8.out _).mono ?_; rintro e w2 ⟨rfl, rfl⟩)
    | (go_at_call 12; refine (new_ok m C000 w1 h1 h8 fit000).mono ?_; rintro e w2 ⟨p, rfl, hne⟩; obtain ⟨S, hw⟩ := Hw.made HB.out hne; have HW := Lib.hid hw; clear hw hne)
    | (at_make; refine wpList_make_full _ rfl _ _ 22 rfl 0 3 i0 _ 1 Try.underlying22 I0.out.1 I0.out.2.1 I0.out.2.2.1 .i64 .i64 _ _ m rfl rfl (by omega) (by omega) (by rw [I0.out.2.2.2]; omega) (by unfold maxLen; omega) (Nat.zero_le _) ?_; intro w3 hown hgrow; have HS : Hid (Sx w w3 S p m w2.heap.size 0 (fun _ => st0)) := (by have hb := ((But.refl No w2).grown hgrow (fun k e => by cases e)); exact ⟨HW.out.no hb, vals_made1 rfl hown, HW.out.but.size, fun hs => Nat.lt_irrefl _ (HW.out.cp.lt _ hs), fun j => ⟨by decide, by decide⟩⟩); clear hown hgrow))
  generalize w2.heap.size = b at HS ⊢
  clear HW HB CP8 I0
  go_loopw [9] (fun s wr => ∃ k : Nat, s = .int .i64 k ∧ k ≤ n ∧ k ≤ 100 ∧ Hid (∃ f, Sx w wr S p m b k f)) (fun s _ => n - (intOf s).toNat)
  case atStart => exact ⟨0, rfl, by omega, by omega, _, HS.out⟩
  case round =>
    obtain ⟨k, rfl, hk, hk9, hrel⟩ := hrel
    clear HS
    obtain ⟨f, hsx⟩ := hrel.out
    have HX := Lib.hid hsx
    clear hsx hrel
    by_cases hgo : k < n ∧ k < 100
    · obtain ⟨hlt, hl9⟩ := hgo
      have kn' : (k : Int) < (n : Int) := by omega
      have kn9 : (k : Int) < 100 := by omega
      obtain ⟨eb, eoff, rfl, hbl, hc⟩ := HD.out.at_ (by omega)
      replace hc := hc k hlt
      have hc2 : wr.cell? ⟨eb, eoff + k, none⟩ = some (.int .i64 (zs.getD k 0)) := by rw [HX.out.hw.but.cell hbl (fun f => f)]; exact hc
      clear hc hbl
      generalize zs.getD k 0 = x at hc2
      by_cases hx : 0 ≤ x ∧ x < m
      · obtain ⟨y, rfl⟩ : ∃ y : Nat, x = y := ⟨x.toNat, by omega⟩
        have hy : y < m := by omega
        have ym : (y : Int) < (m : Int) := by omega
        have b5 : decide ((y : Int) < 0) = false := by simp
        have b6 : decide ((m : Int) ≤ (y : Int)) = false := by simp; omega
        obtain ⟨z, hz⟩ : ∃ z, (f y).s = z := ⟨_, rfl⟩
        have z0 : 0 ≤ z := by have := (HX.out.bd y).1; omega
        have z1 : z ≤ 100 := by have := (HX.out.bd y).2; omega
        have c1 : wr.cell? ⟨b, y, none⟩ = some (.int .i64 z) := by rw [← hz]; exact HX.out.vl.cell hy
        have fz : wr.frozen? ⟨b, y, none⟩ = false := HX.out.vl.frozen y
        obtain ⟨wd, hwd⟩ : ∃ wd, wr.setCell ⟨b, y, none⟩ (.int .i64 (z + 1)) = wd := ⟨_, rfl⟩
        have HWD := Lib.hid hwd
        have HWB : Hid (But (Just b) wr wd) := by rw [← hwd]; exact But.setCell (But.refl _ _) (p := ⟨b, y, none⟩) (just b) _
        have cd : wd.cell? ⟨b, y, none⟩ = some (.int .i64 (z + 1)) := by
          rw [← hwd]
          have := (HX.out.vl.set (k := y) (.int .i64 (z + 1))).cell hy
          simpa using this
        have CS : Hid (Calls Try.prog 18 #[.pointer (some ⟨p, 0, none⟩), .int .i64 y] wd.drew fun r w' => r = .returned (.int .i64 (z + 1)) ∧ Mv wd.drew S p m C000 (upd f y ⟨(f y).o, (f y).l, z + 1⟩) w') := by
          have hcp : CP wd.drew S p m C000 f := (HX.out.hw.cp.but HWB.out (fun j hj e => HX.out.ns (by have e' : j = b := e; rw [← e']; exact hj))).no (But.refl _ _).drew
          have := step_in p m C000 f S wd.drew y hy hcp (by rw [hz]; exact z0) (by rw [hz]; omega)
          rw [hz] at this; exact this
        have HN : Hid (∀ w2, Mv wd.drew S p m C000 (upd f y ⟨(f y).o, (f y).l, z + 1⟩) w2 → Sx w w2 S p m b (k + 1) (upd f y ⟨(f y).o, (f y).l, z + 1⟩)) := fun w2 hm => by
          have := HX.out.step (y := y) (w2 := w2) (wd := wd) (by rw [hz]; exact hwd.symm)
          rw [hz] at this; exact this hm
        have HK : Hid (∀ w2, Mv wd.drew S p m C000 (upd f y ⟨(f y).o, (f y).l, z + 1⟩) w2 → w2.cell? ⟨b, y, none⟩ = some (.int .i64 (z + 1))) := fun w2 hm => by
          rw [hm.2.cell (World.block_lt_of_cell? wd _ cd) HX.out.ns]; exact cd
        have b7 : ((z + 1 : Int) != (z + 1 : Int)) = false := by simp
        generalize (upd f y ⟨(f y).o, (f y).l, z + 1⟩) = g at CS HN HK
        clear hz hwd HWB hx
        go_upto_region 15 with fail
        rw [HWD.out]
        go_region_held3 (fun w' => w'.cell? ⟨b, y, none⟩ = some (.int .i64 (z + 1)))
          (first | exact cd | exact HK.out _ HM.out)
          (first | (go_at_call 18; ((with_reducible refine CS.out.mono ?_); rintro e w2 ⟨rfl, hm⟩; have HM := Lib.hid hm; clear hm)))
        rename_i hHeld
        clear hHeld
        go_wp2
        go_roundw
        case rel => exact ⟨k + 1, by go_num, by omega, by omega, g, HN.out _ HM.out⟩
        case measure => simp [intOf]; omega
      · have CS : Hid (Calls Try.prog 18 #[.pointer (some ⟨p, 0, none⟩), .int .i64 x] wr fun r w' => r = .returned (.int .i64 0) ∧ wr = w') := step_out p m C000 f S wr x (by omega) HX.out.hw.cp
        have CO : Hid (Calls Try.prog 16 #[.pointer (some ⟨p, 0, none⟩), .int .i64 x] wr fun r w' => r = .returned (.int .i64 0) ∧ wr = w') := owes_out p m C000 f S wr x (by omega) HX.out.hw.cp
        have CL : Hid (Calls Try.prog 17 #[.pointer (some ⟨p, 0, none⟩), .int .i64 x] wr fun r w' => r = .returned (.int .i64 (-1)) ∧ wr = w') := last_out p m C000 f S wr x (by omega) HX.out.hw.cp
        have HF : Hid (∃ f, Sx w wr S p m b (k + 1) f) := ⟨f, HX.out.more⟩
        by_cases x0 : x < 0
        · have b5 : decide (x < 0) = true := by simpa using x0
          clear HX hx
          go_wp2_with (first | (go_at_call 18; (with_reducible refine CS.out.mono ?_); rintro e w2 ⟨rfl, rfl⟩) | (go_at_call 16; (with_reducible refine CO.out.mono ?_); rintro e w2 ⟨rfl, rfl⟩) | (go_at_call 17; (with_reducible refine CL.out.mono ?_); rintro e w2 ⟨rfl, rfl⟩))
          go_roundw
          case rel => exact ⟨k + 1, by go_num, by omega, by omega, HF.out⟩
          case measure => simp [intOf]; omega
        · have b5 : decide (x < 0) = false := by simpa using x0
          have b6 : decide ((m : Int) ≤ x) = true := by simp; omega
          clear HX hx
          go_wp2_with (first | (go_at_call 18; (with_reducible refine CS.out.mono ?_); rintro e w2 ⟨rfl, rfl⟩) | (go_at_call 16; (with_reducible refine CO.out.mono ?_); rintro e w2 ⟨rfl, rfl⟩) | (go_at_call 17; (with_reducible refine CL.out.mono ?_); rintro e w2 ⟨rfl, rfl⟩))
          go_roundw
          case rel => exact ⟨k + 1, by go_num, by omega, by omega, HF.out⟩
          case measure => simp [intOf]; omega
    · have CM : Hid (Calls Try.prog 19 #[.pointer (some ⟨p, 0, none⟩)] wr fun r w' => r = .returned (.int .i64 m) ∧ wr = w') := many_any p m C000 f S wr HX.out.hw.cp
      have HB : Hid (But No w wr) := HX.out.hw.but
      have bm : ((m : Int) == (m : Int)) = true := by simp
      clear HX
      by_cases hlt : k < n
      · have b1 : (k : Int) < (n : Int) := by omega
        have b2 : decide ((k : Int) < 100) = false := by simp; omega
        clear hgo
        go_wp2_with (go_at_call 19; (with_reducible refine CM.out.mono ?_); rintro e w2 ⟨rfl, rfl⟩)
        go_ret
        exact ⟨rfl, HB.out⟩
      · have b1 : decide ((k : Int) < (n : Int)) = false := by simp; omega
        clear hgo
        go_wp2_with (go_at_call 19; (with_reducible refine CM.out.mono ?_); rintro e w2 ⟨rfl, rfl⟩)
        go_ret
        exact ⟨rfl, HB.out⟩
end Go.Proofs.Ytaichiodlbdpjaa.coresSteps
