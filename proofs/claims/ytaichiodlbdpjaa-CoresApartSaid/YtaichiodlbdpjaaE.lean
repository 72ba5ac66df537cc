/- Cores that the law made; pick; the chapter's examples. -/
import Derived.Test.YtaichiodlbdpjaaC4
namespace Go.Proofs.Ytaichiodlbdpjaa
open Go.ChangeShapes Go.WideShapes Go.ChangeAt Go.RowKit Go.Deep
/-- Cores that the law made: all that was there at w0 is as it was. -/
structure Hw (w0 w : World) (S : Nat → Prop) (p n : Nat) (C : Cs) (f : Nat → St) : Prop where
  cp : CP w S p n C f
  but : But No w0 w
  new : ∀ k, S k → w0.heap.size ≤ k
theorem Hw.step {w0 w w' : World} {S : Nat → Prop} {p n : Nat} {C : Cs} {f g : Nat → St} (h : Hw w0 w S p n C f) (hm : Mv w S p n C g w') : Hw w0 w' S p n C g :=
  ⟨hm.1, h.but.andThen hm.2 (fun k hk => .inr (h.new k hk)), h.new⟩
theorem Hw.no {w0 w w' : World} {S : Nat → Prop} {p n : Nat} {C : Cs} {f : Nat → St} (h : Hw w0 w S p n C f) (hb : But No w w') : Hw w0 w' S p n C f := ⟨h.cp.no hb, h.but.trans hb, h.new⟩
theorem Hw.made {w0 w w' : World} {p n : Nat} {C : Cs} (hb : But No w0 w) (h : NewEnd w n C p w') : ∃ S, Hw w0 w' S p n C (fun _ => st0) := by
  obtain ⟨S, h1, h2, h3⟩ := h
  exact ⟨S, h1, hb.trans h2, fun k hk => Nat.le_trans hb.size (h3 k hk)⟩
theorem Oo.cell {w wr : World} {A : Option Addr} {len c : Nat} {L : List Int} (h : Oo w wr A len c L) {k : Nat} (hk : k < len) : ∃ g, A = some ⟨g, 0, none⟩ ∧ wr.cell? ⟨g, k, none⟩ = some (.int .i64 (L.getD k 0)) := by
  obtain ⟨g, cap, hv, _, hlt⟩ := h.row.form (by omega)
  cases hv
  refine ⟨g, rfl, ?_⟩
  have hl := h.ln
  have := h.row.cells (g := g) rfl k (.int .i64 (L.getD k 0)) (by rw [List.getElem?_map, List.getElem?_eq_getElem (by omega)]; simp [List.getD, List.getElem?_eq_getElem (show k < L.length by omega)])
  rw [add_plain, Nat.zero_add] at this; exact this
theorem Oo.cell' {w wr : World} {g len c : Nat} {L : List Int} (h : Oo w wr (some ⟨g, 0, none⟩) len c L) {k : Nat} (hk : k < len) : wr.cell? ⟨g, k, none⟩ = some (.int .i64 (L.getD k 0)) := by
  obtain ⟨g', e, h2⟩ := h.cell hk
  cases e; exact h2
theorem pick_any (c n : Int) (w : World) (hc : inR c) (h0 : 0 < n) (h1 : n ≤ 100000) :
    Calls Try.prog 11 #[.int .i64 c, .int .i64 n] w fun r w' => r = .returned (.int .i64 (pk c n)) ∧ w = w' := by
  unfold inR at hc
  by_cases h : c < 0
  · have HP : Hid (pk c n = (-(c + 1)) % n) := by show _ = _; unfold pk; rw [if_pos h]
    have b1 : decide (c < 0) = true := by simp; omega
    have e0 : (0 : Int) ≤ -(c + 1) := by omega
    obtain ⟨d, hd⟩ : ∃ d, d = -(c + 1) := ⟨_, rfl⟩
    have HT : Hid ((-(c + 1)).tmod n = (-(c + 1)) % n) := Int.tmod_eq_emod_of_nonneg e0
    have nz : ¬ n = 0 := by omega
    clear hd
    go_enter Try.func11, Try.ntmps11
    go_wp2
    go_ret
    exact ⟨ret1 (by rw [HP.out]; first | rfl | (rw [← HT.out]; simp) | simp [Int.neg_tmod]), rfl⟩
  · have HP : Hid (pk c n = c % n) := by show _ = _; unfold pk; rw [if_neg h]
    have b1 : decide (c < 0) = false := by simp; omega
    have e0 : (0 : Int) ≤ c := by omega
    have nz : ¬ n = 0 := by omega
    go_enter Try.func11, Try.ntmps11
    go_wp2
    go_ret
    exact ⟨ret1 (by rw [HP.out]), rfl⟩
def C310 : Cs := ⟨3, 1, 0⟩
theorem fit310 : Fit C310 := by constructor <;> decide
def f0 : Nat → St := fun _ => st0
def f1 : Nat → St := upd f0 0 ⟨3, -1, 0⟩
def f2 : Nat → St := upd f1 0 ⟨4, 7, 0⟩
def f3 : Nat → St := upd f2 0 ⟨3, 7, 0⟩
theorem inR_ex (k : Nat) : inR (([2, 9, 2, 0] : List Int).getD k 0) := by
  rcases k with _ | _ | _ | _ | k
  all_goals simp [inR]
theorem ord_ex : ord 4 [2, 9, 2, 0] = [2, 0, 1, 3] := by decide
set_option maxHeartbeats 4000000 in
set_option maxRecDepth 100000 in
theorem examples_any (w : World) : Calls Try.prog 8 #[] w fun r w' => r = .returned (.bool true) ∧ But No w w' := by
  go_enter Try.func8, Try.ntmps8
  go_wp2_with fail
  refine (new_ok 2 C310 w (by omega) (by omega) fit310).mono ?_
  rintro e w1 ⟨p, rfl, hne⟩
  obtain ⟨S, h1⟩ := Hw.made (But.refl No w) hne
  have H1 := Lib.hid h1
  clear h1 hne
  go_wp2_with fail
  refine (new_bad 9 w1 (by omega)).mono ?_
  rintro e w2 ⟨rfl, hb⟩
  have H2 : Hid (Hw w w2 S p 2 C310 f0) := H1.out.no hb
  clear hb H1
  go_wp2_with fail
  refine (charge_ok p 2 C310 f0 S w2 0 1 (by omega) (by omega) fit310 H2.out.cp (by decide) (by decide)).mono ?_
  rintro e w3 ⟨rfl, hm⟩
  have H3 : Hid (Hw w w3 S p 2 C310 f1) := H2.out.step hm
  clear hm H2
  go_wp2_with fail
  refine (load_new p 2 C310 f1 S w3 0 7 (by omega) fit310 H3.out.cp (by decide) (by decide) (by decide)).mono ?_
  rintro e w4 ⟨rfl, hm⟩
  have H4 : Hid (Hw w w4 S p 2 C310 f2) := H3.out.step hm
  clear hm H3
  go_wp2_with fail
  refine (load_same p 2 C310 f2 S w4 0 7 (by omega) H4.out.cp (by decide)).mono ?_
  rintro e w5 ⟨rfl, rfl⟩
  go_wp2_with fail
  have hex : Rd (w4.alloc (.cells #[.int .i64 2, .int .i64 9, .int .i64 2, .int .i64 0] 3)) (some ⟨w4.heap.size, 0, none⟩) 4 [2, 9, 2, 0] :=
    rd_block (zs := [2, 9, 2, 0]) (Blk.new _ _ _) (by decide) (fun k => inR_ex k)
  refine (order_ok 4 (some ⟨w4.heap.size, 0, none⟩) 4 4 [2, 9, 2, 0] _ (by omega) (by omega) hex).mono ?_
  rintro e w5 ⟨v, rfl, A, len, c, rfl, ho⟩
  rw [ord_ex] at ho
  obtain rfl : 4 = len := ho.ln
  obtain ⟨g, rfl, o0⟩ := ho.cell (k := 0) (by omega)
  have o1 := ho.cell' (k := 1) (by omega)
  have o2 := ho.cell' (k := 2) (by omega)
  have o3 := ho.cell' (k := 3) (by omega)
  simp only [List.getD, List.getElem?_cons_zero, List.getElem?_cons_succ, Option.getD] at o0 o1 o2 o3
  have H5 : Hid (Hw w w5 S p 2 C310 f2) := (H4.out.no ((But.refl No w4).alloc _)).no ho.but
  have HO := Lib.hid ho
  have HG : Hid (∀ k, S k → k ≠ g) := fun k hk e => by
    have h1 := HO.out.new g rfl
    have h2 := H4.out.cp.lt k hk
    rw [size_alloc1] at h1
    omega
  clear ho hex H4
  go_wp2_with fail
  refine (owes_in p 2 C310 f2 S w5 0 (by omega) H5.out.cp).mono ?_
  rintro e w6 ⟨rfl, rfl⟩
  go_wp2_with fail
  refine (pay_one p 2 C310 f2 S w5 0 (by omega) H5.out.cp (by decide) (by decide)).mono ?_
  rintro e w6 ⟨rfl, hm⟩
  have H6 : Hid (Hw w w6 S p 2 C310 f3) := H5.out.step hm
  have hk : ∀ o v, w5.cell? ⟨g, o, none⟩ = some v → w6.cell? ⟨g, o, none⟩ = some v := fun o v h => by
    rw [hm.2.cell (World.block_lt_of_cell? w5 _ h) (fun hs => HG.out g hs rfl)]; exact h
  replace o0 := hk _ _ o0
  replace o1 := hk _ _ o1
  replace o2 := hk _ _ o2
  replace o3 := hk _ _ o3
  clear hm H5 HO HG hk
  go_wp2_with fail
  refine (last_in p 2 C310 f3 S w6 0 (by omega) H6.out.cp).mono ?_
  rintro e w7 ⟨rfl, rfl⟩
  go_wp2_with fail
  refine (many_any p 2 C310 f3 S w6 H6.out.cp).mono ?_
  rintro e w7 ⟨rfl, rfl⟩
  have e1 : (((f2 0).o : Int) == 4) = true := by decide
  have e2 : (((f3 0).l : Int) == 7) = true := by decide
  go_wp2
  go_ret
  exact ⟨rfl, H6.out.but⟩
end Go.Proofs.Ytaichiodlbdpjaa
