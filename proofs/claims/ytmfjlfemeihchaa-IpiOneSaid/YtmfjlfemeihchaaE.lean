/- The chapter's examples. -/
import Derived.Test.YtmfjlfemeihchaaC5
namespace Go.Proofs.Ytmfjlfemeihchaa
open Go.ChangeShapes Go.WideShapes Go.ChangeAt Go.RowKit Go.Deep
/-- Mailboxes that a law has made since w. -/
structure Hw (w wx : World) (p m : Nat) (C : Int) (T : Nat) (L : List Nt) : Prop where
  bp : BP wx p m C T L
  but : But No w wx
  new : ∀ k, Own p m k → w.heap.size ≤ k
theorem Hw.no {w wx wy : World} {p m : Nat} {C : Int} {T : Nat} {L : List Nt} (h : Hw w wx p m C T L) (hb : But No wx wy) : Hw w wy p m C T L := ⟨h.bp.no hb, h.but.trans hb, h.new⟩
theorem Hw.made {w wx wy : World} {p m : Nat} {C : Int} (hb : But No w wx) (h : BP wy p m C 0 []) (hb2 : But No wx wy) (hn : ∀ k, Own p m k → wx.heap.size ≤ k) : Hw w wy p m C 0 [] :=
  ⟨h, hb.trans hb2, fun k hk => Nat.le_trans hb.size (hn k hk)⟩
theorem Hw.send {w wx wy : World} {p m : Nat} {C : Int} {T : Nat} {L : List Nt} {c t now l : Int} (h : Hw w wx p m C T L) (e : SdEnd wx p m C T L c t now l wy) : Hw w wy p m C (turnS C T L c t now) (sent C T L c t now l) :=
  ⟨e.1, h.but.andThen e.2 (fun k hk => .inr (h.new k hk)), h.new⟩
theorem Hw.take {w wx wy : World} {p m : Nat} {C : Int} {T : Nat} {L : List Nt} {c now : Int} {v : Value} (h : Hw w wx p m C T L) (e : TkEnd wx p m C T L c now v wy) : Hw w wy p m C T (lf c now L) :=
  ⟨e.bp, h.but.andThen e.but (fun k hk => .inr (h.new k hk)), h.new⟩
def ex1 : List Nt := [⟨0, 5, 13, 1⟩]
def ex2 : List Nt := [⟨0, 5, 13, 1⟩, ⟨0, 2, 13, 2⟩]
def ex3 : List Nt := [⟨0, 1, 55, 3⟩]
theorem s1 : okS 2 [] 0 5 10 = true ∧ turnS 2 0 [] 0 5 10 = 1 ∧ sent 2 0 [] 0 5 10 3 = ex1 := by simp [okS, turnS, sent, inB, fnd, wi, ex1]
theorem s2 : okS 2 ex1 0 5 10 = false ∧ turnS 2 1 ex1 0 5 10 = 1 ∧ sent 2 1 ex1 0 5 10 1 = ex1 := by simp [okS, turnS, sent, inB, fnd, ex1]
theorem s3 : okS 2 ex1 0 2 11 = true ∧ turnS 2 1 ex1 0 2 11 = 2 ∧ sent 2 1 ex1 0 2 11 2 = ex2 := by simp [okS, turnS, sent, inB, fnd, wi, ex1, ex2]
theorem s4 : tk 0 12 ex2 = [] ∧ lf 0 12 ex2 = ex2 := by simp [tk, lf, ex2]
theorem s5 : (tk 0 13 ex2).map Nt.task = [5, 2] ∧ lf 0 13 ex2 = [] := by simp [tk, lf, ex2, ins, ahB]
theorem s6' : okS 2 [] 0 1 5 = true ∧ turnS 2 2 [] 0 1 5 = 3 ∧ sent 2 2 [] 0 1 5 99 = ex3 := by simp [okS, turnS, sent, inB, fnd, wi, ex3]
theorem s7 : dueOf ex3 0 1 = 55 ∧ cn ex3 0 = 1 := by simp [dueOf, cn, fnd, ex3]
theorem Ov.cell {w : World} {A : Option Addr} {n c : Nat} {zs : List Int} (h : Ov w (.slice A n c) zs) {k : Nat} (hk : k < zs.length) : ∃ g, A = some ⟨g, 0, none⟩ ∧ g < w.heap.size ∧ ∀ k, k < zs.length → w.cell? ⟨g, k, none⟩ = some (.int .i64 (zs.getD k 0)) := by
  obtain ⟨h1, h2⟩ := h
  rcases h2 with ⟨h2, e⟩ | ⟨g, cap, cur, hv, _, hh, hc, _, hs, ht⟩
  · omega
  · cases hv
    refine ⟨g, rfl, Blk.lt hh, fun k hk => Blk.cell hh ?_⟩
    have e : (cur.toList.take (zs.length * 1))[k]? = some (.int .i64 (zs.getD k 0)) := by
      rw [ht]; simp [hk]
    rw [List.getElem?_take, if_pos (by omega)] at e
    simpa using e
set_option maxHeartbeats 4000000 in
set_option maxRecDepth 100000 in
theorem examples_any (w : World) : Calls Try.prog 6 #[] w fun r w' => r = .returned (.bool true) ∧ But No w w' := by
  go_enter Try.func6, Try.ntmps6
  go_wp2_with fail
  refine (new_ok 2 w (by omega) (by omega)).mono ?_
  rintro e w1 ⟨p, m, rfl, h1, h2, h3⟩
  have H1 := Lib.hid (Hw.made (But.refl No w) h1 h2 h3)
  clear h1 h2 h3
  go_wp2_with fail
  refine (new_bad 0 w1 (by omega)).mono ?_
  rintro e w2 ⟨rfl, rfl⟩
  go_wp2_with fail
  refine (send_any p m 2 0 [] 0 5 10 3 w1 H1.out.bp (by omega)).mono ?_
  rintro e w2 ⟨rfl, hm⟩
  have H2 := Lib.hid (H1.out.send hm)
  rw [s1.1]
  rw [s1.2.1, s1.2.2] at H2
  clear hm H1
  go_wp2_with fail
  refine (send_any p m 2 1 ex1 0 5 10 1 w2 H2.out.bp (by omega)).mono ?_
  rintro e w3 ⟨rfl, hm⟩
  have H3 := Lib.hid (H2.out.send hm)
  rw [s2.1]
  rw [s2.2.1, s2.2.2] at H3
  clear hm H2
  go_wp2_with fail
  refine (send_any p m 2 1 ex1 0 2 11 2 w3 H3.out.bp (by omega)).mono ?_
  rintro e w4 ⟨rfl, hm⟩
  have H4 := Lib.hid (H3.out.send hm)
  rw [s3.1]
  rw [s3.2.1, s3.2.2] at H4
  clear hm H3
  go_wp2_with fail
  refine (take_any p m 2 2 ex2 0 12 w4 H4.out.bp (by simp [inR])).mono ?_
  rintro e w5 ⟨v, rfl, hm⟩
  have H5 := Lib.hid (H4.out.take hm)
  rw [s4.2] at H5
  have ho := hm.o
  rw [s4.1] at ho
  obtain ⟨A, d, rfl, _⟩ := ho.slice
  clear hm H4 ho
  go_wp2_with fail
  refine (take_any p m 2 2 ex2 0 13 w5 H5.out.bp (by simp [inR])).mono ?_
  rintro e w6 ⟨v, rfl, hm⟩
  have H6 := Lib.hid (H5.out.take hm)
  rw [s5.2] at H6
  have ho := hm.o
  rw [s5.1] at ho
  obtain ⟨B, d', rfl, _⟩ := ho.slice
  obtain ⟨g, rfl, hg, hc⟩ := ho.cell (k := 0) (by simp)
  have hnew := hm.new g rfl
  have o0 := hc 0 (by simp)
  have o1 := hc 1 (by simp)
  simp only [List.getD, List.getElem?_cons_zero, List.getElem?_cons_succ, Option.getD] at o0 o1
  have HG : Hid (¬ Own p m g) := fun hs => by
    have := H5.out.bp.lt g hs; omega
  clear hm H5 ho hc hnew
  go_wp2_with fail
  refine (send_any p m 2 2 [] 0 1 5 99 w6 H6.out.bp (by omega)).mono ?_
  rintro e w7 ⟨rfl, hm⟩
  have H7 := Lib.hid (H6.out.send hm)
  rw [s6'.1]
  rw [s6'.2.1, s6'.2.2] at H7
  have hk : ∀ o v, w6.cell? ⟨g, o, none⟩ = some v → w7.cell? ⟨g, o, none⟩ = some v := fun o v h => by
    rw [hm.2.cell (World.block_lt_of_cell? w6 _ h) HG.out]; exact h
  replace o0 := hk _ _ o0
  replace o1 := hk _ _ o1
  clear hm H6 HG hk
  go_wp2_with fail
  refine (due_any p m 2 3 ex3 0 1 w7 H7.out.bp (by simp [inR]) (by simp [inR])).mono ?_
  rintro e w8 ⟨rfl, hm⟩
  have H8 := Lib.hid (H7.out.no hm)
  rw [s7.1]
  clear hm H7
  go_wp2_with fail
  refine (len_any p m 2 3 ex3 0 w8 H8.out.bp (by simp [inR])).mono ?_
  rintro e w9 ⟨rfl, hm⟩
  have H9 := Lib.hid (H8.out.no hm)
  rw [s7.2]
  clear hm H8
  go_wp2
  go_ret
  exact ⟨rfl, H9.out.but⟩
end Go.Proofs.Ytmfjlfemeihchaa
