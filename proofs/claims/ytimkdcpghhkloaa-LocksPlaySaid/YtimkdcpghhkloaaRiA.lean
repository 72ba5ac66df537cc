/- The contract of All. -/
import Derived.Test.YtimkdcpghhkloaaRiP3
namespace Go.Proofs.Ytimkdcpghhkloaa.rin
open Go.ChangeShapes Go.WideShapes Go.ChangeAt Go.RowKit Go.Deep
theorem info3 : (Try.prog.info? 3).map (fun i => (i.zero, i.size, i.bytes)) = some (some (.int .i64 0), 1, 8) := by kernel_rfl
/-- Block b holds just these numbers. -/
def Ints (w : World) (b : Nat) (zs : List Int) : Prop := Blk w b (zs.map (Value.int .i64)).toArray 3
def Intf (w : World) (b n : Nat) (z : Nat → Int) : Prop := Ints w b ((List.range n).map z)
theorem ints_made {w : World} {b n : Nat} (h : w.ownsRow 0 3 1 (.slice (some ⟨b, 0, none⟩) n n) n (madeCells (Value.int .i64 0).cells (n * 1)).toList) : Intf w b n (fun _ => 0) := by
  obtain ⟨h1, h2⟩ := h
  rcases h2 with ⟨h2, _⟩ | ⟨g, cap, cur, hv, _, hh, hn, hc, hs, ht⟩
  · cases h2
  · cases hv
    have e : cur = (((List.range n).map (fun _ => (0 : Int))).map (Value.int .i64)).toArray := by
      apply Array.ext'
      have e1 : cur.toList.take (n * 1) = cur.toList := List.take_of_length_le (by simp; omega)
      rw [e1] at ht
      rw [ht]
      have : (Value.int .i64 0).cells = #[.int .i64 0] := rfl
      rw [this, toList_madeCells_one]
      apply List.ext_getElem?
      intro j
      by_cases hj : j < n
      · simp [hj]
      · simp [hj]
    show w.heap[b]? = _
    rw [hh, e]
theorem Intf.set {w : World} {b n k : Nat} {z : Nat → Int} (h : Intf w b n z) (v : Int) : Intf (w.setCell ⟨b, k, none⟩ (.int .i64 v)) b n (fun j => if j = k then v else z j) := by
  have h1 := Blk.set h k (.int .i64 v)
  have e : ((((List.range n).map z).map (Value.int .i64)).toArray.setIfInBounds k (.int .i64 v)) = (((List.range n).map (fun j => if j = k then v else z j)).map (Value.int .i64)).toArray := by
    apply Array.ext'
    apply List.ext_getElem?
    intro j
    simp only [List.setIfInBounds_toArray, List.getElem?_set, List.getElem?_map, List.length_map, List.length_range]
    by_cases hj : j < n
    · by_cases e : j = k
      · subst e; simp [hj]
      · simp [hj, e, Ne.symm e]
    · by_cases e : k = j
      · subst e; simp [hj]
      · simp [hj, e]
  show Blk _ _ _ _
  rw [← e]; exact h1
theorem Intf.congr {w : World} {b n : Nat} {z y : Nat → Int} (h : Intf w b n z) (e : ∀ j, j < n → y j = z j) : Intf w b n y := by
  have : (List.range n).map y = (List.range n).map z := List.map_congr_left (fun j hj => e j (List.mem_range.1 hj))
  unfold Intf; rw [this]; exact h
theorem Ints.but {w w' : World} {b : Nat} {zs : List Int} {S : Nat → Prop} (h : Ints w b zs) (hb : But S w w') (hs : ¬ S b) : Ints w' b zs := Blk.but h hb hs
theorem Ints.cell {w : World} {b : Nat} {zs : List Int} (h : Ints w b zs) {k : Nat} (hk : k < zs.length) : w.cell? ⟨b, k, none⟩ = some (.int .i64 (zs.getD k 0)) := by
  refine Blk.cell h ?_
  simp [hk]
theorem Ints.frozen {w : World} {b : Nat} {zs : List Int} (h : Ints w b zs) (k : Nat) : w.frozen? ⟨b, k, none⟩ = false := Blk.frozen h k
theorem Ints.lt {w : World} {b : Nat} {zs : List Int} (h : Ints w b zs) : b < w.heap.size := Blk.lt h
def AllEnd (w : World) (L : List It) (e : Ending) (w' : World) : Prop :=
  ∃ b, e = .returned (.slice (some ⟨b, 0, none⟩) L.length L.length) ∧ Ints w' b (L.map It.id) ∧ But No w w' ∧ w.heap.size ≤ b
theorem Rg.beside {w : World} {p q sz : Nat} {R T : Int} {F n : Nat} {g : Nat → It} (h : Rg w p q sz R T F n g) {b : Nat} (hp : p ≠ b) (hq : q ≠ b) (k : Nat) (v : Value) : Rg (w.setCell ⟨b, k, none⟩ v) p q sz R T F n g :=
  h.but (S := Just b) ((But.refl _ w).setCell (p := ⟨b, k, none⟩) (just b) _) (by rintro j (rfl | rfl) e <;> contradiction)
set_option maxHeartbeats 4000000 in
set_option maxRecDepth 100000 in
theorem all_any (p : Nat) (R T : Int) (L : List It) (S : Nat → Prop) (w : World) (h : RP w S p R T L) :
    Calls Try.prog 29 #[.pointer (some ⟨p, 0, none⟩)] w (AllEnd w L) := by
  obtain ⟨q, sz, F, n, g, h1, h2, h3⟩ := h.ex
  have hs := h1.pow.le
  have hn : n ≤ sz := by have := h1.hn; have := h1.hR; omega
  have HL := Lib.hid h2
  have HR := Lib.hid h1
  have hpl := h1.hp.lt
  have hql := h1.hq.lt
  have c5 : w.cell? ⟨p, 5, none⟩ = some (.int .i64 n) := h1.hp.cell (o := 5) rfl
  obtain ⟨i0, hi0, hz0, hz1, hz2⟩ := info_parts info3
  have I0 : Hid (Try.prog.info? 3 = some i0 ∧ i0.zero = some (.int .i64 0) ∧ i0.size = 1 ∧ i0.bytes = 8) := ⟨hi0, hz0, hz1, hz2⟩
  obtain ⟨b, hb⟩ : ∃ b, b = w.heap.size := ⟨_, rfl⟩
  have HBE : Hid (b = w.heap.size ∧ p ≠ b ∧ q ≠ b) := ⟨hb, by omega, by omega⟩
  clear hi0 hz0 hz1 hz2 h h1 h2 h3 hpl hql
  go_enter Try.func29, Try.ntmps29
  go_wp2_with (at_make; refine wpList_make_full _ rfl _ _ 41 rfl 0 3 i0 _ 1 Try.underlying41 I0.out.1 I0.out.2.1 I0.out.2.2.1 .i64 .i64 _ _ n rfl rfl (by omega) (by omega) (by rw [I0.out.2.2.2]; omega) (by unfold maxLen; omega) (Nat.zero_le _) ?_; intro w0 hown0 hgrow0; have hB0 : But No w w0 := (But.refl No w).grown hgrow0 (fun k e => by cases e); have HB0 := Lib.hid hB0; have HI0 := Lib.hid (ints_made hown0); have HR0 := Lib.hid (HR.out.but hB0 (fun _ _ f => f)); clear hown0 hgrow0 hB0)
  rw [← hb] at HI0 ⊢
  clear hb c5
  have HI1 : Hid (Intf w0 b n (fun j => if j < 0 then (g (ps F sz j)).id else 0)) := HI0.out.congr (fun j hj => by simp)
  clear HI0
  go_loopw [12] (fun t wr => ∃ k : Nat, t = .int .i64 k ∧ k ≤ n ∧ Hid (Intf wr b n (fun j => if j < k then (g (ps F sz j)).id else 0)) ∧ Hid (Rg wr p q sz R T F n g) ∧ Hid (But No w wr)) (fun t _ => n - (intOf t).toNat)
  case atStart => exact ⟨0, rfl, by omega, HI1, HR0, HB0⟩
  case round =>
    obtain ⟨k, rfl, hk, hi, hr, hbw⟩ := hrel
    clear HI1 HR0 HB0
    by_cases hlt : k < n
    · have kn' : (k : Int) < (n : Int) := by omega
      have hps := ps_lt hr.out.hF (show k < sz by omega)
      have CQ : Hid (∀ w', Rg w' p q sz R T F n g → Calls Try.prog 32 #[.pointer (some ⟨p, 0, none⟩), .int .i64 k] w' fun r w'' => r = .returned (.int .i64 (ps F sz k)) ∧ But No w' w'') := fun w' h' =>
        (position_any p F sz k w' (h'.hp.cell (o := 3) rfl) (h'.hp.cell (o := 4) rfl) h'.pow h'.hF (by omega)).mono fun _ _ ⟨a, b⟩ => ⟨a, drewN_but b⟩
      obtain ⟨j, hj⟩ : ∃ j, ps F sz k = j := ⟨_, rfl⟩
      rw [hj] at hps CQ
      have HJ := Lib.hid hj
      obtain ⟨x, hx⟩ : ∃ x, (g j).id = x := ⟨_, rfl⟩
      have HX := Lib.hid hx
      have hj' : (j : Int) < (sz : Int) := by omega
      have HRD : Hid (Rg wr.drew p q sz R T F n g) := hr.out.but (S := No) (But.refl No _).drew (fun _ _ f => f)
      clear hj hx
      go_wp2_with fail
      go_region_held3 (fun w' => w'.cell? ⟨p, 2, none⟩ = some (.slice (some ⟨q, 0, none⟩) sz sz) ∧ w'.cell? ⟨q, j * 2, none⟩ = some (.int .i64 x))
        (first | exact ⟨HRD.out.hp.cell (o := 2) rfl, by rw [← HX.out]; exact (HRD.out.hq.cells hps).1⟩ | exact ⟨H4.out.hp.cell (o := 2) rfl, by rw [← HX.out]; exact (H4.out.hq.cells hps).1⟩ | exact ⟨(H4.out.beside HBE.out.2.1 HBE.out.2.2 k _).hp.cell (o := 2) rfl, by rw [← HX.out]; exact ((H4.out.beside HBE.out.2.1 HBE.out.2.2 k _).hq.cells hps).1⟩)
        (first | (go_at_call 32; ((with_reducible refine (CQ.out _ HRD.out).mono ?_); rintro e w4 ⟨rfl, hb4⟩; have H4 := Lib.hid (HRD.out.but hb4 (fun _ _ f => f)); have HB4 := Lib.hid ((But.refl No wr).drew.trans hb4); have HI4 := Lib.hid (Ints.but hi.out HB4.out (fun f => f)); have hcell := Ints.cell HI4.out (k := k) (by simpa using hlt); have hfz := Ints.frozen HI4.out k; generalize List.getD _ _ _ = old at hcell; clear hb4)))
      rename_i hHeld
      clear hHeld hcell hfz
      go_wp2
      go_roundw
      case rel =>
        have hi2 : Intf (w4.setCell ⟨b, k, none⟩ (.int .i64 x)) b n (fun j => if j < k + 1 then (g (ps F sz j)).id else 0) := by
          refine Intf.congr (Intf.set HI4.out (k := k) x) (fun i _ => ?_)
          by_cases e : i = k
          · subst e; rw [if_pos (by omega), if_pos rfl, HJ.out, HX.out]
          · rw [if_neg e]
            by_cases e2 : i < k
            · rw [if_pos e2, if_pos (by omega)]
            · rw [if_neg e2, if_neg (by omega)]
        exact ⟨k + 1, by go_num, by omega, hi2, H4.out.beside HBE.out.2.1 HBE.out.2.2 k _, (hbw.out.trans HB4.out).setNew (p := ⟨b, k, none⟩) (by rw [HBE.out.1]; exact Nat.le_refl _) _⟩
      case measure => simp [intOf]; omega
    · obtain rfl : k = n := by omega
      have HE : Hid (AllEnd w L (.returned (.slice (some ⟨b, 0, none⟩) k k)) wr) := by
        have hl : L.length = k := by rw [← HL.out, lst_length]
        refine ⟨b, by rw [hl], ?_, hbw.out, by rw [HBE.out.1]; exact Nat.le_refl _⟩
        have h1 : Intf wr b k (fun j => (g (ps F sz j)).id) := hi.out.congr (fun j hj => by simp [hj])
        rw [← HL.out, lst, List.map_map]
        exact h1
      have b1 : decide ((k : Int) < (k : Int)) = false := by simp
      go_wp2
      go_ret
      exact HE.out
end Go.Proofs.Ytimkdcpghhkloaa.rin
