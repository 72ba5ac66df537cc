/- The contract of All. -/
import Derived.Test.YtbfmoaojimimjaaHeO
namespace Go.Proofs.Ytbfmoaojimimjaa.hea
open Go.ChangeShapes Go.WideShapes Go.ChangeAt Go.RowKit
theorem info3 : (Try.prog.info? 3).map (fun i => (i.zero, i.size, i.bytes)) = some (some (.int .i64 0), 1, 8) := by kernel_rfl
/-- Block b holds just these numbers. -/
def Ints (w : World) (b : Nat) (zs : List Int) : Prop := Blk w b (zs.map (Value.int .i64)).toArray 3
def Intf (w : World) (b n : Nat) (z : Nat → Int) : Prop := Ints w b ((List.range n).map z)
theorem ints_made {w : World} {b n : Nat} (h : w.ownsRow 0 3 1 (.slice (some ⟨b, 0, none⟩) n n) n (madeCells (Value.int .i64 0).cells (n * 1)).toList) : Intf w b n (fun _ => 0) := by
  obtain ⟨h1, h2⟩ := h
  rcases h2 with ⟨h2, _⟩ | ⟨g, cap, cur, hv, _, hh, hn, hc, hs, ht⟩
  · cases h2
  · cases hv
    have e : cur = (((List.range n).map (fun _ => (0 : Int))).map (Value.int .i64)).toArray := by
      apply Array.ext'
      have e1 : cur.toList.take (n * 1) = cur.toList := List.take_of_length_le (by simp; omega)
      rw [e1] at ht
      rw [ht]
      have : (Value.int .i64 0).cells = #[.int .i64 0] := rfl
      rw [this, toList_madeCells_one]
      apply List.ext_getElem?
      intro j
      by_cases hj : j < n
      · simp [hj]
      · simp [hj]
    show w.heap[b]? = _
    rw [hh, e]
theorem Intf.set {w : World} {b n k : Nat} {z : Nat → Int} (h : Intf w b n z) (v : Int) : Intf (w.setCell ⟨b, k, none⟩ (.int .i64 v)) b n (fun j => if j = k then v else z j) := by
  have h1 := Blk.set h k (.int .i64 v)
  have e : ((((List.range n).map z).map (Value.int .i64)).toArray.setIfInBounds k (.int .i64 v)) = (((List.range n).map (fun j => if j = k then v else z j)).map (Value.int .i64)).toArray := by
    apply Array.ext'
    apply List.ext_getElem?
    intro j
    simp only [List.setIfInBounds_toArray, List.getElem?_set, List.getElem?_map, List.length_map, List.length_range]
    by_cases hj : j < n
    · by_cases e : j = k
      · subst e; simp [hj]
      · simp [hj, e, Ne.symm e]
    · by_cases e : k = j
      · subst e; simp [hj]
      · simp [hj, e]
  show Blk _ _ _ _
  rw [← e]; exact h1
theorem Intf.congr {w : World} {b n : Nat} {z y : Nat → Int} (h : Intf w b n z) (e : ∀ j, j < n → y j = z j) : Intf w b n y := by
  have : (List.range n).map y = (List.range n).map z := List.map_congr_left (fun j hj => e j (List.mem_range.1 hj))
  unfold Intf; rw [this]; exact h
theorem Ints.but {w w' : World} {b : Nat} {zs : List Int} {S : Nat → Prop} (h : Ints w b zs) (hb : But S w w') (hs : ¬ S b) : Ints w' b zs := Blk.but h hb hs
theorem Ints.cell {w : World} {b : Nat} {zs : List Int} (h : Ints w b zs) {k : Nat} (hk : k < zs.length) : w.cell? ⟨b, k, none⟩ = some (.int .i64 (zs.getD k 0)) := by
  refine Blk.cell h ?_
  simp [hk]
theorem Ints.frozen {w : World} {b : Nat} {zs : List Int} (h : Ints w b zs) (k : Nat) : w.frozen? ⟨b, k, none⟩ = false := Blk.frozen h k
theorem Ints.lt {w : World} {b : Nat} {zs : List Int} (h : Ints w b zs) : b < w.heap.size := Blk.lt h
def AllEnd (w : World) (L : List It) (e : Ending) (w' : World) : Prop :=
  ∃ b, e = .returned (.slice (some ⟨b, 0, none⟩) L.length L.length) ∧ Ints w' b (L.map It.id) ∧ But No w w' ∧ w.heap.size ≤ b
theorem inv_tot {n : Nat} {f : Nat → It} {L : List It} {D : DataW Unit} (inv : Inv n f L) (mi : MapIs n f D) : Tot n f := by
  intro i j hi hj hne
  have h1 := (inv.mem (f i)).2 ⟨i, hi, rfl⟩
  have h2 := (inv.mem (f j)).2 ⟨j, hj, rfl⟩
  have hn : f i ≠ f j := fun e => hne (mi.inj i j hi hj (by rw [e]))
  have hs := inv.srt
  clear inv
  induction hs with
  | nil => cases h1
  | cons ha _ ih =>
    rcases List.mem_cons.1 h1 with e1 | e1
    · rcases List.mem_cons.1 h2 with e2 | e2
      · exact absurd (e1.trans e2.symm) hn
      · rw [e1]; exact .inl (ha _ e2)
    · rcases List.mem_cons.1 h2 with e2 | e2
      · rw [e2]; exact .inr (ha _ e1)
      · exact ih e1 e2
theorem ord_list {w w' : World} {n g cap : Nat} {f B : Nat → It} {L : List It} (inv : Inv n f L) (h : Ord w w' f n g cap B) : (List.range n).map B = L := by
  refine srt_ext ?_ inv.srt (fun x => ?_)
  · rw [List.pairwise_map]
    have : (List.range n).Pairwise (fun a b => a < b ∧ b < n) := by
      refine List.Pairwise.imp_of_mem ?_ List.pairwise_lt_range
      intro a b ha hb hab
      exact ⟨hab, List.mem_range.1 hb⟩
    exact this.imp (fun hab => h.srt _ _ hab.1 hab.2)
  · rw [inv.mem, ← h.same x]
    constructor
    · intro hx
      obtain ⟨j, hj, e⟩ := List.mem_map.1 hx
      exact ⟨j, List.mem_range.1 hj, e⟩
    · rintro ⟨j, hj, e⟩
      exact List.mem_map.2 ⟨j, List.mem_range.2 hj, e⟩
set_option maxHeartbeats 4000000 in
set_option maxRecDepth 100000 in
theorem all_any (p : Nat) (R T : Int) (L : List It) (S : Nat → Prop) (w : World) (h : HP w S p R T L) :
    Calls Try.prog 38 #[.pointer (some ⟨p, 0, none⟩)] w (AllEnd w L) := by
  have hr1 := h.r1
  have hlen := h.len
  obtain ⟨m, v, n, f, D, hx, mi, ho, inv, hS⟩ := h.ex
  have hn : n ≤ 256 := by have := inv.len; omega
  obtain ⟨A, c, rfl, hc⟩ := hx.row.slice
  have h2 : w.cell? ⟨p, 2, none⟩ = some (.slice A n c) := hx.hp.cell (o := 2) rfl
  have CO : Hid (∀ w', But No w w' → Calls Try.prog 45 #[.slice A n c] w' (OrdEnd w' f n)) := fun w' hb => ordered_any A n c f w' (hx.row.but hb (fun _ _ f => f)) hn (inv_tot inv mi)
  have CB : Hid (∀ w', But No w w' → w'.cell? ⟨p, 2, none⟩ = some (.slice A n c)) := fun w' hb => by rw [hb.cell hx.hp.lt (fun f => f)]; exact h2
  have INV := Lib.hid inv
  obtain ⟨i0, hi0, hz0, hz1, hz2⟩ := info_parts info3
  have I0 : Hid (Try.prog.info? 3 = some i0 ∧ i0.zero = some (.int .i64 0) ∧ i0.size = 1 ∧ i0.bytes = 8) := ⟨hi0, hz0, hz1, hz2⟩
  clear hi0 hz0 hz1 hz2 hx mi ho inv hS h hlen hr1
  go_enter Try.func38, Try.ntmps38
  go_wp2_with (first
    | (at_make; refine wpList_make_full _ rfl _ _ 39 rfl 0 3 i0 _ 1 Try.underlying39 I0.out.1 I0.out.2.1 I0.out.2.2.1 .i64 .i64 _ _ n rfl rfl (by omega) (by omega) (by rw [I0.out.2.2.2]; omega) (by unfold maxLen; omega) (Nat.zero_le _) ?_; intro w0 hown0 hgrow0; have hB0 : But No w w0 := (But.refl No w).grown hgrow0 (fun k e => by cases e); have hc0 := CB.out w0 hB0; have HB0 := Lib.hid hB0; have HI0 := Lib.hid (ints_made hown0); clear hown0 hgrow0 hB0)
    | (go_at_call 45; refine (CO.out _ HB0.out).mono ?_; rintro e w1 ⟨g, cap, B, rfl, ho⟩; have HO := Lib.hid ho; clear ho))
  have HI1 : Hid (Intf w1 w.heap.size n (fun j => if j < 0 then (B j).id else 0)) := Intf.congr (z := fun _ => 0) (Ints.but HI0.out HO.out.but (fun f => f)) (fun j hj => by simp)
  have HB1 := Lib.hid (HB0.out.trans HO.out.but)
  have HR1 := Lib.hid HO.out.rw
  have HL := Lib.hid (ord_list INV.out HO.out)
  have HG : Hid (g ≠ w.heap.size) := by have := HI0.out.lt; have := HO.out.lt; show _ ≠ _; omega
  clear HI0 HB0 HO
  go_loopw [18] (fun t wr => ∃ k : Nat, t = .int .i64 k ∧ k ≤ n ∧ Hid (Intf wr w.heap.size n (fun j => if j < k then (B j).id else 0)) ∧ Hid (Rw wr g cap n B) ∧ Hid (But No w wr)) (fun t _ => n - (intOf t).toNat)
  case atStart => exact ⟨0, rfl, by omega, HI1, HR1, HB1⟩
  case round =>
    obtain ⟨k, rfl, hk, hi, hr, hb⟩ := hrel
    by_cases hlt : k < n
    · obtain ⟨a0, a1, a2⟩ := hr.out.cells hlt
      have kn' : (k : Int) < (n : Int) := by omega
      have hcell := Ints.cell hi.out (k := k) (by simpa using hlt)
      have hfz := Ints.frozen hi.out k
      have hwlt := Ints.lt hi.out
      have hgl := hr.out.lt
      obtain ⟨x, hx⟩ : ∃ x, B k = x := ⟨_, rfl⟩
      rw [hx] at a0 a1 a2
      have HX := Lib.hid hx
      clear hx
      obtain ⟨xa, xb, xc⟩ := x
      dsimp only at a0 a1 a2
      generalize List.getD _ _ _ = old at hcell
      go_wp2
      go_roundw
      case rel =>
        have hi2 : Intf ((wr.setCell ⟨w.heap.size, k, none⟩ (.int .i64 xa)).alloc (.cells #[.int .i64 xa, .int .i64 xb, .int .i64 xc] 67)) w.heap.size n (fun j => if j < k + 1 then (B j).id else 0) := by
          refine Intf.congr (Ints.but (S := No) (Intf.set hi.out (k := k) xa) ((But.refl No _).alloc _) (fun f => f)) (fun j hj => ?_)
          by_cases e : j = k
          · subst e; rw [if_pos (by omega), if_pos rfl, HX.out]
          · rw [if_neg e]
            by_cases e2 : j < k
            · rw [if_pos e2, if_pos (by omega)]
            · rw [if_neg e2, if_neg (by omega)]
        have hr2 : Rw ((wr.setCell ⟨w.heap.size, k, none⟩ (.int .i64 xa)).alloc (.cells #[.int .i64 xa, .int .i64 xb, .int .i64 xc] 67)) g cap n B := (hr.out.other (a := ⟨w.heap.size, k, none⟩) HG.out _).but (S := No) ((But.refl No _).alloc _) (fun f => f)
        exact ⟨k + 1, by go_num, by omega, hi2, hr2, (hb.out.setNew (p := ⟨w.heap.size, k, none⟩) (Nat.le_refl _) _).alloc _⟩
      case measure => simp [intOf]; omega
    · obtain rfl : k = n := by omega
      have HE : Hid (AllEnd w L (.returned (.slice (some ⟨w.heap.size, 0, none⟩) k k)) wr) := by
        have hl := INV.out.len
        refine ⟨w.heap.size, by rw [hl], ?_, hb.out, Nat.le_refl _⟩
        have h1 : Intf wr w.heap.size k (fun j => (B j).id) := hi.out.congr (fun j hj => by simp [hj])
        rw [← HL.out, List.map_map]
        exact h1
      go_wp2
      go_ret
      exact HE.out
end Go.Proofs.Ytbfmoaojimimjaa.hea
