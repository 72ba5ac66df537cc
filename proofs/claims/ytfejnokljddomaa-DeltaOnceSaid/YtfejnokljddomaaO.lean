/- Blocks of numbers that the law makes; what DeltaOnce keeps from tick to tick. -/
import Derived.Test.YtfejnokljddomaaE
namespace Go.Proofs.Ytfejnokljddomaa
open Go.ChangeShapes Go.WideShapes Go.ChangeAt Go.RowKit Go.Deep
/-- Block b holds just these n numbers. -/
def Intf (w : World) (b n : Nat) (z : Nat → Int) : Prop := Blk w b (((List.range n).map z).map (Value.int .i64)).toArray 3
theorem ints_made {w : World} {b n : Nat} (h : w.ownsRow 0 3 1 (.slice (some ⟨b, 0, none⟩) n n) n (madeCells (Value.int .i64 0).cells (n * 1)).toList) : Intf w b n (fun _ => 0) := by
  obtain ⟨h1, h2⟩ := h
  rcases h2 with ⟨h2, _⟩ | ⟨g, cap, cur, hv, _, hh, hn, hc, hs, ht⟩
  · cases h2
  · cases hv
    have e : cur = (((List.range n).map (fun _ => (0 : Int))).map (Value.int .i64)).toArray := by
      apply Array.ext'
      have e1 : cur.toList.take (n * 1) = cur.toList := List.take_of_length_le (by simp; omega)
      rw [e1] at ht
      rw [ht]
      have : (Value.int .i64 0).cells = #[.int .i64 0] := rfl
      rw [this, toList_madeCells_one]
      apply List.ext_getElem?
      intro j
      by_cases hj : j < n
      · simp [hj]
      · simp [hj]
    show w.heap[b]? = _
    rw [hh, e]
def upd (z : Nat → Int) (k : Nat) (v : Int) : Nat → Int := fun j => if j = k then v else z j
theorem Intf.set {w : World} {b n k : Nat} {z : Nat → Int} (h : Intf w b n z) (v : Int) : Intf (w.setCell ⟨b, k, none⟩ (.int .i64 v)) b n (upd z k v) := by
  have h1 := Blk.set h k (.int .i64 v)
  have e : ((((List.range n).map z).map (Value.int .i64)).toArray.setIfInBounds k (.int .i64 v)) = (((List.range n).map (upd z k v)).map (Value.int .i64)).toArray := by
    unfold upd
    apply Array.ext'
    apply List.ext_getElem?
    intro j
    simp only [List.setIfInBounds_toArray, List.getElem?_set, List.getElem?_map, List.length_map, List.length_range]
    by_cases hj : j < n
    · by_cases e : j = k
      · subst e; simp [hj]
      · simp [hj, e, Ne.symm e]
    · by_cases e : k = j
      · subst e; simp [hj]
      · simp [hj, e]
  show Blk _ _ _ _
  rw [← e]; exact h1
theorem Intf.but {w w' : World} {b n : Nat} {z : Nat → Int} {S : Nat → Prop} (h : Intf w b n z) (hb : But S w w') (hs : ¬ S b) : Intf w' b n z := Blk.but h hb hs
theorem Intf.cell {w : World} {b n : Nat} {z : Nat → Int} (h : Intf w b n z) {k : Nat} (hk : k < n) : w.cell? ⟨b, k, none⟩ = some (.int .i64 (z k)) := by
  refine Blk.cell h ?_
  simp [hk]
theorem Intf.frozen {w : World} {b n : Nat} {z : Nat → Int} (h : Intf w b n z) (k : Nat) : w.frozen? ⟨b, k, none⟩ = false := Blk.frozen h k
theorem Intf.lt {w : World} {b n : Nat} {z : Nat → Int} (h : Intf w b n z) : b < w.heap.size := Blk.lt h
namespace deltaOnce
/-- Earlier first, of one tick the smaller id. -/
def lxr (a b : Tm) : Prop := a.left ≤ b.left ∧ (a.left = b.left → a.id < b.id)
structure Inv (nn t kk : Nat) (z : Nat → Int) (L : List Tm) : Prop where
  l : ∀ j : Int, lft L j = if 0 ≤ j ∧ j < nn ∧ j < kk ∧ (t : Int) ≤ z j.toNat then z j.toNat - t + 1 else 0
  u : ∀ j : Nat, kk ≤ j → z j = 0
  bd : ∀ j : Nat, 0 ≤ z j ∧ z j ≤ 260
  lx : L.Pairwise lxr
  len : L.length ≤ kk
theorem Inv.start (nn : Nat) : Inv nn 1 0 (fun _ => 0) [] := ⟨fun j => by rw [if_neg (by omega)]; rfl, fun _ _ => rfl, fun _ => by omega, by simp, by simp⟩
theorem Inv.ids {nn t kk : Nat} {z : Nat → Int} {L : List Tm} {R : Int} (h : Inv nn t kk z L) (g : Gd R L) {x : Tm} (hx : x ∈ L) : 0 ≤ x.id ∧ x.id < nn ∧ x.id < kk ∧ (t : Int) ≤ z x.id.toNat ∧ x.left = z x.id.toNat - t + 1 := by
  have h1 := lft_mem g.nd hx
  have h2 := g.rng x hx
  rw [h.l] at h1
  by_cases hc : 0 ≤ x.id ∧ x.id < nn ∧ x.id < kk ∧ (t : Int) ≤ z x.id.toNat
  · rw [if_pos hc] at h1; exact ⟨hc.1, hc.2.1, hc.2.2.1, hc.2.2.2, h1.symm⟩
  · rw [if_neg hc] at h1; omega
theorem Inv.add {nn k : Nat} {z : Nat → Int} {L : List Tm} {q : Int} (h : Inv nn (k + 1) k z L) (g : Gd 256 L) (hk : k < nn) (hn : nn ≤ 60) (h0 : 0 ≤ q) (h1 : q < 200) : Inv nn (k + 1) (k + 1) (upd z k (((k + 1 : Nat) : Int) + q)) (ins ⟨k, 1 + q⟩ L) ∧ hasT L k = false ∧ (L.length : Int) < 256 := by
  have hno : ∀ x ∈ L, x.id ≠ (k : Int) := fun x hx => by have := (h.ids g hx).2.2.1; omega
  have hl := h.len
  refine ⟨⟨fun j => ?_, fun j hj => ?_, fun j => ?_, ?_, ?_⟩, (hasT_not L k).2 hno, by omega⟩
  · rw [lft_ins g (by omega) (by omega) hno (by omega)]
    by_cases e : j = k
    · have e2 : upd z k (((k + 1 : Nat) : Int) + q) j.toNat = ((k + 1 : Nat) : Int) + q := by unfold upd; rw [if_pos (by omega)]
      rw [if_pos e, e2, if_pos (by omega)]; omega
    · rw [if_neg e, h.l]
      by_cases h0 : 0 ≤ j
      · have e2 : upd z k (((k + 1 : Nat) : Int) + q) j.toNat = z j.toNat := by unfold upd; rw [if_neg (by omega)]
        rw [e2]
        by_cases h2 : 0 ≤ j ∧ j < nn ∧ j < k ∧ ((k + 1 : Nat) : Int) ≤ z j.toNat
        · rw [if_pos h2, if_pos (by omega)]
        · rw [if_neg h2, if_neg (by omega)]
      · rw [if_neg (by omega), if_neg (by omega)]
  · unfold upd; rw [if_neg (by omega)]; exact h.u j (by omega)
  · unfold upd
    by_cases e : j = k
    · rw [if_pos e]; omega
    · rw [if_neg e]; exact h.bd j
  · refine ins_pair h.lx (fun y hy hle => ⟨hle, fun _ => ?_⟩) (fun y hy ⟨u, hu, h2, h3⟩ => ?_)
    · show y.id < k
      exact (h.ids g hy).2.2.1
    · have : (⟨k, 1 + q⟩ : Tm).left < y.left := by
        rcases h3 with rfl | h3
        · exact h2
        · have := h3.1; omega
      exact ⟨by omega, fun e => by omega⟩
  · rw [length_ins]; omega
theorem Inv.skip {nn k : Nat} {z : Nat → Int} {L : List Tm} (h : Inv nn (k + 1) k z L) (hk : nn ≤ k) : Inv nn (k + 1) (k + 1) z L := by
  refine ⟨fun j => ?_, fun j hj => h.u j (by omega), h.bd, h.lx, by have := h.len; omega⟩
  rw [h.l]
  by_cases h2 : 0 ≤ j ∧ j < nn ∧ j < k ∧ ((k + 1 : Nat) : Int) ≤ z j.toNat
  · rw [if_pos h2, if_pos (by omega)]
  · rw [if_neg h2, if_neg (by omega)]
theorem Inv.gone {nn t : Nat} {z : Nat → Int} {L : List Tm} {x : Nat} {R : Int} (h : Inv nn t t z L) (g : Gd R L) (ht : 0 < t) : Inv nn t t (upd z x 0) (rmv L x) := by
  refine ⟨fun j => ?_, fun j hj => ?_, fun j => ?_, h.lx.sublist List.filter_sublist, ?_⟩
  · rw [lft_rmv g]
    by_cases e : j = x
    · have e2 : upd z x 0 j.toNat = 0 := by unfold upd; rw [if_pos (by omega)]
      rw [if_pos e, e2, if_neg (by omega)]
    · rw [if_neg e, h.l]
      by_cases h0 : 0 ≤ j
      · have e2 : upd z x 0 j.toNat = z j.toNat := by unfold upd; rw [if_neg (by omega)]
        rw [e2]
      · rw [if_neg (by omega), if_neg (by omega)]
  · unfold upd
    by_cases e : j = x
    · rw [if_pos e]
    · rw [if_neg e]; exact h.u j hj
  · unfold upd
    by_cases e : j = x
    · rw [if_pos e]; omega
    · rw [if_neg e]; exact h.bd j
  · have := h.len
    have h2 : (rmv L (x : Int)).length ≤ L.length := List.length_filter_le _ _
    omega
theorem Inv.has {nn t : Nat} {z : Nat → Int} {L : List Tm} {x : Nat} {R : Int} (h : Inv nn t t z L) (g : Gd R L) (hx : x < nn) : hasT L x = decide ((x : Int) < t ∧ (t : Int) ≤ z x) := by
  rw [has_lft g, h.l]
  have e : (x : Int).toNat = x := by omega
  rw [e]
  by_cases hc : (x : Int) < t ∧ (t : Int) ≤ z x
  · rw [if_pos (by omega), decide_eq_true hc]; simp; omega
  · rw [if_neg (by omega), decide_eq_false hc]; simp
theorem Inv.tick {nn t : Nat} {z : Nat → Int} {L : List Tm} {R : Int} (h : Inv nn t t z L) (g : Gd R L) : Inv nn (t + 1) t z (rst 1 L) := by
  refine ⟨fun j => ?_, h.u, h.bd, ?_, ?_⟩
  · rw [lft_rst g (by omega), h.l]
    by_cases h2 : 0 ≤ j ∧ j < nn ∧ j < t ∧ ((t + 1 : Nat) : Int) ≤ z j.toNat
    · rw [if_pos (c := 0 ≤ j ∧ j < ↑nn ∧ j < ↑t ∧ (t : Int) ≤ z j.toNat) (by omega), if_pos (by omega), if_pos h2]; omega
    · rw [if_neg h2]
      by_cases h3 : 0 ≤ j ∧ j < nn ∧ j < t ∧ (t : Int) ≤ z j.toNat
      · rw [if_pos h3, if_neg (by omega)]
      · rw [if_neg h3, if_neg (by omega)]
  · unfold rst
    refine (h.lx.sublist List.filter_sublist).map _ (fun a b hab => ?_)
    exact ⟨by show a.left - 1 ≤ b.left - 1; have := hab.1; omega, fun e => hab.2 (by have : a.left - 1 = b.left - 1 := e; omega)⟩
  · have h2 : (rst 1 L).length ≤ L.length := by unfold rst; rw [List.length_map]; exact List.length_filter_le _ _
    have := h.len
    omega
theorem Inv.nil {nn kk : Nat} {z : Nat → Int} {L : List Tm} {R : Int} (h : Inv nn 301 kk z L) (g : Gd R L) : L = [] := by
  cases L with
  | nil => rfl
  | cons x t =>
    have h1 := h.ids g (x := x) (by simp)
    have := (h.bd x.id.toNat).2
    omega
theorem srt_ext : ∀ {l m : List Int}, l.Pairwise (· < ·) → m.Pairwise (· < ·) → (∀ x, x ∈ l ↔ x ∈ m) → l = m
  | [], [], _, _, _ => rfl
  | [], y :: m, _, _, h => absurd ((h y).2 (by simp)) (by simp)
  | x :: l, [], _, _, h => absurd ((h x).1 (by simp)) (by simp)
  | x :: l, y :: m, hl, hm, h => by
    rw [List.pairwise_cons] at hl hm
    have e : x = y := by
      have h1 := (h x).1 (by simp)
      have h2 := (h y).2 (by simp)
      rcases List.mem_cons.1 h1 with h1 | h1
      · exact h1
      · rcases List.mem_cons.1 h2 with h2 | h2
        · exact h2.symm
        · have := hm.1 x h1; have := hl.1 y h2; omega
    subst e
    rw [srt_ext hl.2 hm.2 (fun u => ?_)]
    constructor
    · intro hu
      rcases List.mem_cons.1 ((h u).1 (by simp [hu])) with e | e
      · have := hl.1 u hu; omega
      · exact e
    · intro hu
      rcases List.mem_cons.1 ((h u).2 (by simp [hu])) with e | e
      · have := hm.1 u hu; omega
      · exact e
def due (z : Nat → Int) (t i : Nat) : List Nat := (List.range i).filter (fun j => decide (z j = (t : Int)))
def dues (z : Nat → Int) (t i : Nat) : List Int := (due z t i).map (fun j : Nat => (j : Int))
theorem due_step (z : Nat → Int) (t i : Nat) : (due z t (i + 1)).length = (due z t i).length + (if z i = (t : Int) then 1 else 0) := by
  unfold due
  rw [List.range_succ, List.filter_append, List.length_append]
  by_cases h : z i = (t : Int)
  · simp [h]
  · simp [h]
theorem dues_srt (z : Nat → Int) (t i : Nat) : (dues z t i).Pairwise (· < ·) := by
  unfold dues due
  refine (List.pairwise_lt_range.sublist List.filter_sublist).map _ (fun a b h => ?_)
  exact Int.ofNat_lt.2 h
theorem mem_dues {z : Nat → Int} {t i : Nat} {x : Int} : x ∈ dues z t i ↔ ∃ j : Nat, j < i ∧ z j = (t : Int) ∧ (j : Int) = x := by
  unfold dues due
  simp [and_assoc]
theorem Inv.out {nn t : Nat} {z : Nat → Int} {L : List Tm} {R : Int} (h : Inv nn t t z L) (g : Gd R L) (ht : 0 < t) : out 1 L = dues z t nn := by
  refine srt_ext ?_ (dues_srt z t nn) (fun x => ?_)
  · unfold Ytfejnokljddomaa.out
    rw [List.pairwise_map]
    have : ((L.filter (fun x => decide (x.left ≤ 1)))).Pairwise lxr := h.lx.sublist List.filter_sublist
    refine this.imp_of_mem (fun {a b} ha hb hab => ?_)
    have h1 := List.mem_filter.1 ha
    have h2 := List.mem_filter.1 hb
    have h3 := g.rng a h1.1
    have h4 := g.rng b h2.1
    have h5 := of_decide_eq_true h1.2
    have h6 := of_decide_eq_true h2.2
    exact hab.2 (by omega)
  · rw [mem_dues]
    unfold Ytfejnokljddomaa.out
    rw [List.mem_map]
    constructor
    · rintro ⟨y, hy, rfl⟩
      have h1 := List.mem_filter.1 hy
      have h2 := h.ids g h1.1
      have h3 := of_decide_eq_true h1.2
      have h4 := g.rng y h1.1
      exact ⟨y.id.toNat, by omega, by omega, by omega⟩
    · rintro ⟨j, hj, hz, rfl⟩
      have hjt : j < t := by
        by_cases e : j < t
        · exact e
        · have := h.u j (by omega); omega
      have hl := h.l (j : Int)
      have e : (j : Int).toNat = j := by omega
      rw [e, if_pos (by omega)] at hl
      rcases lft_cases L (j : Int) with ⟨y, hy, h1, h2⟩ | ⟨h1, h2⟩
      · exact ⟨y, List.mem_filter.2 ⟨hy, by simp; omega⟩, h1⟩
      · omega
theorem dues_get {z : Nat → Int} {t nn i : Nat} (hi : i < (dues z t nn).length) : ∃ o : Nat, (dues z t nn).getD i 0 = (o : Int) ∧ o < nn ∧ z o = (t : Int) := by
  have hm : (dues z t nn)[i] ∈ dues z t nn := List.getElem_mem hi
  obtain ⟨j, h1, h2, h3⟩ := mem_dues.1 hm
  exact ⟨j, by rw [h3]; simp [List.getD, List.getElem?_eq_getElem hi], h1, h2⟩
theorem dues_lt {z : Nat → Int} {t nn i : Nat} (hi : i + 1 < (dues z t nn).length) : (dues z t nn).getD i 0 < (dues z t nn).getD (i + 1) 0 := by
  have := List.pairwise_iff_getElem.1 (dues_srt z t nn) i (i + 1) (by omega) hi (by omega)
  simpa [List.getD, List.getElem?_eq_getElem hi, List.getElem?_eq_getElem (show i < (dues z t nn).length by omega)] using this
theorem dues_len (z : Nat → Int) (t nn : Nat) : (dues z t nn).length = (due z t nn).length := by unfold dues; rw [List.length_map]
theorem due_le (z : Nat → Int) (t i : Nat) : (due z t i).length ≤ i := by
  unfold due
  exact Nat.le_trans (List.length_filter_le _ _) (by simp)
end deltaOnce
end Go.Proofs.Ytfejnokljddomaa
