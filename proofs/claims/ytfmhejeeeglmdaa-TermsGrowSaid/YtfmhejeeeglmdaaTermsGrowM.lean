/- The mathematics of TermsGrow; rows of its own. -/
import Derived.Test.YtfmhejeeeglmdaaE
import Derived.OwnWalk
namespace Go.Proofs.Ytfmhejeeeglmdaa
open Go.ChangeShapes Go.WideShapes Go.ChangeAt Go.RowKit Go.Deep val ter
namespace termsGrow
theorem getD_set (l : List Int) (k i : Nat) (v : Int) : (l.set k v).getD i 0 = if i = k ∧ k < l.length then v else l.getD i 0 := by
  simp only [List.getD, List.getElem?_set]
  by_cases e : k = i
  · subst e
    by_cases h : k < l.length
    · simp [h]
    · simp [h]
  · rw [if_neg e, if_neg (fun h => e h.1.symm)]
theorem cr_set_ne (co : Int) (wh : List Int) (k i : Nat) (v : Int) (h : i ≠ k) : cr co (wh.set k v) i = cr co wh i := by
  have e : (wh.set k v).getD i 0 = wh.getD i 0 := by rw [getD_set, if_neg (fun h' => h h'.1)]
  unfold cr
  rw [e, List.length_set]
theorem cr_set_off (co : Int) (wh : List Int) (k : Nat) (v : Int) (hk : k < wh.length) (hv : v < 0 ∨ co ≤ v) : cr co (wh.set k v) k = -1 := by
  have e : (wh.set k v).getD k 0 = v := by rw [getD_set, if_pos ⟨rfl, hk⟩]
  unfold cr
  rw [e, if_neg (by omega)]
theorem cr_set_in (co : Int) (wh : List Int) (k : Nat) (v : Int) (hk : k < wh.length) (h0 : 0 ≤ v) (h1 : v < co) : cr co (wh.set k v) k = v := by
  have e : (wh.set k v).getD k 0 = v := by rw [getD_set, if_pos ⟨rfl, hk⟩]
  unfold cr
  rw [e, if_pos ⟨by rw [List.length_set]; exact hk, h0, h1⟩]
theorem enS_none (l : List Sec) : enS (-1) l = [] := by unfold enS; rw [if_pos rfl]
/-- Where one task more has a place, nobody waits for less. -/
theorem wait_grow (s : Sys) (wh : List Int) (k : Nat) (v other sect : Int) (hk : k < wh.length) (ho : other ≠ (k : Int)) : waitV s (wh.set k (-1)) other sect ≤ waitV s (wh.set k v) other sect := by
  cases hs : sec? s other sect with
  | none => rw [wait_none hs, wait_none hs]; exact Int.le_refl 0
  | some x =>
    rw [wait_some hs, wait_some hs]
    rcases sec_cases s other sect with ⟨o, _, _, _, rfl, _⟩ | ⟨h6, _⟩ | ⟨h6, _⟩
    · rw [Int.toNat_natCast]
      have hne : o ≠ k := by omega
      unfold smV
      rw [cr_set_ne _ _ _ _ _ hne, cr_set_ne _ _ _ _ _ hne]
      refine sm_mono (fun y hy => ?_) _ _ _
      unfold F at hy ⊢
      obtain ⟨i, hi, h⟩ := fl_mem.1 hy
      refine fl_mem.2 ⟨i, hi, ?_⟩
      by_cases e : i = k
      · subst e
        rw [cr_set_off _ _ _ _ hk (.inl (by omega)), enS_none] at h
        cases h
      · rw [cr_set_ne _ _ _ _ _ e] at h ⊢
        exact h
    · rw [hs] at h6; cases h6
    · rw [hs] at h6; cases h6
theorem exN_zero (s : Sys) (wh : List Int) (k : Nat) (h : ∀ r, smV s wh k r = 0) (l : List Sec) (n : Nat) : exN s wh k l n = 0 := by
  induction n with
  | zero => rfl
  | succ n ih => rw [exN, ih, h]; rfl
/-- A section alone on its resource waits for nobody. -/
theorem alone_zero (s : Sys) (k : Nat) (v : Int) (n : Nat) (hk : k < n) (h0 : 0 ≤ v) (h1 : v < s.co) : extraV s ((List.replicate n (-1)).set k v) k = 0 := by
  have hk' : k < (List.replicate n (-1 : Int)).length := by rw [List.length_replicate]; exact hk
  have hz : ∀ r, smV s ((List.replicate n (-1)).set k v) k r = 0 := fun r => by
    unfold smV
    rw [cr_set_in _ _ _ _ hk' h0 h1]
    refine sm_alone (fun x hx => ?_) _ _
    unfold F at hx
    obtain ⟨i, hi, h⟩ := fl_mem.1 hx
    obtain ⟨g1, g2, _⟩ := enS_mem.1 h
    rw [g2]
    by_cases e : i = k
    · subst e; exact cr_set_in _ _ _ _ hk' h0 h1
    · rw [cr_set_ne _ _ _ _ _ e] at g1
      refine absurd ?_ g1
      unfold cr
      by_cases hl : i < n
      · have e9 : (List.replicate n (-1 : Int)).getD i 0 = -1 := by simp [List.getD, hl]
        rw [e9, if_neg (by omega)]
      · rw [if_neg (by rw [List.length_replicate]; omega)]
  rcases tsk_cases s (k : Int) with ⟨_, t, _, _, _, h4⟩ | ⟨h4, _⟩
  · rw [extra_some h4, Int.toNat_natCast]; exact exN_zero s _ k hz _ _
  · exact extra_none h4
theorem hold_wait (s : Sys) (wh : List Int) (task k : Int) : waitV s wh task k ≤ holdV s wh task k := by
  cases hs : sec? s task k with
  | none => rw [wait_none hs, hold_none hs]; exact Int.le_refl 0
  | some x => have := (sec_some hs).2; rw [hold_some hs]; omega
/-- A row of the call's own at g that reads as zs. -/
def Ow (w : World) (g : Nat) (zs : List Int) : Prop := ∃ cur, Blk w g cur 3 ∧ ∀ j, j < zs.length → cur[j]? = some (.int .i64 (zs.getD j 0))
theorem Ow.lt {w : World} {g : Nat} {zs : List Int} (h : Ow w g zs) : g < w.heap.size := by obtain ⟨_, h, _⟩ := h; exact h.lt
theorem Ow.but {w w' : World} {g : Nat} {zs : List Int} {S : Nat → Prop} (h : Ow w g zs) (hb : But S w w') (hs : ¬ S g) : Ow w' g zs := by
  obtain ⟨cur, h1, h2⟩ := h
  exact ⟨cur, h1.but hb hs, h2⟩
theorem Ow.set {w : World} {g k : Nat} {zs : List Int} (h : Ow w g zs) (v : Int) : Ow (w.setCell ⟨g, k, none⟩ (.int .i64 v)) g (zs.set k v) := by
  obtain ⟨cur, h1, h2⟩ := h
  refine ⟨_, h1.set k (.int .i64 v), fun j hj => ?_⟩
  rw [List.length_set] at hj
  have hl : j < cur.size := (Array.getElem?_eq_some_iff.1 (h2 j hj)).1
  rw [getD_set, Array.getElem?_setIfInBounds]
  by_cases e : k = j
  · subst e; rw [if_pos rfl, if_pos hl, if_pos ⟨rfl, hj⟩]
  · rw [if_neg e, if_neg (fun h => e h.1.symm)]; exact h2 j hj
theorem Ow.rd {w : World} {g : Nat} {zs : List Int} (h : Ow w g zs) (hm : zs.length ≤ 9223372036854775807) (hf : ∀ k, inR (zs.getD k 0)) : Rd w (some ⟨g, 0, none⟩) zs.length zs := by
  obtain ⟨cur, h1, h2⟩ := h
  exact ⟨rfl, hm, fun _ => ⟨g, 0, rfl, h1.lt, fun k hk => by rw [Nat.zero_add]; exact h1.cell (h2 k hk)⟩, hf⟩
theorem Ow.cell {w : World} {g k : Nat} {zs : List Int} (h : Ow w g zs) (hk : k < zs.length) : w.cell? ⟨g, k, none⟩ = some (.int .i64 (zs.getD k 0)) := by
  obtain ⟨cur, h1, h2⟩ := h
  exact h1.cell (h2 k hk)
theorem Ow.frozen {w : World} {g : Nat} {zs : List Int} (h : Ow w g zs) (k : Nat) : w.frozen? ⟨g, k, none⟩ = false := by
  obtain ⟨cur, h1, _⟩ := h
  exact h1.frozen k
/-- What append to no slice makes. -/
theorem ow_of {w : World} {zs : List Int} {A : Option Addr} {n c N : Nat} (h : w.ownsRow 0 3 1 (.slice A n c) n (zs.map (Value.int .i64))) (hn : 0 < n) (hat : (Value.slice A n c).ownBlock = (Value.slice none 0 0).ownBlock ∨ (Value.slice A n c).ownBlock = some N) : A = some ⟨N, 0, none⟩ ∧ Ow w N zs ∧ zs.length = n := by
  obtain ⟨h1, h2⟩ := h
  have hl : zs.length = n := by simpa using h1
  rcases h2 with ⟨h2, _⟩ | ⟨g', cap, cur, hv, _, hh, hc, _, hs, ht⟩
  · cases h2; omega
  · cases hv
    have e : g' = N := by
      rcases hat with h | h
      · simp [Value.ownBlock] at h
      · simpa [Value.ownBlock] using h
    subst e
    refine ⟨rfl, ⟨cur, hh, fun k hk => ?_⟩, hl⟩
    have e : (cur.toList.take (n * 1))[k]? = some (.int .i64 (zs.getD k 0)) := by
      rw [ht]; simp [hk]
    rw [List.getElem?_take, if_pos (by omega)] at e
    simpa using e
theorem _root_.Go.Proofs.Ytfmhejeeeglmdaa.Rd.reads {w : World} {A : Option Addr} {n : Nat} {zs : List Int} (h : Rd w A n zs) : Reads w w.heap.size 1 A n (zs.map (Value.int .i64)) := by
  refine ⟨by rw [List.length_map, h.len]; omega, fun hn => ?_⟩
  obtain ⟨b, off, e, hl, hc⟩ := h.at_ hn
  refine ⟨⟨b, off, none⟩, e, hl, fun j u hu => ?_⟩
  have hj : j < n := by have := (List.getElem?_eq_some_iff.1 hu).1; rw [List.length_map, h.len] at this; exact this
  have hu2 : u = .int .i64 (zs.getD j 0) := by
    have : j < zs.length := by rw [h.len]; exact hj
    simp [List.getElem?_map, List.getElem?_eq_getElem this] at hu
    rw [← hu]; simp [List.getD, this]
  subst hu2
  rw [add_plain]
  exact hc j hj
theorem one_ints (zs : List Int) : ∀ u ∈ zs.map (Value.int .i64), u.oneCell' = true := fun u hu => by
  obtain ⟨z, _, rfl⟩ := List.mem_map.1 hu
  rfl
theorem ow_row {w : World} {zs : List Int} {b n c : Nat} (h : w.ownsRow 0 3 1 (.slice (some ⟨b, 0, none⟩) n c) n (zs.map (Value.int .i64))) (hn : 0 < n) : Ow w b zs ∧ zs.length = n := by
  have := ow_of (N := b) h hn (.inr rfl)
  exact this.2
/-- -1 in the first q places of n, 0 behind. -/
def ng (n q : Nat) : List Int := (List.range n).map (fun j => if j < q then (-1 : Int) else 0)
theorem ng_len (n q : Nat) : (ng n q).length = n := by unfold ng; simp
theorem ng_set {n q : Nat} (h : q < n) : (ng n q).set q (-1) = ng n (q + 1) := by
  unfold ng
  apply List.ext_getElem?
  intro i
  rw [List.getElem?_set]
  by_cases hi : i < n
  · by_cases e : q = i
    · subst e; simp [h]
    · simp [hi, e]; split <;> split <;> omega
  · by_cases e : q = i
    · omega
    · simp [hi, e]
theorem ng_all (n : Nat) : ng n n = List.replicate n (-1) := by
  unfold ng
  apply List.ext_getElem?
  intro i
  by_cases hi : i < n
  · simp [hi]
  · simp [hi]
theorem ow_made {w : World} {b n : Nat} (hn : 0 < n) (h : w.ownsRow 0 3 1 (.slice (some ⟨b, 0, none⟩) n n) n (madeCells (Value.int .i64 0).cells (n * 1)).toList) : Ow w b (ng n 0) := by
  have e : (madeCells (Value.int .i64 0).cells (n * 1)).toList = (ng n 0).map (Value.int .i64) := by
    rw [show (Value.int .i64 0).cells = #[Value.int .i64 0] from rfl, toList_madeCells_one]
    unfold ng
    apply List.ext_getElem?
    intro i
    by_cases hi : i < n
    · simp [hi]
    · simp [hi]
  rw [e] at h
  exact (ow_row h hn).1
theorem getD_in {l : List Int} (h : ∀ k, inR (l.getD k 0)) {v : Int} (hv : inR v) (q : Nat) : ∀ k, inR ((l.set q v).getD k 0) := fun k => by
  rw [getD_set]; split
  · exact hv
  · exact h k
end termsGrow
end Go.Proofs.Ytfmhejeeeglmdaa
