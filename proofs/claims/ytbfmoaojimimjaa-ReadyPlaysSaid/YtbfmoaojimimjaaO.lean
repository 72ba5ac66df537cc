/- What the laws without the document's answer keep: a queue filled, one raised; rows of the law's own. -/
import Derived.Test.YtbfmoaojimimjaaE
namespace Go.Proofs.Ytbfmoaojimimjaa
open Go.ChangeShapes Go.WideShapes Go.ChangeAt Go.RowKit Go.Deep
/-- The tasks 0 to n - 1 with their levels, in their order. -/
def fill (v : Nat → Int) : Nat → List E
  | 0 => []
  | k + 1 => addL (fill v k) k (v k)
theorem fill_mem (v : Nat → Int) : ∀ n, n ≤ 24 → (∀ i, 0 ≤ v i ∧ v i ≤ big) → QOK (fill v n) ∧ ∀ e, e ∈ fill v n ↔ ∃ i, i < n ∧ e = ⟨i, v i, none⟩
  | 0, _, _ => ⟨QOK.nil, fun e => ⟨fun h => (List.not_mem_nil h).elim, fun ⟨i, hi, _⟩ => absurd hi (by omega)⟩⟩
  | n + 1, hn, hv => by
    obtain ⟨h1, h2⟩ := fill_mem v n (by omega) hv
    have hh : hasT (n : Int) (fill v n) = false := hasT_not (fun y hy e => by
      obtain ⟨i, hi, rfl⟩ := (h2 y).1 hy
      simp at e; omega)
    have ht : taskB (n : Int) = true := taskB_iff.2 ⟨by omega, by omega⟩
    have hl : levB (v n) = true := levB_iff.2 (hv n)
    have e0 : addN (fill v n) n (v n) = 0 := by unfold addN; rw [ht, hl, hh]; simp
    have e1 : fill v (n + 1) = insE ⟨n, v n, none⟩ (fill v n) := by
      show addL _ _ _ = _
      unfold addL; rw [if_pos e0]
    refine ⟨h1.add n (v n), fun e => ?_⟩
    rw [e1, mem_insE, h2]
    constructor
    · rintro (rfl | ⟨i, hi, rfl⟩)
      · exact ⟨n, by omega, rfl⟩
      · exact ⟨i, by omega, rfl⟩
    · rintro ⟨i, hi, rfl⟩
      by_cases e : i = n
      · subst e; exact .inl rfl
      · exact .inr ⟨i, by omega, rfl⟩
theorem fill_len {v : Nat → Int} {n : Nat} (hn : n ≤ 24) (hv : ∀ i, 0 ≤ v i ∧ v i ≤ big) : (fill v n).length = n := by
  induction n with
  | zero => rfl
  | succ n ih =>
    obtain ⟨h1, h2⟩ := fill_mem v n (by omega) hv
    have hh : hasT (n : Int) (fill v n) = false := hasT_not (fun y hy e => by
      obtain ⟨i, hi, rfl⟩ := (h2 y).1 hy
      simp at e; omega)
    have ht : taskB (n : Int) = true := taskB_iff.2 ⟨by omega, by omega⟩
    have hl : levB (v n) = true := levB_iff.2 (hv n)
    have e0 : addN (fill v n) n (v n) = 0 := by unfold addN; rw [ht, hl, hh]; simp
    have e1 : fill v (n + 1) = insE ⟨n, v n, none⟩ (fill v n) := by
      show addL _ _ _ = _
      unfold addL; rw [if_pos e0]
    rw [e1, length_insE, ih (by omega)]
theorem fill_next {w0 w : World} {S : Nat → Prop} {q k : Nat} {pol z : Int} {v : Nat → Int} (hv : v k = z) (h : Hw w0 w S q pol ((k : Int) + 1) (addL (fill v k) k z)) : Hid (Hw w0 w S q pol ((k + 1 : Nat) : Int) (fill v (k + 1))) := by
  have e : ((k + 1 : Nat) : Int) = (k : Int) + 1 := by omega
  show Hw _ _ _ _ _ _ (addL (fill v k) k (v k))
  rw [e, hv]; exact h
/-- The others, by their numbers. -/
def oth (x : Int) (zs : List Int) : List Int := zs.filter (fun a => a != x)
theorem oth_snoc_ne {x z : Int} {zs : List Int} (h : z ≠ x) : oth x (zs ++ [z]) = oth x zs ++ [z] := by
  unfold oth; rw [List.filter_append]; simp [h]
theorem oth_snoc_eq {x : Int} {zs : List Int} : oth x (zs ++ [x]) = oth x zs := by
  unfold oth; rw [List.filter_append]; simp
theorem oth_map (x : Int) (L : List E) : oth x (L.map E.t) = (L.filter (fun e => e.t != x)).map E.t := by
  unfold oth; rw [List.filter_map]; rfl
theorem filter_del {L : List E} (h : QOK L) (x : Int) : L.filter (fun e => e.t != x) = delE x L := by
  refine extE (h.srt.filter _) (h.del x).srt fun e => ?_
  rw [List.mem_filter, mem_delE h.nd]
  simp
theorem filter_rai {L : List E} (h : QOK L) (x l : Int) : (raiL 1 L x l).filter (fun e => e.t != x) = delE x L := by
  rw [filter_del (h.rai 1 x l)]
  refine extE ((h.rai 1 x l).del x).srt (h.del x).srt fun e => ?_
  rw [mem_delE (h.rai 1 x l).nd, mem_delE h.nd]
  unfold raiL
  split
  · rw [mem_insE, mem_delE h.nd]
    constructor
    · rintro ⟨rfl | h1, h2⟩
      · exact absurd rfl h2
      · exact h1
    · rintro ⟨h1, h2⟩
      exact ⟨.inr ⟨h1, h2⟩, h2⟩
  · rfl
theorem oth_all {L : List E} (h : QOK L) (x : Int) : oth x (L.map E.t) = (delE x L).map E.t := by rw [oth_map, filter_del h]
theorem oth_rai {L : List E} (h : QOK L) (x l : Int) : oth x ((raiL 1 L x l).map E.t) = (delE x L).map E.t := by rw [oth_map, filter_rai h]
theorem del_rai {L : List E} (h : QOK L) (x l : Int) : delE x (raiL 1 L x l) = delE x L := by rw [← filter_del (h.rai 1 x l), filter_rai h]
/-- v is a row of numbers of the call's own (which began at w0). -/
structure Oz (w0 w : World) (v : Value) (zs : List Int) : Prop where
  own : Ov w v zs
  but : But No w0 w
  new : ∀ j, v.ownBlock = some j → w0.heap.size ≤ j
section
variable {w0 w W w2 : World} {v : Value} {zs ys : List Int} {n m c : Nat} {A : Option Addr} {xs : List Value}
theorem Oz.nil (hb : But No w0 w) : Oz w0 w (.slice none 0 0) [] := ⟨World.ownsRow_nil _ _ _ _, hb, own_none⟩
theorem Oz.row (h : Oz w0 w v zs) (hn : zs.length = n) (hb : But No w W) : W.ownsRow 0 3 1 v n (zs.map (Value.int .i64)) := by rw [← hn]; exact owns_but h.own hb (fun _ _ f => f)
theorem Oz.step (h : Oz w0 w v zs) (hb : But No w W) : Oz w0 W v zs := ⟨owns_but h.own hb (fun _ _ f => f), h.but.trans hb, h.new⟩
theorem Oz.app (h : Oz w0 w v zs) (hn : zs.length = n) (hb : But No w W) (hm : ys.length = m) (ho : w2.ownsRow 0 3 1 (.slice A (n + m) c) (n + m) (zs.map (Value.int .i64) ++ xs)) (hx : xs = ys.map (Value.int .i64))
    (hg : W.grownBy w2 v.ownBlock) (hat : (Value.slice A (n + m) c).ownBlock = v.ownBlock ∨ (Value.slice A (n + m) c).ownBlock = some W.heap.size) :
    Oz w0 w2 (.slice A (n + m) c) (zs ++ ys) := by
  refine ⟨?_, (h.but.trans hb).grown hg (fun j e => .inr (h.new j e)), own_new h.new hat ?_⟩
  · unfold Ov; rw [List.length_append, List.map_append, hn, hm, ← hx]; exact ho
  · have := h.but.size; have := hb.size; omega
/-- Blocks that the row had no part in are as they were. -/
theorem Oz.old (h : Oz w0 w v zs) {w' : World} {S : Nat → Prop} (hb : But S w w') (hs : ∀ k, S k → k < w0.heap.size) : Ov w' v zs :=
  h.own.but hb (fun k e hk => by have := h.new k e; have := hs k hk; omega)
end
theorem blk_rl {w : World} {b : Nat} {zs : List Int} (h : Blk w b (zs.map (Value.int .i64)).toArray 3) (hl : zs.length ≤ 100000) : Rl w (some ⟨b, 0, none⟩) zs.length zs :=
  ⟨rfl, by omega, fun _ => ⟨b, 0, rfl, h.lt, fun k hk => by
    rw [Nat.zero_add]
    refine h.cell ?_
    simp [hk]⟩⟩
theorem blk_at {w : World} {b : Nat} {zs : List Int} (h : Blk w b (zs.map (Value.int .i64)).toArray 3) {k : Nat} (hk : k < zs.length) : w.cell? ⟨b, k, none⟩ = some (.int .i64 (zs.getD k 0)) := by
  refine h.cell ?_
  simp [hk]
/-- A row of the law's own beside the queue's blocks. -/
structure Ap (w : World) (S : Nat → Prop) (v : Value) (ys : List Int) : Prop where
  own : Ov w v ys
  no : ∀ j, v.ownBlock = some j → ¬ S j
theorem Ap.stay {w w' : World} {S : Nat → Prop} {v : Value} {ys : List Int} (h : Ap w S v ys) (hb : But No w w') : Ap w' S v ys := ⟨h.own.but hb (fun _ _ f => f), h.no⟩
theorem ap_step {w0 w w' : World} {S : Nat → Prop} {q : Nat} {pol n n' : Int} {L L' : List E} {v : Value} {ys : List Int} (h : Hw w0 w S q pol n L) (ha : Ap w S v ys) (hm : QMv w S q pol n' L' w') : ∃ S', Hw w0 w' S' q pol n' L' ∧ Ap w' S' v ys := by
  obtain ⟨S', h1, h2⟩ := h.step2 hm
  obtain ⟨S'', k1, k2, k3⟩ := hm
  exact ⟨S', h1, ha.own.but k2 ha.no, fun j e => h2 j (ha.own.lt j e).2 (ha.no j e)⟩
theorem ap_of {w5 w0 w : World} {S : Nat → Prop} {q : Nat} {pol n : Int} {L : List E} {v : Value} {ys : List Int} (h : Hw w0 w5 S q pol n L) (ho : Oz w5 w v ys) : Ap w S v ys :=
  ⟨ho.own, fun j e hs => by have := ho.new j e; have := h.qp.lt j hs; omega⟩
theorem oth_le (x : Int) (zs : List Int) : (oth x zs).length ≤ zs.length := List.length_filter_le _ _
/-- A block that All gave, beside the queue's blocks. -/
structure Bk (w : World) (S : Nat → Prop) (b : Nat) (zs : List Int) : Prop where
  blk : Blk w b (zs.map (Value.int .i64)).toArray 3
  no : ¬ S b
theorem Bk.stay {w w' : World} {S : Nat → Prop} {b : Nat} {zs : List Int} (h : Bk w S b zs) (hb : But No w w') : Bk w' S b zs := ⟨h.blk.but hb (fun f => f), h.no⟩
theorem bk_step {w0 w w' : World} {S : Nat → Prop} {q b : Nat} {pol n n' : Int} {L L' : List E} {zs : List Int} (h : Hw w0 w S q pol n L) (ha : Bk w S b zs) (hm : QMv w S q pol n' L' w') : ∃ S', Hw w0 w' S' q pol n' L' ∧ Bk w' S' b zs := by
  obtain ⟨S', h1, h2⟩ := h.step2 hm
  obtain ⟨S'', k1, k2, k3⟩ := hm
  exact ⟨S', h1, ha.blk.but k2 ha.no, h2 b ha.blk.lt ha.no⟩
theorem bk_of {w0 w w5 : World} {S : Nat → Prop} {q b : Nat} {pol n : Int} {L : List E} {zs : List Int} (h : Hw w0 w S q pol n L) (hb : Blk w5 b (zs.map (Value.int .i64)).toArray 3) (hl : w.heap.size ≤ b) : Bk w5 S b zs := ⟨hb, fun e => by have := h.qp.lt b e; omega⟩
/-- Raised above what was there, and back again. -/
theorem rai_mem {L : List E} (h : QOK L) {t l : Int} (hh : hasT t L = true) (hl : levB l = true) : raiN 1 L t l = 0 ∧ raiL 1 L t l = insE ⟨t, ownV t L, some l⟩ (delE t L) ∧ (raiL 1 L t l).length = L.length := by
  obtain ⟨_, _, t0, t1⟩ := ownV_rng h hh
  have e0 : raiN 1 L t l = 0 := by unfold raiN; rw [taskB_iff.2 ⟨t0, t1⟩, hl, hh]; simp
  have e1 : raiL 1 L t l = insE ⟨t, ownV t L, some l⟩ (delE t L) := by unfold raiL; rw [if_pos e0]
  exact ⟨e0, e1, by rw [e1, length_insE, length_delE hh]⟩
theorem rai_lev {L : List E} (h : QOK L) {t l : Int} (hh : hasT t L = true) (hl : levB l = true) : levV t (raiL 1 L t l) = l ∧ hasT t (raiL 1 L t l) = true ∧ ownV t (raiL 1 L t l) = ownV t L := by
  have hq := h.rai 1 t l
  obtain ⟨e0, e1, _⟩ := rai_mem h hh hl
  have hm : (⟨t, ownV t L, some l⟩ : E) ∈ raiL 1 L t l := by rw [e1]; exact mem_insE.2 (.inl rfl)
  exact ⟨levV_of hq.nd hm, hasT_of hm rfl, ownV_of hq.nd hm⟩
theorem fal_rai {L : List E} (h : QOK L) {t l : Int} (hh : hasT t L = true) (hl : levB l = true) (hu : ∀ e ∈ L, e.up = none) : falL (raiL 1 L t l) t = L := by
  have hq := h.rai 1 t l
  obtain ⟨e0, e1, _⟩ := rai_mem h hh hl
  obtain ⟨a, b, c⟩ := rai_lev h hh hl
  refine extE (hq.fal t).srt h.srt fun e => ?_
  unfold falL
  rw [if_pos b, c, mem_insE, del_rai h, mem_delE h.nd]
  obtain ⟨x, hx, hxt⟩ := hasT_true hh
  have ho : (⟨t, ownV t L, none⟩ : E) = x := by
    subst hxt
    rw [ownV_of h.nd hx, ← hu x hx]
  constructor
  · rintro (rfl | h1)
    · rw [ho]; exact hx
    · exact h1.1
  · intro he
    by_cases et : e.t = t
    · left
      rw [ho]
      exact uniqE h.nd he hx (et.trans hxt.symm)
    · exact .inr ⟨he, et⟩
theorem rai_ahead {L : List E} (h : QOK L) {t l : Int} (hh : hasT t L = true) (hl : levB l = true) (hu : ∀ e ∈ L, e.up = none) {j : Nat} {e : E} (hj : (raiL 1 L t l)[j]? = some e) (ht : e.t ≠ t) :
    e ∈ L ∧ (t ∉ ((raiL 1 L t l).map E.t).take j → e.own < l) ∧ (t ∈ ((raiL 1 L t l).map E.t).take j → l ≤ e.own) := by
  have hq := h.rai 1 t l
  obtain ⟨e0, e1, _⟩ := rai_mem h hh hl
  have hm : (⟨t, ownV t L, some l⟩ : E) ∈ raiL 1 L t l := by rw [e1]; exact mem_insE.2 (.inl rfl)
  obtain ⟨hjl, hje⟩ := List.getElem?_eq_some_iff.1 hj
  have he : e ∈ raiL 1 L t l := by rw [← hje]; exact List.getElem_mem hjl
  have heL : e ∈ L := by
    rw [e1, mem_insE, mem_delE h.nd] at he
    rcases he with rfl | he
    · exact absurd rfl ht
    · exact he.1
  have hup := hu e heL
  have hlv : lv e = e.own := by unfold lv; rw [hup]; rfl
  have hle : lv (⟨t, ownV t L, some l⟩ : E) = l := rfl
  obtain ⟨p, hpl, hp⟩ := List.mem_iff_getElem.1 hm
  have hpw := List.pairwise_iff_getElem.1 hq.srt
  have hne : p ≠ j := by
    intro e; subst e
    rw [hp] at hje
    exact ht (by rw [← hje])
  have hin : t ∈ ((raiL 1 L t l).map E.t).take j ↔ p < j := by
    constructor
    · intro hmem
      obtain ⟨i, hi, hie⟩ := List.mem_iff_getElem.1 hmem
      rw [List.getElem_take, List.getElem_map] at hie
      have hi2 : i < j := by rw [List.length_take] at hi; omega
      have hi3 : i < (raiL 1 L t l).length := by rw [List.length_take, List.length_map] at hi; omega
      have : i = p := by
        rcases Nat.lt_trichotomy i p with g | g | g
        · have := (List.pairwise_iff_getElem.1 hq.nd) i p hi3 hpl g
          rw [hp] at this; exact absurd hie this
        · exact g
        · have := (List.pairwise_iff_getElem.1 hq.nd) p i hpl hi3 g
          rw [hp] at this; exact absurd hie.symm this
      omega
    · intro g
      rw [List.mem_iff_getElem]
      refine ⟨p, by rw [List.length_take, List.length_map]; omega, ?_⟩
      rw [List.getElem_take, List.getElem_map, hp]
  have k1 := hq.ok _ he
  have k2 := hq.ok _ hm
  refine ⟨heL, fun hn => ?_, fun hy => ?_⟩
  · have : j < p := by have : ¬ p < j := fun g => hn (hin.2 g); omega
    have hk := hpw j p hjl hpl this
    rw [hje, hp, ke_lt k1 k2, hlv, hle, hup] at hk
    simpa using hk
  · have := hpw p j hpl hjl (hin.1 hy)
    rw [hje, hp, ke_lt k2 k1, hlv, hle] at this
    omega
end Go.Proofs.Ytbfmoaojimimjaa
