/- What IpiOnce keeps: the ticks at which notes are due, in a row of 48 numbers. -/
import Derived.Test.YtmfjlfemeihchaaE
namespace Go.Proofs.Ytmfjlfemeihchaa
open Go.ChangeShapes Go.WideShapes Go.ChangeAt Go.RowKit Go.Deep
def dz (L : List Nt) (a b : Int) : Int := match fnd L a b with | some n => n.due | none => 0
theorem dz_some {L : List Nt} {a b : Int} {n : Nt} (h : fnd L a b = some n) : dz L a b = n.due := by unfold dz; rw [h]
theorem dz_none {L : List Nt} {a b : Int} (h : fnd L a b = none) : dz L a b = 0 := by unfold dz; rw [h]
theorem dz_zero {C : Int} {T : Nat} {L : List Nt} (g : Gd C T L) (a b : Int) : dz L a b = 0 ↔ (fnd L a b).isNone = true := by
  cases e : fnd L a b with
  | none => rw [dz_none e]; simp
  | some n =>
    rw [dz_some e]
    have := (g.rng n (fnd_some e).1).2.2.2.2.1
    simp; omega
/-- The row F tells of L. -/
def FL (F : Nat → Int) (L : List Nt) : Prop := ∀ c t : Nat, c < 2 → t < 24 → F (c * 24 + t) = dz L c t
/-- All is due from now on, and later where cores below c are asked. -/
def Lo (L : List Nt) (q : Nat) (c : Int) : Prop := ∀ n ∈ L, n.due ≤ 150 ∧ (q : Int) ≤ n.due ∧ (n.core < c → (q : Int) < n.due)
def cnF (F : Nat → Int) (b q : Nat) : Nat → Nat
  | 0 => 0
  | k + 1 => if F (b + k) = (q : Int) ∧ 0 < q then cnF F b q k + 1 else cnF F b q k
theorem cnF_le (F : Nat → Int) (b q : Nat) : ∀ k, cnF F b q k ≤ k
  | 0 => Nat.le_refl _
  | k + 1 => by
    have := cnF_le F b q k
    unfold cnF; split <;> omega
theorem cnF_len {T : Nat} {L : List Nt} (g : Gd 2 T L) {F : Nat → Int} {c q : Nat} (hF : FL F L) (hc : c < 2) (hl : Lo L q c) : ∀ k, k ≤ 24 → cnF F (c * 24) q k = (byT c q L k).length
  | 0, _ => rfl
  | k + 1, hk => by
    have ih := cnF_len g hF hc hl k (by omega)
    have hf := hF c k hc (by omega)
    unfold cnF byT
    rw [hf]
    cases e : fnd L c k with
    | none =>
      rw [dz_none e]
      show _ = (byT c q L k).length
      rw [if_neg (by omega)]; exact ih
    | some n =>
      rw [dz_some e]
      have h1 := (g.rng n (fnd_some e).1).2.2.2.2.1
      have h2 := (hl n (fnd_some e).1).2.1
      show _ = (if n.due ≤ (q : Int) then ins n (byT c q L k) else byT c q L k).length
      by_cases hd : n.due ≤ (q : Int)
      · rw [if_pos hd, if_pos (by omega), ins_length, ih]
      · rw [if_neg hd, if_neg (by omega)]; exact ih
/-- The first j of K are struck out. -/
def zr (F : Nat → Int) (b : Nat) (K : List Nt) (j : Nat) (i : Nat) : Int := if (K.take j).any (fun x => i == b + x.task.toNat) = true then 0 else F i
theorem zr_zero (F : Nat → Int) (b : Nat) (K : List Nt) (i : Nat) : zr F b K 0 i = F i := by unfold zr; simp
theorem zr_step (F : Nat → Int) (b : Nat) {K : List Nt} {j : Nat} (hj : j < K.length) (i : Nat) : zr F b K (j + 1) i = if i = b + (K.getD j nt0).task.toNat then 0 else zr F b K j i := by
  unfold zr
  rw [take_snocN hj, List.any_append]
  have e2 : ([K.getD j nt0].any fun x => i == b + x.task.toNat) = decide (i = b + (K.getD j nt0).task.toNat) := by
    rw [List.any_cons, List.any_nil, Bool.or_false]; rfl
  rw [e2]
  by_cases e : i = b + (K.getD j nt0).task.toNat
  · rw [if_pos e, if_pos (by rw [decide_eq_true e]; simp)]
  · rw [if_neg e, decide_eq_false e, Bool.or_false]
theorem tk_apart {C : Int} {T : Nat} {L : List Nt} (g : Gd C T L) (c now : Int) {i j : Nat} (hij : i < j) (hj : j < (tk c now L).length) : ((tk c now L).getD i nt0).task ≠ ((tk c now L).getD j nt0).task := by
  intro e
  have m1 := (tk_mem g).1 (getD_mem (K := tk c now L) (k := i) (by omega))
  have m2 := (tk_mem g).1 (getD_mem hj)
  have f1 := fnd_mem g.one m1.1
  have f2 := fnd_mem g.one m2.1
  rw [m1.2.1, e] at f1
  rw [m2.2.1, f1] at f2
  have hs := (tk_inv c now L g.up).1
  have := List.pairwise_iff_getElem.1 hs i j (by omega) hj hij
  simp only [Option.some.injEq] at f2
  rw [List.getD_eq_getElem?_getD, List.getD_eq_getElem?_getD, List.getElem?_eq_getElem (by omega), List.getElem?_eq_getElem hj] at f2
  simp only [Option.getD_some] at f2
  rw [f2] at this
  exact ah_irr _ this
theorem zr_fresh {T : Nat} {L : List Nt} (g : Gd 2 T L) (F : Nat → Int) (c q : Nat) {j : Nat} (hj : j < (tk c q L).length) :
    zr F (c * 24) (tk c q L) j (c * 24 + ((tk c q L).getD j nt0).task.toNat) = F (c * 24 + ((tk c q L).getD j nt0).task.toNat) := by
  unfold zr
  rw [if_neg]
  intro h
  obtain ⟨x, hx, e⟩ := List.any_eq_true.1 h
  obtain ⟨i, hi, e2⟩ := mem_getD hx
  rw [List.length_take] at hi
  have hij : i < j := by omega
  have hxi : (tk c q L).getD i nt0 = x := by
    rw [← e2, List.getD_eq_getElem?_getD, List.getD_eq_getElem?_getD, List.getElem?_take, if_pos hij]
  have := tk_apart g c q hij hj
  rw [hxi] at this
  have r1 := g.rng _ ((tk_mem g).1 (getD_mem hj)).1
  have r2 := g.rng _ ((tk_mem g).1 (hxi ▸ getD_mem (K := tk c q L) (k := i) (by omega))).1
  simp only [beq_iff_eq] at e
  omega
theorem tk_due {T : Nat} {L : List Nt} (g : Gd 2 T L) {F : Nat → Int} {c q : Nat} (hF : FL F L) (hc : c < 2) (hl : Lo L q c) {j : Nat} (hj : j < (tk c q L).length) :
    F (c * 24 + ((tk c q L).getD j nt0).task.toNat) = q ∧ 0 ≤ ((tk c q L).getD j nt0).task ∧ ((tk c q L).getD j nt0).task < 24 := by
  have m := (tk_mem g).1 (getD_mem hj)
  have r := g.rng _ m.1
  have f1 := fnd_mem g.one m.1
  rw [m.2.1] at f1
  have := hF c ((tk c q L).getD j nt0).task.toNat hc (by omega)
  rw [show ((((tk c q L).getD j nt0).task.toNat : Nat) : Int) = ((tk c q L).getD j nt0).task by omega, dz_some f1] at this
  have h2 := (hl _ m.1).2.1
  exact ⟨by rw [this]; omega, r.2.2.1, r.2.2.2.1⟩
theorem FL.struck {T : Nat} {L : List Nt} (g : Gd 2 T L) {F : Nat → Int} {c q : Nat} (hF : FL F L) : FL (zr F (c * 24) (tk c q L) (tk c q L).length) (lf c q L) := by
  intro a t ha ht
  unfold zr
  rw [List.take_length]
  have e1 := fnd_lf g.one c q a t
  by_cases h : (tk c q L).any (fun x => a * 24 + t == c * 24 + x.task.toNat) = true
  · rw [if_pos h]
    obtain ⟨x, hx, e⟩ := List.any_eq_true.1 h
    have m := (tk_mem g).1 hx
    have r := g.rng _ m.1
    simp only [beq_iff_eq] at e
    have ea : a = c := by omega
    have et : (t : Int) = x.task := by omega
    have f1 := fnd_mem g.one m.1
    rw [m.2.1, ← et, ← ea] at f1
    rw [f1] at e1
    simp only at e1
    rw [if_pos ⟨by omega, m.2.2⟩] at e1
    rw [dz_none e1]
  · rw [if_neg h, hF a t ha ht]
    unfold dz
    rw [e1]
    cases e : fnd L a t with
    | none => rfl
    | some n =>
      obtain ⟨n1, n2, n3⟩ := fnd_some e
      show n.due = match (if (a : Int) = c ∧ n.due ≤ (q : Int) then none else some n) with | some n => n.due | none => 0
      rw [if_neg]
      rintro ⟨h1, h2⟩
      refine h (List.any_eq_true.2 ⟨n, (tk_mem g).2 ⟨n1, n2.trans h1, h2⟩, ?_⟩)
      simp only [beq_iff_eq]; omega
theorem Lo.struck {L : List Nt} {q c : Nat} (h : Lo L q c) : Lo (lf c q L) q ((c + 1 : Nat) : Int) := by
  intro n hn
  obtain ⟨h1, h2⟩ := lf_mem.1 hn
  obtain ⟨a, b, d⟩ := h n h1
  refine ⟨a, b, fun hc => ?_⟩
  by_cases e : n.core = c
  · have : ¬ n.due ≤ (q : Int) := fun e' => h2 ⟨e, e'⟩
    omega
  · exact d (by omega)
theorem Lo.next {C : Int} {T : Nat} {L : List Nt} (g : Gd C T L) (h2 : C ≤ 2) {q : Nat} (h : Lo L q ((2 : Nat) : Int)) : Lo L (q + 1) 0 := by
  intro n hn
  obtain ⟨a, b, d⟩ := h n hn
  have := (g.rng n hn).2.1
  have := (g.rng n hn).1
  have := d (by omega)
  exact ⟨a, by omega, fun h => by omega⟩
theorem FL.sent {L : List Nt} {F : Nat → Int} (h : FL F L) {c t : Nat} (hc : c < 2) (ht : t < 24) (hf : fnd L c t = none) (d r : Int) : FL (fun j => if j = c * 24 + t then d else F j) (L ++ [⟨c, t, d, r⟩]) := by
  intro a b ha hb
  show (if a * 24 + b = c * 24 + t then d else F (a * 24 + b)) = _
  by_cases e : a = c ∧ b = t
  · obtain ⟨rfl, rfl⟩ := e
    rw [if_pos rfl]
    exact (dz_some (n := ⟨a, b, d, r⟩) (by rw [fnd_append, hf]; simp)).symm
  · rw [if_neg (by omega), h a b ha hb]
    unfold dz
    rw [fnd_append]
    cases e' : fnd L a b with
    | some n => rfl
    | none =>
      rw [if_neg (show ¬ ((c : Int) = a ∧ (t : Int) = b) by omega)]
theorem Lo.sent {L : List Nt} {q : Nat} (h : Lo L (q + 1) 0) {c t d r : Int} (h1 : (q : Int) + 1 ≤ d) (h2 : d ≤ 150) (h3 : 0 ≤ c) : Lo (L ++ [⟨c, t, d, r⟩]) (q + 1) 0 := by
  intro n hn
  rcases List.mem_append.1 hn with hn | hn
  · exact h n hn
  · rw [List.mem_singleton] at hn; subst hn
    exact ⟨h2, by dsimp only; omega, fun h => by dsimp only at h; omega⟩
theorem cn_24 {C : Int} {T : Nat} {L : List Nt} (g : Gd C T L) (c : Int) : cn L c ≤ 24 := by
  rw [← cnT_cn g c]; exact cnT_le L c 24
/-- The state of the law: mailboxes and the row. -/
structure St (w wx : World) (p m db : Nat) (T : Nat) (L : List Nt) (F : Nat → Int) : Prop where
  hw : Hw w wx p m 2 T L
  vs : Vals wx db 3 48 (fun j => .int .i64 (F j))
  nd : ¬ Own p m db
  nw : w.heap.size ≤ db
theorem St.no {w wx wy : World} {p m db : Nat} {T : Nat} {L : List Nt} {F : Nat → Int} (h : St w wx p m db T L F) (hb : But No wx wy) : St w wy p m db T L F := ⟨h.hw.no hb, h.vs.but hb (fun f => f), h.nd, h.nw⟩
theorem St.cell {w wx : World} {p m db : Nat} {T : Nat} {L : List Nt} {F : Nat → Int} (h : St w wx p m db T L F) {k : Nat} (hk : k < 48) : wx.cell? ⟨db, k, none⟩ = some (.int .i64 (F k)) := h.vs.cell hk
theorem St.set {w wx : World} {p m db : Nat} {T : Nat} {L : List Nt} {F : Nat → Int} (h : St w wx p m db T L F) (k : Nat) (v : Int) : St w (wx.setCell ⟨db, k, none⟩ (.int .i64 v)) p m db T L (fun j => if j = k then v else F j) := by
  have hb : But (Just db) wx (wx.setCell ⟨db, k, none⟩ (.int .i64 v)) := (But.refl _ wx).setCell (p := ⟨db, k, none⟩) (just db) _
  refine ⟨⟨h.hw.bp.but hb (fun e => h.nd (.inl (show p = db from e).symm)) (fun e => h.nd (.inr (show m = db from e).symm)), h.hw.but.andThen hb (fun k e => .inr (by rw [show k = db from e]; exact h.nw)), h.hw.new⟩, ?_, h.nd, h.nw⟩
  have := h.vs.set (k := k) (.int .i64 v)
  refine this.congr (fun j _ => ?_)
  by_cases e : j = k <;> simp [e]
theorem St.congr {w wx : World} {p m db : Nat} {T : Nat} {L : List Nt} {F G : Nat → Int} (h : St w wx p m db T L F) (e : ∀ j, G j = F j) : St w wx p m db T L G :=
  ⟨h.hw, h.vs.congr (fun j _ => by rw [e]), h.nd, h.nw⟩
theorem St.turn {w wx wy : World} {p m db : Nat} {T T' : Nat} {L L' : List Nt} {F : Nat → Int} (h : St w wx p m db T L F) (b : BP wy p m 2 T' L') (hb : But (Own p m) wx wy) : St w wy p m db T' L' F :=
  ⟨⟨b, h.hw.but.andThen hb (fun k hk => .inr (h.hw.new k hk)), h.hw.new⟩, h.vs.but hb h.nd, h.nd, h.nw⟩
def Rel (w wx : World) (p m db : Nat) (q : Nat) (c : Nat) : Prop := ∃ T L F, St w wx p m db T L F ∧ FL F L ∧ Lo L q c ∧ T ≤ q
/-- .. while what was taken is struck out. -/
structure Zr (w wx : World) (p m db : Nat) (T : Nat) (L' : List Nt) (G : Nat → Int) (v : Value) (zs : List Int) : Prop where
  st : St w wx p m db T L' G
  o : Ov wx v zs
  ne : v.ownBlock ≠ some db
theorem Zr.set {w wx : World} {p m db : Nat} {T : Nat} {L : List Nt} {F : Nat → Int} {v : Value} {zs : List Int} (h : Zr w wx p m db T L F v zs) (k : Nat) (y : Int) {G : Nat → Int} (hG : ∀ j, G j = if j = k then y else F j) : Zr w (wx.setCell ⟨db, k, none⟩ (.int .i64 y)) p m db T L G v zs :=
  ⟨(h.st.set k y).congr hG, h.o.but ((But.refl (Just db) wx).setCell (p := ⟨db, k, none⟩) (just db) _) (fun q e e' => h.ne (by rw [e, show q = db from e'])), h.ne⟩
end Go.Proofs.Ytmfjlfemeihchaa
