/- Add, Raise, Fall, Remove. -/
import Derived.Test.YtbfmoaojimimjaaC2
namespace Go.Proofs.Ytbfmoaojimimjaa
open Go.ChangeShapes Go.WideShapes Go.ChangeAt Go.RowKit
theorem hasI_T {H : List hea.It} {L : List E} (hp : Pr H L) (t : Int) : hea.hasI t H = hasT t L := by
  unfold hea.hasI hasT
  have a : H.any (fun y => y.id == t) = (H.map hea.It.id).any (fun y => y == t) := by rw [List.any_map]; rfl
  have b : L.any (fun y => y.t == t) = (L.map E.t).any (fun y => y == t) := by rw [List.any_map]; rfl
  rw [a, b, hp.ids]
theorem hasT_ins (e : E) (L : List E) (a : Int) : hasT a (insE e L) = (e.t == a || hasT a L) := by
  cases h : hasT a (insE e L) with
  | true =>
    obtain ⟨x, hx, rfl⟩ := hasT_true h
    rcases mem_insE.1 hx with rfl | hx
    · simp
    · rw [hasT_of hx rfl]; simp
  | false =>
    have := hasT_false h
    rw [hasT_not (fun y hy => this y (mem_insE.2 (.inr hy)))]
    have h1 := this e (mem_insE.2 (.inl rfl))
    simp [h1]
theorem hasT_del {L : List E} (h : QOK L) (t a : Int) : hasT a (delE t L) = (hasT a L && !(t == a)) := by
  cases hh : hasT a (delE t L) with
  | true =>
    obtain ⟨x, hx, rfl⟩ := hasT_true hh
    obtain ⟨h1, h2⟩ := (mem_delE h.nd x).1 hx
    rw [hasT_of h1 rfl]
    have : (t == x.t) = false := by simp; exact fun e => h2 e.symm
    rw [this]; rfl
  | false =>
    have := hasT_false hh
    by_cases e : t = a
    · subst e; simp
    · have : hasT a L = false := hasT_not (fun y hy e' => this y ((mem_delE h.nd y).2 ⟨hy, fun e2 => e (e2.symm.trans e')⟩) e')
      rw [this]; rfl
theorem length_delE {t : Int} {L : List E} (h : hasT t L = true) : (delE t L).length + 1 = L.length := by
  obtain ⟨l1, x, l2, hx, hL, hr, _⟩ := delE_split (hasT_true h)
  rw [hr, hL]; simp; omega
theorem BaseIs.ins {D : DataW Unit} {L : List E} (h : BaseIs D L) {e : E} (hn : ∀ y ∈ L, y.t ≠ e.t) : BaseIs (D.put (hea.ky e.t) (hea.vl e.own)) (insE e L) := by
  have hh : Maps.has D (hea.ky e.t) = false := by rw [h.has]; exact hasT_not hn
  refine ⟨h.tidy.put (hea.isKey _) _, ?_, fun a => ?_, fun x hx z => ?_⟩
  · rw [Maps.size_put h.tidy, hh, length_insE, h.sz]; rfl
  · rw [hasT_ins]
    by_cases ea : e.t = a
    · subst ea; rw [Maps.has_put_same h.tidy.isMap (hea.isKey _)]; simp
    · rw [Maps.has_put_other (hea.ky_ne (fun e' => ea e'.symm)), h.has]; simp [ea]
  · rcases mem_insE.1 hx with rfl | hx
    · exact Maps.atKey_put_same h.tidy.isMap (hea.isKey _) _ _
    · rw [Maps.atKey_put_other (hea.ky_ne (hn x hx))]; exact h.at_ x hx z
theorem BaseIs.set {D : DataW Unit} {L : List E} (h : BaseIs D L) (hq : QOK L) {e : E} (hh : hasT e.t L = true) (ho : e.own = ownV e.t L) : BaseIs D (insE e (delE e.t L)) := by
  refine ⟨h.tidy, ?_, fun a => ?_, fun x hx z => ?_⟩
  · rw [length_insE, length_delE hh, h.sz]
  · rw [h.has, hasT_ins, hasT_del hq]
    by_cases ea : e.t = a
    · subst ea; rw [hh]; simp
    · have e1 : (e.t == a) = false := by simp [ea]
      rw [e1]; simp
  · rcases mem_insE.1 hx with rfl | hx
    · obtain ⟨y, hy, he⟩ := hasT_true hh
      rw [ho, ← he, ownV_of hq.nd hy]
      exact h.at_ y hy z
    · exact h.at_ x ((mem_delE hq.nd x).1 hx).1 z
theorem BaseIs.del {D : DataW Unit} {L : List E} (h : BaseIs D L) (hq : QOK L) (t : Int) : BaseIs (D.del (hea.ky t)) (delE t L) := by
  refine ⟨h.tidy.del _, ?_, fun a => ?_, fun x hx z => ?_⟩
  · have := Maps.size_del (k := hea.ky t) h.tidy
    rw [h.has, h.sz] at this
    cases hh : hasT t L with
    | true => have k := length_delE hh; rw [hh, if_pos rfl] at this; omega
    | false => rw [hh, if_neg (by simp)] at this; rw [delE_not (hasT_false hh)]; omega
  · rw [hasT_del hq]
    by_cases ea : t = a
    · subst ea; rw [Maps.has_del_same]; simp
    · rw [Maps.has_del_other (hea.ky_ne (fun e' => ea e'.symm)), h.has]; simp [ea]
  · obtain ⟨h1, h2⟩ := (mem_delE hq.nd x).1 hx
    rw [Maps.atKey_del_other (hea.ky_ne h2)]; exact h.at_ x h1 z
/-- A step of the heap alone. -/
theorem QX.heap {w w' : World} {q h m : Nat} {Sh S : Nat → Prop} {pol T T' n : Int} {H H' : List hea.It} {D : DataW Unit} {L L' : List E} (x : QX w q h m Sh pol T H D L) (hS : ∀ k, S k ↔ k = q ∨ k = m ∨ Sh k)
    (hm : hea.Mv w Sh h 24 T' H' w') (hp : Pr H' L') (hb : BaseIs D L') (hq : QOK L') (hT : T' ≤ n) : QMv w S q pol n L' w' := by
  obtain ⟨S', k1, k2, k3⟩ := hm
  have lq := x.blk.lt
  have lm := World.ownsMap.lt x.om
  refine ⟨fun k => k = q ∨ k = m ∨ S' k, ⟨⟨h, m, S', T', H', D, ⟨x.blk.but k2 x.qs, k1, hp, x.om.but k2 x.ms, hb, x.qm, fun e => (k3 _ e).elim x.qs (by omega), fun e => (k3 _ e).elim x.ms (by omega)⟩, hT, fun k => Iff.rfl⟩, hq⟩, k2.mono (fun k _ hk => (hS k).2 (.inr (.inr hk))), ?_⟩
  rintro k (rfl | rfl | e)
  · exact .inl ((hS _).2 (.inl rfl))
  · exact .inl ((hS _).2 (.inr (.inl rfl)))
  · exact (k3 k e).imp (fun e => (hS _).2 (.inr (.inr e))) id
theorem ckeep {w w' w'' : World} {S : Nat → Prop} {h q : Nat} {R T : Int} {H : List hea.It} {v : Value} (hc : w.cell? ⟨q, 1, none⟩ = some v) (hb : But No w w') (hm : hea.Mv w' S h R T H w'') (hq : ¬ S q) (hl : q < w.heap.size) : w''.cell? ⟨q, 1, none⟩ = some v := by
  obtain ⟨S', k1, k2, k3⟩ := hm
  rw [k2.cell (by have := hb.size; omega) hq, hb.cell hl (fun f => f)]
  exact hc
theorem pushEq {H : List hea.It} {L : List E} (hp : Pr H L) (hq : QOK L) {t l : Int} (ht : taskB t = true) (hl : levB l = true) : hea.pushE 24 H t = addN L t l := by
  unfold hea.pushE addN
  rw [hasI_T hp, ht, hl]
  rw [taskB_iff] at ht
  have e0 : ¬ t < 0 := by omega
  rw [if_neg e0]
  have e1 : ¬ (true = false ∨ true = false) := by simp
  rw [if_neg e1]
  cases hh : hasT t L with
  | true => rfl
  | false =>
    have h1 := hq.ins (x := ⟨t, 0, none⟩) ⟨ht.1, ht.2, by simp, by simp [big], by simp [lv], by simp [lv, big]⟩ (hasT_false hh)
    have h2 := h1.len
    rw [length_insE] at h2
    have h3 := hp.len
    have e2 : ¬ (24 : Int) ≤ (H.length : Int) := by omega
    rw [if_neg e2]
theorem pushPr {H : List hea.It} {L : List E} (hp : Pr H L) (hq : QOK L) {t l T : Int} (ht : taskB t = true) (hl : levB l = true) : Pr (hea.pushL 24 T H t (kf l false t)) (addL L t l) := by
  unfold hea.pushL addL
  rw [pushEq hp hq ht hl]
  split
  · exact hp.ins rfl rfl
  · exact hp
end Go.Proofs.Ytbfmoaojimimjaa
