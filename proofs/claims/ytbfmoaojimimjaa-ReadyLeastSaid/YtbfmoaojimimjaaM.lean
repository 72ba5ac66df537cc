/- Tasks in the order of their effective levels: plain mathematics of layer 12. -/
import Derived.Test.YtbfmoaojimimjaaHeM
namespace Go.Proofs.Ytbfmoaojimimjaa
/-- A task that is there: its base level, its raised level. -/
structure E where
  t : Int
  own : Int
  up : Option Int
def lv (e : E) : Int := e.up.getD e.own
def big : Int := 9007199254740991
/-- The key of a level, raised or not, and a task. -/
def kf (l : Int) (r : Bool) (t : Int) : Int := l * 64 + (if r then 0 else 32) + t
def ke (e : E) : Int := kf (lv e) e.up.isSome e.t
def taskB (t : Int) : Bool := decide (0 ≤ t) && decide (t < 24)
def levB (l : Int) : Bool := decide (0 ≤ l) && decide (l ≤ big)
structure EOK (e : E) : Prop where
  t0 : 0 ≤ e.t
  t1 : e.t < 24
  o0 : 0 ≤ e.own
  o1 : e.own ≤ big
  l0 : 0 ≤ lv e
  l1 : lv e ≤ big
structure QOK (L : List E) : Prop where
  ok : ∀ e ∈ L, EOK e
  srt : L.Pairwise (fun a b => ke a < ke b)
  nd : L.Pairwise (fun a b => a.t ≠ b.t)
theorem QOK.nil : QOK [] := ⟨fun _ h => (List.not_mem_nil h).elim, List.Pairwise.nil, List.Pairwise.nil⟩
theorem ke_ne {a b : E} (ha : EOK a) (hb : EOK b) (h : a.t ≠ b.t) : ke a ≠ ke b := by
  have := ha.t0; have := ha.t1; have := hb.t0; have := hb.t1
  unfold ke kf
  cases a.up.isSome <;> cases b.up.isSome <;> simp <;> omega
/-- Who comes first. -/
theorem ke_lt {a b : E} (ha : EOK a) (hb : EOK b) : ke a < ke b ↔ lv a < lv b ∨ (lv a = lv b ∧ ((a.up.isSome = true ∧ b.up.isSome = false) ∨ (a.up.isSome = b.up.isSome ∧ a.t < b.t))) := by
  have := ha.t0; have := ha.t1; have := hb.t0; have := hb.t1
  unfold ke kf
  cases a.up.isSome <;> cases b.up.isSome <;> simp <;> omega
theorem uniqE {L : List E} (h : L.Pairwise (fun a b => a.t ≠ b.t)) : ∀ {x y : E}, x ∈ L → y ∈ L → x.t = y.t → x = y := by
  induction h with
  | nil => intro x y hx; cases hx
  | cons ha _ ih =>
    intro x y hx hy e
    rcases List.mem_cons.1 hx with rfl | hx'
    · rcases List.mem_cons.1 hy with rfl | hy'
      · rfl
      · exact absurd e (ha _ hy')
    · rcases List.mem_cons.1 hy with rfl | hy'
      · exact absurd e.symm (ha _ hx')
      · exact ih hx' hy' e
def hasT (t : Int) (L : List E) : Bool := L.any (fun y => y.t == t)
theorem hasT_true {a : Int} {L : List E} (h : hasT a L = true) : ∃ x ∈ L, x.t = a := by
  obtain ⟨x, hx, he⟩ := List.any_eq_true.1 h
  exact ⟨x, hx, by simpa using he⟩
theorem hasT_false {a : Int} {L : List E} (h : hasT a L = false) : ∀ y ∈ L, y.t ≠ a := by
  intro y hy e
  have : hasT a L = true := List.any_eq_true.2 ⟨y, hy, by simpa using e⟩
  rw [h] at this; cases this
theorem hasT_of {a : Int} {L : List E} {x : E} (hx : x ∈ L) (e : x.t = a) : hasT a L = true := List.any_eq_true.2 ⟨x, hx, by simpa using e⟩
theorem hasT_not {a : Int} {L : List E} (h : ∀ y ∈ L, y.t ≠ a) : hasT a L = false := by
  cases e : hasT a L with
  | false => rfl
  | true => obtain ⟨x, hx, he⟩ := hasT_true e; exact absurd he (h x hx)
/-- Put in at its place. -/
def insE (e : E) (L : List E) : List E := L.takeWhile (fun y => decide (ke y ≤ ke e)) ++ e :: L.dropWhile (fun y => decide (ke y ≤ ke e))
def delE (t : Int) (L : List E) : List E := L.eraseP (fun y => y.t == t)
theorem mem_insE {x y : E} {L : List E} : y ∈ insE x L ↔ y = x ∨ y ∈ L := by
  unfold insE
  rw [List.mem_append, List.mem_cons]
  have : y ∈ L ↔ y ∈ L.takeWhile (fun y => decide (ke y ≤ ke x)) ∨ y ∈ L.dropWhile (fun y => decide (ke y ≤ ke x)) := by
    rw [← List.mem_append, List.takeWhile_append_dropWhile]
  rw [this]
  constructor
  · rintro (h | h | h)
    · exact .inr (.inl h)
    · exact .inl h
    · exact .inr (.inr h)
  · rintro (h | h | h)
    · exact .inr (.inl h)
    · exact .inl h
    · exact .inr (.inr h)
theorem length_insE (x : E) (L : List E) : (insE x L).length = L.length + 1 := by
  unfold insE
  have : L.length = (L.takeWhile (fun y => decide (ke y ≤ ke x)) ++ L.dropWhile (fun y => decide (ke y ≤ ke x))).length := by rw [List.takeWhile_append_dropWhile]
  rw [List.length_append] at this
  rw [List.length_append, List.length_cons]; omega
theorem dropE {x : E} : ∀ {L : List E}, L.Pairwise (fun a b => ke a < ke b) → ∀ y ∈ L.dropWhile (fun y => decide (ke y ≤ ke x)), ke x < ke y
  | [], _, y, h => by cases h
  | a :: L, hs, y, h => by
    rw [List.pairwise_cons] at hs
    rw [List.dropWhile_cons] at h
    split at h
    · exact dropE hs.2 y h
    · rename_i hn
      have hn' : ke x < ke a := by simpa using hn
      rcases List.mem_cons.1 h with rfl | h'
      · exact hn'
      · have := hs.1 y h'; omega
theorem QOK.ins {x : E} {L : List E} (h : QOK L) (hx : EOK x) (hn : ∀ y ∈ L, y.t ≠ x.t) : QOK (insE x L) := by
  refine ⟨fun e he => (mem_insE.1 he).elim (fun e' => e' ▸ hx) (h.ok e), ?_, ?_⟩
  · obtain ⟨h1, h2, h3⟩ := hea.pw_split (fun y => decide (ke y ≤ ke x)) h.srt
    unfold insE
    rw [List.pairwise_append, List.pairwise_cons]
    have ha : ∀ y ∈ L.takeWhile (fun y => decide (ke y ≤ ke x)), ke y < ke x := fun y hy => by
      have k1 := hea.mem_takeWhile hy
      have k2 := (List.takeWhile_sublist _).subset hy
      have := ke_ne (h.ok y k2) hx (hn y k2)
      simp at k1; omega
    refine ⟨h1, ⟨fun y hy => dropE h.srt y hy, h2⟩, fun a hA b hB => ?_⟩
    rcases List.mem_cons.1 hB with rfl | hB
    · exact ha a hA
    · exact h3 a hA b hB
  · obtain ⟨h1, h2, h3⟩ := hea.pw_split (fun y => decide (ke y ≤ ke x)) h.nd
    unfold insE
    rw [List.pairwise_append, List.pairwise_cons]
    refine ⟨h1, ⟨fun y hy => (hn y ((List.dropWhile_sublist _).subset hy)).symm, h2⟩, fun a hA b hB => ?_⟩
    rcases List.mem_cons.1 hB with rfl | hB
    · exact hn a ((List.takeWhile_sublist _).subset hA)
    · exact h3 a hA b hB
theorem delE_split {t : Int} {L : List E} (h : ∃ x ∈ L, x.t = t) : ∃ l1 x l2, x.t = t ∧ L = l1 ++ x :: l2 ∧ delE t L = l1 ++ l2 ∧ ∀ y ∈ l1, y.t ≠ t := by
  obtain ⟨x, hx, he⟩ := h
  obtain ⟨a, l1, l2, h1, h2, h3, h4⟩ := List.exists_of_eraseP (p := fun y : E => y.t == t) hx (by simpa using he)
  exact ⟨l1, a, l2, by simpa using h2, h3, h4, fun y hy => by have := h1 y hy; simpa using this⟩
theorem delE_not {t : Int} {L : List E} (h : ∀ y ∈ L, y.t ≠ t) : delE t L = L := List.eraseP_of_forall_not (fun y hy => by simpa using h y hy)
theorem QOK.del {L : List E} (h : QOK L) (t : Int) : QOK (delE t L) :=
  ⟨fun e he => h.ok e (List.eraseP_sublist.subset he), h.srt.sublist List.eraseP_sublist, h.nd.sublist List.eraseP_sublist⟩
theorem mem_delE {t : Int} {L : List E} (hn : L.Pairwise (fun a b => a.t ≠ b.t)) (y : E) : y ∈ delE t L ↔ y ∈ L ∧ y.t ≠ t := by
  by_cases h : ∃ x ∈ L, x.t = t
  · obtain ⟨l1, x, l2, hx, hL, hr, h1⟩ := delE_split h
    rw [hr]
    rw [hL] at hn ⊢
    rw [List.pairwise_append, List.pairwise_cons] at hn
    simp only [List.mem_append, List.mem_cons]
    constructor
    · rintro (hy | hy)
      · exact ⟨.inl hy, h1 y hy⟩
      · exact ⟨.inr (.inr hy), by rw [← hx]; exact (hn.2.1.1 y hy).symm⟩
    · rintro ⟨hy | rfl | hy, hne⟩
      · exact .inl hy
      · exact absurd hx hne
      · exact .inr hy
  · have h' : ∀ y ∈ L, y.t ≠ t := fun y hy e => h ⟨y, hy, e⟩
    rw [delE_not h']
    exact ⟨fun hy => ⟨hy, h' y hy⟩, fun hy => hy.1⟩
theorem delE_no {L : List E} (h : QOK L) (t : Int) : ∀ y ∈ delE t L, y.t ≠ t := fun y hy => ((mem_delE h.nd y).1 hy).2
/-- Two lists in their order with the same members are one. -/
theorem extE : ∀ {A B : List E}, A.Pairwise (fun a b => ke a < ke b) → B.Pairwise (fun a b => ke a < ke b) → (∀ x, x ∈ A ↔ x ∈ B) → A = B
  | [], [], _, _, _ => rfl
  | [], b :: B, _, _, h => absurd ((h b).2 List.mem_cons_self) (by simp)
  | a :: A, [], _, _, h => absurd ((h a).1 List.mem_cons_self) (by simp)
  | a :: A, b :: B, ha, hb, h => by
    rw [List.pairwise_cons] at ha hb
    have e : a = b := by
      rcases List.mem_cons.1 ((h a).1 List.mem_cons_self) with e | e
      · exact e
      · rcases List.mem_cons.1 ((h b).2 List.mem_cons_self) with e' | e'
        · exact e'.symm
        · have := ha.1 b e'; have := hb.1 a e; omega
    subst e
    rw [extE ha.2 hb.2 fun x => ?_]
    constructor
    · intro hx
      rcases List.mem_cons.1 ((h x).1 (List.mem_cons_of_mem _ hx)) with rfl | e
      · have := ha.1 x hx; omega
      · exact e
    · intro hx
      rcases List.mem_cons.1 ((h x).2 (List.mem_cons_of_mem _ hx)) with rfl | e
      · have := hb.1 x hx; omega
      · exact e
/-- The level that counts, 0 if the task is not there. -/
def levV (t : Int) (L : List E) : Int := match L.find? (fun y => y.t == t) with | some x => lv x | none => 0
theorem levV_of {L : List E} (hn : L.Pairwise (fun a b => a.t ≠ b.t)) {x : E} (hx : x ∈ L) : levV x.t L = lv x := by
  unfold levV
  cases e : L.find? (fun y => y.t == x.t) with
  | none => rw [List.find?_eq_none] at e; exact absurd (by simp) (e x hx)
  | some y =>
    have h1 := List.find?_some e
    have h2 := List.mem_of_find?_eq_some e
    have : y = x := uniqE hn h2 hx (by simpa using h1)
    rw [this]
theorem levV_not {a : Int} {L : List E} (h : ∀ y ∈ L, y.t ≠ a) : levV a L = 0 := by
  unfold levV
  rw [List.find?_eq_none.2 (fun y hy => by simpa using h y hy)]
def ownV (t : Int) (L : List E) : Int := match L.find? (fun y => y.t == t) with | some x => x.own | none => 0
theorem ownV_of {L : List E} (hn : L.Pairwise (fun a b => a.t ≠ b.t)) {x : E} (hx : x ∈ L) : ownV x.t L = x.own := by
  unfold ownV
  cases e : L.find? (fun y => y.t == x.t) with
  | none => rw [List.find?_eq_none] at e; exact absurd (by simp) (e x hx)
  | some y =>
    have h1 := List.find?_some e
    have h2 := List.mem_of_find?_eq_some e
    have : y = x := uniqE hn h2 hx (by simpa using h1)
    rw [this]
def firE (L : List E) : Int := match L with | [] => -1 | x :: _ => x.t
/-- What the calls say, and what they leave. -/
def addN (L : List E) (t l : Int) : Int := if taskB t = false ∨ levB l = false then 1 else if hasT t L = true then 4 else 0
def addL (L : List E) (t l : Int) : List E := if addN L t l = 0 then insE ⟨t, l, none⟩ L else L
def raiN (pol : Int) (L : List E) (t l : Int) : Int := if taskB t = false ∨ levB l = false ∨ pol = 2 then 1 else if hasT t L = true then 0 else 5
def raiL (pol : Int) (L : List E) (t l : Int) : List E := if raiN pol L t l = 0 then insE ⟨t, ownV t L, some l⟩ (delE t L) else L
def falN (L : List E) (t : Int) : Int := if hasT t L = true then 0 else 5
def falL (L : List E) (t : Int) : List E := if hasT t L = true then insE ⟨t, ownV t L, none⟩ (delE t L) else L
theorem taskB_iff {t : Int} : taskB t = true ↔ 0 ≤ t ∧ t < 24 := by unfold taskB; simp
theorem levB_iff {t : Int} : levB t = true ↔ 0 ≤ t ∧ t ≤ big := by unfold levB; simp
theorem QOK.add {L : List E} (h : QOK L) (t l : Int) : QOK (addL L t l) := by
  unfold addL
  split
  · rename_i e
    unfold addN at e
    split at e
    · cases e
    · rename_i hb
      split at e
      · cases e
      · rename_i hh
        have h1 : taskB t = true := by cases hx : taskB t <;> simp_all
        have h2 : levB l = true := by cases hx : levB l <;> simp_all
        rw [taskB_iff] at h1; rw [levB_iff] at h2
        exact h.ins ⟨h1.1, h1.2, h2.1, h2.2, h2.1, h2.2⟩ (hasT_false (by simpa using hh))
  · exact h
theorem ownV_rng {L : List E} (h : QOK L) {t : Int} (hh : hasT t L = true) : 0 ≤ ownV t L ∧ ownV t L ≤ big ∧ 0 ≤ t ∧ t < 24 := by
  obtain ⟨x, hx, rfl⟩ := hasT_true hh
  rw [ownV_of h.nd hx]
  have := h.ok x hx
  exact ⟨this.o0, this.o1, this.t0, this.t1⟩
theorem QOK.rai {L : List E} (h : QOK L) (pol t l : Int) : QOK (raiL pol L t l) := by
  unfold raiL
  split
  · rename_i e
    unfold raiN at e
    split at e
    · cases e
    · rename_i hb
      split at e
      · rename_i hh
        have h1 : taskB t = true := by cases hx : taskB t <;> simp_all
        have h2 : levB l = true := by cases hx : levB l <;> simp_all
        rw [taskB_iff] at h1; rw [levB_iff] at h2
        obtain ⟨a, b, _, _⟩ := ownV_rng h hh
        exact (h.del t).ins ⟨h1.1, h1.2, a, b, h2.1, h2.2⟩ (delE_no h t)
      · cases e
  · exact h
theorem QOK.fal {L : List E} (h : QOK L) (t : Int) : QOK (falL L t) := by
  unfold falL
  split
  · rename_i hh
    obtain ⟨a, b, c, d⟩ := ownV_rng h hh
    exact (h.del t).ins ⟨c, d, a, b, a, b⟩ (delE_no h t)
  · exact h
theorem QOK.len {L : List E} (h : QOK L) : L.length ≤ 24 := by
  have hn : (L.map (fun e => e.t.toNat)).Nodup := by
    rw [List.nodup_iff_pairwise_ne, List.pairwise_map]
    refine h.nd.imp_of_mem fun {a b} ha hb hne e => hne ?_
    have := (h.ok a ha).t0; have := (h.ok b hb).t0; omega
  have hs : (L.map (fun e => e.t.toNat)) ⊆ List.range 24 := by
    intro k hk
    obtain ⟨e, he, rfl⟩ := List.mem_map.1 hk
    have k := h.ok e he; have := k.t0; have := k.t1
    rw [List.mem_range]; omega
  have := List.Nodup.length_le_of_subset hn hs
  simpa using this
/-- The heap's items tell the same tasks and keys. -/
def Pr (H : List hea.It) (L : List E) : Prop := H.map (fun x => (x.id, x.key)) = L.map (fun e => (e.t, ke e))
theorem Pr.ids {H : List hea.It} {L : List E} (h : Pr H L) : H.map hea.It.id = L.map E.t := by
  have := congrArg (List.map Prod.fst) h
  simpa [List.map_map, Function.comp_def] using this
theorem Pr.len {H : List hea.It} {L : List E} (h : Pr H L) : H.length = L.length := by
  have := congrArg List.length h
  simpa using this
theorem Pr.ins {H : List hea.It} {L : List E} (h : Pr H L) {x : hea.It} {e : E} (h1 : x.id = e.t) (h2 : x.key = ke e) : Pr (hea.ins x H) (insE e L) := by
  unfold Pr hea.ins insE at *
  have a1 : (H.takeWhile (fun y => decide (y.key ≤ x.key))).map (fun x => (x.id, x.key)) = ((H.map (fun x => (x.id, x.key))).takeWhile (fun p => decide (p.2 ≤ x.key))) := by rw [List.takeWhile_map]; rfl
  have a2 : (L.takeWhile (fun y => decide (ke y ≤ ke e))).map (fun e => (e.t, ke e)) = ((L.map (fun e => (e.t, ke e))).takeWhile (fun p => decide (p.2 ≤ ke e))) := by rw [List.takeWhile_map]; rfl
  have b1 : (H.dropWhile (fun y => decide (y.key ≤ x.key))).map (fun x => (x.id, x.key)) = ((H.map (fun x => (x.id, x.key))).dropWhile (fun p => decide (p.2 ≤ x.key))) := by rw [List.dropWhile_map]; rfl
  have b2 : (L.dropWhile (fun y => decide (ke y ≤ ke e))).map (fun e => (e.t, ke e)) = ((L.map (fun e => (e.t, ke e))).dropWhile (fun p => decide (p.2 ≤ ke e))) := by rw [List.dropWhile_map]; rfl
  rw [List.map_append, List.map_append, List.map_cons, List.map_cons, a1, a2, b1, b2, h, h1, h2]
theorem Pr.del {H : List hea.It} {L : List E} (h : Pr H L) (t : Int) : Pr (hea.rmv t H) (delE t L) := by
  unfold Pr hea.rmv delE at *
  have a1 : (H.eraseP (fun y => y.id == t)).map (fun x => (x.id, x.key)) = (H.map (fun x => (x.id, x.key))).eraseP (fun p => p.1 == t) := by rw [List.eraseP_map]; rfl
  have a2 : (L.eraseP (fun y => y.t == t)).map (fun e => (e.t, ke e)) = (L.map (fun e => (e.t, ke e))).eraseP (fun p => p.1 == t) := by rw [List.eraseP_map]; rfl
  rw [a1, a2, h]
end Go.Proofs.Ytbfmoaojimimjaa
