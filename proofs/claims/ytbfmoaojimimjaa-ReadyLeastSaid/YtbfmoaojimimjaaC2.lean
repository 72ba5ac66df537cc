/- A queue in memory; New, First, All, Level. -/
import Derived.Test.YtbfmoaojimimjaaC1
import Derived.Test.YtbfmoaojimimjaaHeE
namespace Go.Proofs.Ytbfmoaojimimjaa
open Go.ChangeShapes Go.WideShapes Go.ChangeAt Go.RowKit
/-- The map of the base levels. -/
structure BaseIs (D : DataW Unit) (L : List E) : Prop where
  tidy : Maps.Tidy D
  sz : Maps.size D = L.length
  has : ∀ a, Maps.has D (hea.ky a) = hasT a L
  at_ : ∀ e ∈ L, ∀ z, D.atKey (hea.ky e.t) z = hea.vl e.own
/-- What lies at q: the policy, the heap at h, the map at m. -/
structure QX (w : World) (q h m : Nat) (Sh : Nat → Prop) (pol T : Int) (H : List hea.It) (D : DataW Unit) (L : List E) : Prop where
  blk : Blk w q #[.int .i64 pol, .pointer (some ⟨h, 0, none⟩), .map (some m)] 51
  hp : hea.HP w Sh h 24 T H
  pr : Pr H L
  om : hea.OM w m (Maps.size D) D
  base : BaseIs D L
  qm : q ≠ m
  qs : ¬ Sh q
  ms : ¬ Sh m
/-- A queue at q that holds L; its blocks are S; its heap has had n turns at most. -/
structure QP (w : World) (S : Nat → Prop) (q : Nat) (pol n : Int) (L : List E) : Prop where
  ex : ∃ h m Sh T H D, QX w q h m Sh pol T H D L ∧ T ≤ n ∧ ∀ k, S k ↔ k = q ∨ k = m ∨ Sh k
  ok : QOK L
theorem QX.but {w w' : World} {q h m : Nat} {Sh S' : Nat → Prop} {pol T : Int} {H : List hea.It} {D : DataW Unit} {L : List E} (x : QX w q h m Sh pol T H D L) (hb : But S' w w') (hs : ∀ k, k = q ∨ k = m ∨ Sh k → ¬ S' k) : QX w' q h m Sh pol T H D L :=
  ⟨x.blk.but hb (hs q (.inl rfl)), x.hp.but hb (fun k hk => hs k (.inr (.inr hk))), x.pr, x.om.but hb (hs m (.inr (.inl rfl))), x.base, x.qm, x.qs, x.ms⟩
theorem QX.no {w w' : World} {q h m : Nat} {Sh : Nat → Prop} {pol T : Int} {H : List hea.It} {D : DataW Unit} {L : List E} (x : QX w q h m Sh pol T H D L) (hb : But No w w') : QX w' q h m Sh pol T H D L := x.but hb (fun _ _ f => f)
theorem QX.order {w : World} {q h m : Nat} {Sh : Nat → Prop} {pol T : Int} {H : List hea.It} {D : DataW Unit} {L : List E} (x : QX w q h m Sh pol T H D L) : w.cell? ⟨q, 1, none⟩ = some (.pointer (some ⟨h, 0, none⟩)) := x.blk.cell (o := 1) rfl
theorem QX.bas {w : World} {q h m : Nat} {Sh : Nat → Prop} {pol T : Int} {H : List hea.It} {D : DataW Unit} {L : List E} (x : QX w q h m Sh pol T H D L) : w.cell? ⟨q, 2, none⟩ = some (.map (some m)) := x.blk.cell (o := 2) rfl
theorem QX.pol_ {w : World} {q h m : Nat} {Sh : Nat → Prop} {pol T : Int} {H : List hea.It} {D : DataW Unit} {L : List E} (x : QX w q h m Sh pol T H D L) : w.cell? ⟨q, 0, none⟩ = some (.int .i64 pol) := x.blk.cell (o := 0) rfl
theorem QP.but {w w' : World} {S S' : Nat → Prop} {q : Nat} {pol n : Int} {L : List E} (x : QP w S q pol n L) (hb : But S' w w') (hs : ∀ k, S k → ¬ S' k) : QP w' S q pol n L := by
  obtain ⟨h, m, Sh, T, H, D, hx, hT, hS⟩ := x.ex
  exact ⟨⟨h, m, Sh, T, H, D, hx.but hb (fun k hk => hs k ((hS k).2 hk)), hT, hS⟩, x.ok⟩
theorem QP.lt {w : World} {S : Nat → Prop} {q : Nat} {pol n : Int} {L : List E} (x : QP w S q pol n L) : ∀ k, S k → k < w.heap.size := by
  obtain ⟨h, m, Sh, T, H, D, hx, hT, hS⟩ := x.ex
  intro k hk
  rcases (hS k).1 hk with rfl | rfl | e
  · exact hx.blk.lt
  · exact World.ownsMap.lt hx.om
  · exact hx.hp.lt k e
theorem QP.more {w : World} {S : Nat → Prop} {q : Nat} {pol n n' : Int} {L : List E} (x : QP w S q pol n L) (h : n ≤ n') : QP w S q pol n' L := by
  obtain ⟨a, m, Sh, T, H, D, hx, hT, hS⟩ := x.ex
  exact ⟨⟨a, m, Sh, T, H, D, hx, by omega, hS⟩, x.ok⟩
/-- From one state of the queue to another one. -/
def QMv (w : World) (S : Nat → Prop) (q : Nat) (pol n : Int) (L : List E) (w' : World) : Prop :=
  ∃ S', QP w' S' q pol n L ∧ But S w w' ∧ ∀ k, S' k → S k ∨ w.heap.size ≤ k
theorem QP.stay {w w' : World} {S : Nat → Prop} {q : Nat} {pol n n' : Int} {L : List E} (x : QP w S q pol n L) (hb : But No w w') (h : n ≤ n') : QMv w S q pol n' L w' := ⟨S, (x.but hb (fun _ _ f => f)).more h, hb.no, fun _ h => .inl h⟩
/-- What New leaves. -/
def QNew (w : World) (pol : Int) (e : Ending) (w' : World) : Prop :=
  ∃ q S, e = .returned (.tuple #[.pointer (some ⟨q, 0, none⟩), .int .i64 0]) ∧ QP w' S q pol 0 [] ∧ But No w w' ∧ ∀ k, S k → w.heap.size ≤ k
theorem new_made {w w1 : World} {pol : Int} {h : Nat} {Sh : Nat → Prop} (hp : hea.HP w1 Sh h 24 0 []) (hb : But No w w1) (hs : ∀ k, Sh k → w.heap.size ≤ k) :
    QNew w pol (.returned (.tuple #[.pointer (some ⟨w1.heap.size + 1, 0, none⟩), .int .i64 0])) ((w1.alloc (.map #[] 0)).alloc (.cells #[.int .i64 pol, .pointer (some ⟨h, 0, none⟩), .map (some w1.heap.size)] 51)) := by
  have hm := World.ownsMap_made (H := Unit) w1 Try.prog 3 (plainElem Try.prog 3)
  have hbk := Blk.new (w1.alloc (.map #[] 0)) #[.int .i64 pol, .pointer (some ⟨h, 0, none⟩), .map (some w1.heap.size)] 51
  have hsz : (w1.alloc (.map #[] 0)).heap.size = w1.heap.size + 1 := by simp
  rw [hsz] at hbk
  have hB : But No w1 ((w1.alloc (.map #[] 0)).alloc (.cells #[.int .i64 pol, .pointer (some ⟨h, 0, none⟩), .map (some w1.heap.size)] 51)) := ((But.refl No w1).alloc _).alloc _
  have hlt := hp.lt
  have h1 := hb.size
  refine ⟨w1.heap.size + 1, fun k => k = w1.heap.size + 1 ∨ k = w1.heap.size ∨ Sh k, rfl, ⟨⟨h, w1.heap.size, Sh, 0, [], .map [], ⟨hbk, hp.but hB (fun _ _ f => f), rfl, hm.alloc _, ⟨Maps.tidy_empty, rfl, fun a => rfl, fun e he => absurd he (by simp)⟩, by omega, fun e => by have := hlt _ e; omega, fun e => by have := hlt _ e; omega⟩, Int.le_refl _, fun k => Iff.rfl⟩, QOK.nil⟩, hb.trans hB, ?_⟩
  rintro k (rfl | rfl | e)
  · omega
  · omega
  · exact hs k e
theorem new_any (pol : Int) (w : World) (h : pol = 1 ∨ pol = 2) :
    Calls Try.prog 8 #[.int .i64 pol] w (QNew w pol) := by
  have hmm := @run_makeMap Try.prog
  have HN : Hid (∀ W1 : World, But No w W1 → ∀ Sh h, hea.HP W1 Sh h 24 0 [] → (∀ k, Sh k → w.heap.size ≤ k) → QNew w pol (.returned (.tuple #[.pointer (some ⟨W1.heap.size + 1, 0, none⟩), .int .i64 0])) ((W1.alloc (.map #[] 0)).alloc (.cells #[.int .i64 pol, .pointer (some ⟨h, 0, none⟩), .map (some W1.heap.size)] 51))) := fun W1 hb Sh h hp hs => new_made hp hb hs
  have C := Lib.hid (fun W => hea.new_ok 24 W (by omega) (by omega))
  by_cases e1 : pol = 1
  · subst e1
    clear h
    go_enter Try.func8, Try.ntmps8
    go_wp2_with (go_at_call 26; ((with_reducible refine (C.out _).mono ?_); rintro e w1 ⟨rfl, hz⟩; have HZ := Lib.hid hz; clear hz))
    go_ret2
    obtain ⟨Sh, z1, z2, z3⟩ := HZ.out
    exact HN.out _ z2 Sh _ z1 z3
  · have e2 : pol = 2 := by omega
    subst e2
    clear h e1
    go_enter Try.func8, Try.ntmps8
    go_wp2_with (go_at_call 26; ((with_reducible refine (C.out _).mono ?_); rintro e w1 ⟨rfl, hz⟩; have HZ := Lib.hid hz; clear hz))
    go_ret2
    obtain ⟨Sh, z1, z2, z3⟩ := HZ.out
    exact HN.out _ z2 Sh _ z1 z3
theorem new_bad (pol : Int) (w : World) (h1 : pol ≠ 1) (h2 : pol ≠ 2) :
    Calls Try.prog 8 #[.int .i64 pol] w fun r w' => r = .returned (.tuple #[.pointer none, .int .i64 1]) ∧ w = w' := by
  have b1 : (pol != 1) = true := by simp [h1]
  have b2 : (pol != 2) = true := by simp [h2]
  clear h1 h2
  go_enter Try.func8, Try.ntmps8
  go_wp2
  go_ret2
  exact ⟨rfl, rfl⟩
theorem firE_cons (x : E) (L : List E) : firE (x :: L) = x.t := rfl
theorem first_any (q : Nat) (pol n : Int) (L : List E) (S : Nat → Prop) (w : World) (h : QP w S q pol n L) :
    Calls Try.prog 24 #[.pointer (some ⟨q, 0, none⟩)] w fun r w' => r = .returned (.int .i64 (firE L)) ∧ But No w w' := by
  obtain ⟨a, m, Sh, T, H, D, hx, hT, hS⟩ := h.ex
  have h1 := hx.order
  have C := Lib.hid (fun W (hb : But No w W) => hea.first_any a 24 T H Sh W (hx.no hb).hp)
  have HP := Lib.hid hx.pr
  clear h hx hT hS
  cases H with
  | nil =>
    have e : Hid (L = []) := by
      have := HP.out.len
      cases L with
      | nil => rfl
      | cons _ _ => simp at this
    have e2 : hea.fst3 [] = false := rfl
    go_enter Try.func24, Try.ntmps24
    go_wp2_with (go_at_call 40; ((with_reducible refine (C.out _ (But.refl _ _)).mono ?_); rintro e w1 ⟨rfl, hz⟩; have HZ := Lib.hid hz; clear hz))
    go_ret
    exact ⟨ret1 (by rw [e.out]; rfl), HZ.out⟩
  | cons x t =>
    have e2 : hea.fst3 (x :: t) = true := rfl
    have e : Hid (hea.fst1 (x :: t) = firE L) := by
      have := HP.out
      unfold Pr at this
      cases L with
      | nil => simp at this
      | cons y s => simp at this; exact this.1.1
    go_enter Try.func24, Try.ntmps24
    go_wp2_with (go_at_call 40; ((with_reducible refine (C.out _ (But.refl _ _)).mono ?_); rintro e w1 ⟨rfl, hz⟩; have HZ := Lib.hid hz; clear hz))
    go_ret
    exact ⟨ret1 e.out, HZ.out⟩
/-- What All gives: the tasks, in a block of its own. -/
def QAll (w : World) (L : List E) (e : Ending) (w' : World) : Prop :=
  ∃ b, e = .returned (.slice (some ⟨b, 0, none⟩) L.length L.length) ∧ Blk w' b ((L.map E.t).map (Value.int .i64)).toArray 3 ∧ But No w w' ∧ w.heap.size ≤ b
theorem all_any (q : Nat) (pol n : Int) (L : List E) (S : Nat → Prop) (w : World) (h : QP w S q pol n L) :
    Calls Try.prog 22 #[.pointer (some ⟨q, 0, none⟩)] w (QAll w L) := by
  obtain ⟨a, m, Sh, T, H, D, hx, hT, hS⟩ := h.ex
  have h1 := hx.order
  have C := Lib.hid (fun W (hb : But No w W) => hea.all_any a 24 T H Sh W (hx.no hb).hp)
  have HP := Lib.hid hx.pr
  clear h hx hT hS
  go_enter Try.func22, Try.ntmps22
  go_wp2_with (go_at_call 38; ((with_reducible refine (C.out _ (But.refl _ _)).mono ?_); rintro e w1 ⟨b, rfl, hz⟩; have HZ := Lib.hid hz; clear hz))
  go_ret
  obtain ⟨z1, z2, z3⟩ := HZ.out
  unfold hea.Ints at z1
  rw [HP.out.ids] at z1
  exact ⟨b, by rw [HP.out.len]; rfl, z1, z2, z3⟩
theorem keyV_lev {H : List hea.It} {L : List E} (hp : Pr H L) (hq : QOK L) (t : Int) : hea.hasI t H = hasT t L ∧ (hasT t L = true → hea.keyV H t / 64 = levV t L ∧ 0 ≤ hea.keyV H t ∧ hea.keyV H t < 1000000000000000000) := by
  have e1 : hea.hasI t H = hasT t L := by
    unfold hea.hasI hasT
    have a : H.any (fun y => y.id == t) = (H.map hea.It.id).any (fun y => y == t) := by rw [List.any_map]; rfl
    have b : L.any (fun y => y.t == t) = (L.map E.t).any (fun y => y == t) := by rw [List.any_map]; rfl
    rw [a, b, hp.ids]
  refine ⟨e1, fun hh => ?_⟩
  have hf : (H.find? (fun y => y.id == t)).map (fun x => (x.id, x.key)) = (L.find? (fun y => y.t == t)).map (fun e => (e.t, ke e)) := by
    have a : (H.find? (fun y => y.id == t)).map (fun x => (x.id, x.key)) = (H.map (fun x => (x.id, x.key))).find? (fun p => p.1 == t) := by rw [List.find?_map]; rfl
    have b : (L.find? (fun y => y.t == t)).map (fun e => (e.t, ke e)) = (L.map (fun e => (e.t, ke e))).find? (fun p => p.1 == t) := by rw [List.find?_map]; rfl
    rw [a, b, hp]
  obtain ⟨x, hx, rfl⟩ := hasT_true hh
  rw [levV_of hq.nd hx]
  have hfx : L.find? (fun y => y.t == x.t) = some x := by
    cases e : L.find? (fun y => y.t == x.t) with
    | none => rw [List.find?_eq_none] at e; exact absurd (by simp) (e x hx)
    | some y =>
      have h1 := List.find?_some e
      have h2 := List.mem_of_find?_eq_some e
      rw [uniqE hq.nd h2 hx (by simpa using h1)]
  rw [hfx] at hf
  have hk : hea.keyV H x.t = ke x := by
    unfold hea.keyV
    cases e : H.find? (fun y => y.id == x.t) with
    | none => rw [e] at hf; cases hf
    | some y => rw [e] at hf; simp at hf; exact hf.2
  have ox := hq.ok x hx
  rw [hk]
  unfold ke
  exact ⟨kf_lev ox.t0 ox.t1, kf_bd ox.l0 ox.l1 ox.t0 ox.t1⟩
theorem level_any (q : Nat) (pol n : Int) (L : List E) (S : Nat → Prop) (w : World) (t : Int) (ht : inR t) (h : QP w S q pol n L) :
    Calls Try.prog 19 #[.pointer (some ⟨q, 0, none⟩), .int .i64 t] w fun r w' => r = .returned (.tuple #[.int .i64 (levV t L), .bool (hasT t L)]) ∧ But No w w' := by
  obtain ⟨a, m, Sh, T, H, D, hx, hT, hS⟩ := h.ex
  have h1 := hx.order
  obtain ⟨e1, e2⟩ := keyV_lev hx.pr h.ok t
  have C := Lib.hid (fun W (hb : But No w W) => hea.key_any a 24 T H Sh W t ht (hx.no hb).hp)
  have E2 := Lib.hid e2
  rw [e1] at C
  clear h hx hT hS e1 e2
  cases hh : hasT t L with
  | false =>
    rw [hh] at C
    have HL : Hid (levV t L = 0) := levV_not (hasT_false hh)
    have HH := Lib.hid hh
    clear hh
    go_enter Try.func19, Try.ntmps19
    go_wp2_with (go_at_call 35; ((with_reducible refine (C.out _ (But.refl _ _)).mono ?_); rintro e w1 ⟨rfl, hz⟩; have HZ := Lib.hid hz; clear hz))
    go_ret2
    exact ⟨hea.ret2b HL.out.symm rfl, HZ.out⟩
  | true =>
    rw [hh] at C
    have HL := Lib.hid (E2.out hh)
    have HH := Lib.hid hh
    clear hh
    obtain ⟨k, hk⟩ : ∃ k, k = hea.keyV H t := ⟨_, rfl⟩
    rw [← hk] at C HL
    have CL := Lib.hid (fun W => levelOf_any k W HL.out.2.1 HL.out.2.2)
    clear hk
    go_enter Try.func19, Try.ntmps19
    go_wp2_with (first | (go_at_call 35; ((with_reducible refine (C.out _ (But.refl _ _)).mono ?_); rintro e w1 ⟨rfl, hz⟩; have HZ := Lib.hid hz; clear hz)) | (go_at_call 36; ((with_reducible refine (CL.out _).mono ?_); rintro e w2 ⟨rfl, rfl⟩)))
    go_ret2
    exact ⟨hea.ret2b HL.out.1 rfl, HZ.out⟩
end Go.Proofs.Ytbfmoaojimimjaa
