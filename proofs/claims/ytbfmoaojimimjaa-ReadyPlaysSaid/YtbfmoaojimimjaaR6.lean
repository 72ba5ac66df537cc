/- The document's queue beside the program's. -/
import Derived.Test.YtbfmoaojimimjaaR5
namespace Go.Proofs.Ytbfmoaojimimjaa
open Go.ChangeShapes Go.WideShapes Go.ChangeAt Go.RowKit Go.Deep
section
variable (x : Nat) (pol : Int) (K : List One) (L : List E) (S : Nat → Prop) (w : World) (t l : Int)
theorem bools {a b : Bool} (h : ¬ (a = false ∨ b = false)) : (a && b) = true := by cases a <;> cases b <;> simp_all
theorem bools2 {a b : Bool} (h : a = false ∨ b = false) : (a && b) = false := by cases a <;> cases b <;> simp_all
theorem radd_any (h : RF w S x pol K) (hr : Rel K L) (hq : QOK L) :
    Calls Try.prog 12 #[.pointer (some ⟨x, 0, none⟩), .int .i64 t, .int .i64 l] w fun r w' => r = .returned (.int .i64 (addN L t l)) ∧ ∃ K', Rm w S x pol K' w' ∧ Rel K' (addL L t l) := by
  by_cases hb : taskB t = false ∨ levB l = false
  · have e : addN L t l = 1 := by unfold addN; rw [if_pos hb]
    have e2 : addL L t l = L := by unfold addL; rw [e, if_neg (by decide)]
    rw [e, e2]
    exact (radd_err x t l w (bools2 hb)).mono fun _ _ ⟨h1, h2⟩ => ⟨h1, K, h2 ▸ h.stay (But.refl No w), hr⟩
  · have hm := bools hb
    cases hh : hasR t K with
    | true =>
      obtain ⟨l1, o, l2, rfl, rfl, h3⟩ := first_split hh
      have e : addN L o.t l = 4 := by unfold addN; rw [if_neg hb, ← hr.has, hh]; rfl
      have e2 : addL L o.t l = L := by unfold addL; rw [e, if_neg (by decide)]
      rw [e, e2]
      exact (radd_has x pol l1 l2 o S w l h h3 hm).mono fun _ _ ⟨h1, h2⟩ => ⟨h1, _, h2 ▸ h.stay (But.refl No w), hr⟩
    | false =>
      have e : addN L t l = 0 := by unfold addN; rw [if_neg hb, ← hr.has, hh]; rfl
      have e2 : addL L t l = insE ⟨t, l, none⟩ L := by unfold addL; rw [if_pos e]
      have hr2 : Rel (K ++ [⟨t, l, 0, false⟩]) (addL L t l) := by
        rw [e2]
        exact hr.add (o := ⟨t, l, 0, false⟩) hh
      have hl := hr2.len (hq.add t l)
      rw [e]
      exact (radd_ok x pol K S w t l h hh hm (by simp at hl; omega)).mono fun _ _ ⟨h1, h2⟩ => ⟨h1, _, h2, hr2⟩
theorem rraise_any (h : RF w S x pol K) (hr : Rel K L) (hq : QOK L) :
    Calls Try.prog 14 #[.pointer (some ⟨x, 0, none⟩), .int .i64 t, .int .i64 l] w fun r w' => r = .returned (.int .i64 (raiN pol L t l)) ∧ ∃ K', Rm w S x pol K' w' ∧ Rel K' (raiL pol L t l) := by
  by_cases hb : taskB t = false ∨ levB l = false ∨ pol = 2
  · have e : raiN pol L t l = 1 := by unfold raiN; rw [if_pos hb]
    have e2 : raiL pol L t l = L := by unfold raiL; rw [e, if_neg (by decide)]
    rw [e, e2]
    refine (rraise_err x pol K S w t l h ?_).mono fun _ _ ⟨h1, h2⟩ => ⟨h1, K, h2 ▸ h.stay (But.refl No w), hr⟩
    rcases hb with g | g | g
    · exact .inl (bools2 (.inl g))
    · exact .inl (bools2 (.inr g))
    · exact .inr g
  · have hm : (taskB t && levB l) = true := bools (fun g => hb (g.elim .inl (fun g => .inr (.inl g))))
    have hp : pol ≠ 2 := fun g => hb (.inr (.inr g))
    cases hh : hasR t K with
    | false =>
      have e : raiN pol L t l = 5 := by unfold raiN; rw [if_neg hb, ← hr.has, hh]; rfl
      have e2 : raiL pol L t l = L := by unfold raiL; rw [e, if_neg (by decide)]
      rw [e, e2]
      exact (rraise_out x pol K S w t l h hm hp hh).mono fun _ _ ⟨h1, h2⟩ => ⟨h1, _, h2 ▸ h.stay (But.refl No w), hr⟩
    | true =>
      obtain ⟨l1, o, l2, rfl, rfl, h3⟩ := first_split hh
      have e : raiN pol L o.t l = 0 := by unfold raiN; rw [if_neg hb, ← hr.has, hh]; rfl
      have e2 : raiL pol L o.t l = insE ⟨o.t, o.own, some l⟩ (delE o.t L) := by unfold raiL; rw [if_pos e, (hr.own hq).1]
      rw [e, e2]
      exact (rraise_in x pol l1 l2 o S w l h h3 hm hp).mono fun _ _ ⟨h1, h2⟩ => ⟨h1, _, h2, hr.set (y := { o with up := l, r := true }) hq rfl⟩
theorem rfall_any (h : RF w S x pol K) (hr : Rel K L) (hq : QOK L) :
    Calls Try.prog 16 #[.pointer (some ⟨x, 0, none⟩), .int .i64 t] w fun r w' => r = .returned (.int .i64 (falN L t)) ∧ ∃ K', Rm w S x pol K' w' ∧ Rel K' (falL L t) := by
  cases hh : hasR t K with
  | false =>
    have e : falN L t = 5 := by unfold falN; rw [← hr.has, hh]; rfl
    have e2 : falL L t = L := by unfold falL; rw [← hr.has, hh]; rfl
    rw [e, e2]
    exact (rfall_out x pol K S w t h hh).mono fun _ _ ⟨h1, h2⟩ => ⟨h1, _, h2 ▸ h.stay (But.refl No w), hr⟩
  | true =>
    obtain ⟨l1, o, l2, rfl, rfl, h3⟩ := first_split hh
    have e : falN L o.t = 0 := by unfold falN; rw [← hr.has, hh]; rfl
    have e2 : falL L o.t = insE ⟨o.t, o.own, none⟩ (delE o.t L) := by unfold falL; rw [← hr.has, hh, (hr.own hq).1]; rfl
    rw [e, e2]
    exact (rfall_in x pol l1 l2 o S w h h3).mono fun _ _ ⟨h1, h2⟩ => ⟨h1, _, h2, hr.set (y := { o with r := false }) hq rfl⟩
theorem rrem_any (h : RF w S x pol K) (hr : Rel K L) (hq : QOK L) :
    Calls Try.prog 18 #[.pointer (some ⟨x, 0, none⟩), .int .i64 t] w fun r w' => r = .returned (.int .i64 (falN L t)) ∧ ∃ K', Rm w S x pol K' w' ∧ Rel K' (delE t L) := by
  cases hh : hasR t K with
  | false =>
    have e : falN L t = 5 := by unfold falN; rw [← hr.has, hh]; rfl
    have e2 : delE t L = L := delE_not (hasT_false (by rw [← hr.has]; exact hh))
    rw [e, e2]
    exact (rrem_out x pol K S w t h hh).mono fun _ _ ⟨h1, h2⟩ => ⟨h1, _, h2 ▸ h.stay (But.refl No w), hr⟩
  | true =>
    obtain ⟨l1, o, l2, rfl, rfl, h3⟩ := first_split hh
    have e : falN L o.t = 0 := by unfold falN; rw [← hr.has, hh]; rfl
    rw [e]
    exact (rrem_in x pol l1 l2 o S w h h3).mono fun _ _ ⟨h1, h2⟩ => ⟨h1, _, h2, hr.del hq⟩
theorem rlevel_any (h : RF w S x pol K) (hr : Rel K L) (hq : QOK L) :
    Calls Try.prog 20 #[.pointer (some ⟨x, 0, none⟩), .int .i64 t] w fun r w' => r = .returned (.tuple #[.int .i64 (levV t L), .bool (hasT t L)]) ∧ But No w w' := by
  cases hh : hasR t K with
  | false =>
    have e : hasT t L = false := by rw [← hr.has]; exact hh
    rw [e, levV_not (hasT_false e)]
    exact rlevel_out x pol K S w t h hh
  | true =>
    obtain ⟨l1, o, l2, rfl, rfl, h3⟩ := first_split hh
    obtain ⟨_, k1, k2⟩ := hr.own hq
    rw [k1, k2]
    exact rlevel_in x pol l1 l2 o S w h h3
end
/-- Both queues, and a block beside them. -/
structure Pb (w0 w : World) (q x : Nat) (pol n : Int) (L : List E) (K : List One) (bx : Nat) (cur : Array Value) : Prop where
  ex : ∃ S S2 : Nat → Prop, QP w S q pol n L ∧ RF w S2 x pol K ∧ (∀ k, S k → ¬ S2 k) ∧ (∀ k, S k → w0.heap.size ≤ k) ∧ (∀ k, S2 k → w0.heap.size ≤ k) ∧ ¬ S bx ∧ ¬ S2 bx
  blk : Blk w bx cur 31
  but : But No w0 w
section
variable {w0 w w' : World} {q x bx : Nat} {pol n : Int} {L : List E} {K : List One} {cur : Array Value}
theorem Pb.no (h : Pb w0 w q x pol n L K bx cur) (hb : But No w w') : Pb w0 w' q x pol n L K bx cur := by
  obtain ⟨S, S2, h1, h2, h3⟩ := h.ex
  exact ⟨⟨S, S2, h1.but hb (fun _ _ f => f), h2.but hb (fun _ _ f => f), h3⟩, h.blk.but hb (fun f => f), h.but.trans hb⟩
theorem Pb.ok (h : Pb w0 w q x pol n L K bx cur) : QOK L := by obtain ⟨S, S2, h1, _⟩ := h.ex; exact h1.ok
theorem Pb.qq (h : Pb w0 w q x pol n L K bx cur) : ∃ S, QP w S q pol n L ∧ ∀ w' n' L', QMv w S q pol n' L' w' → Pb w0 w' q x pol n' L' K bx cur := by
  obtain ⟨S, S2, h1, h2, h3, h4, h5, h6, h7⟩ := h.ex
  refine ⟨S, h1, fun w' n' L' hm => ?_⟩
  obtain ⟨S', k1, k2, k3⟩ := hm
  have l2 := h2.lt
  have lb := h.blk.lt
  have := h.but.size
  refine ⟨⟨S', S2, k1, h2.but k2 (fun k hk e => h3 k e hk), fun k hk e => ?_, fun k hk => ?_, h5, fun e => ?_, h7⟩, h.blk.but k2 h6, h.but.andThen k2 (fun k hk => .inr (h4 k hk))⟩
  · rcases k3 k hk with g | g
    · exact h3 k g e
    · have := l2 k e; omega
  · rcases k3 k hk with g | g
    · exact h4 k g
    · omega
  · rcases k3 bx e with g | g
    · exact h6 g
    · omega
theorem Pb.rr (h : Pb w0 w q x pol n L K bx cur) : ∃ S2, RF w S2 x pol K ∧ ∀ w' K', Rm w S2 x pol K' w' → Pb w0 w' q x pol n L K' bx cur := by
  obtain ⟨S, S2, h1, h2, h3, h4, h5, h6, h7⟩ := h.ex
  refine ⟨S2, h2, fun w' K' hm => ?_⟩
  obtain ⟨S', k1, k2, k3⟩ := hm
  have l1 := h1.lt
  have lb := h.blk.lt
  have := h.but.size
  refine ⟨⟨S, S', h1.but k2 (fun k hk e => h3 k hk e), k1, fun k hk e => ?_, h4, fun k hk => ?_, h6, fun e => ?_⟩, h.blk.but k2 h7, h.but.andThen k2 (fun k hk => .inr (h5 k hk))⟩
  · rcases k3 k e with g | g
    · exact h3 k hk g
    · have := l1 k hk; omega
  · rcases k3 k hk with g | g
    · exact h5 k g
    · omega
  · rcases k3 bx e with g | g
    · exact h7 g
    · omega
/-- Another block instead. -/
theorem Pb.box (h : Pb w0 w q x pol n L K bx cur) (hb : But No w w') {b2 : Nat} {cur2 : Array Value} (hk : Blk w' b2 cur2 31) (hl : w.heap.size ≤ b2) : Pb w0 w' q x pol n L K b2 cur2 := by
  obtain ⟨S, S2, h1, h2, h3, h4, h5, h6, h7⟩ := h.ex
  have l1 := h1.lt
  have l2 := h2.lt
  exact ⟨⟨S, S2, h1.but hb (fun _ _ f => f), h2.but hb (fun _ _ f => f), h3, h4, h5, fun e => by have := l1 _ e; omega, fun e => by have := l2 _ e; omega⟩, hk, h.but.trans hb⟩
end
section
variable {w0 w : World} {q x bx : Nat} {pol n : Int} {L L0 : List E} {K : List One} {cur : Array Value} (t l : Int)
theorem Pb.add (h : Pb w0 w q x pol n L K bx cur) (hn : n < 1000000) : Calls Try.prog 11 #[.pointer (some ⟨q, 0, none⟩), .int .i64 t, .int .i64 l] w fun r w' => r = .returned (.int .i64 (addN L t l)) ∧ Pb w0 w' q x pol (n + 1) (addL L t l) K bx cur := by
  obtain ⟨S, h1, h2⟩ := h.qq
  exact (add_any q pol n L S w t l h1 hn).mono fun _ _ ⟨a, b⟩ => ⟨a, h2 _ _ _ b⟩
theorem Pb.rai (h : Pb w0 w q x pol n L K bx cur) (hn : n < 1000000) : Calls Try.prog 13 #[.pointer (some ⟨q, 0, none⟩), .int .i64 t, .int .i64 l] w fun r w' => r = .returned (.int .i64 (raiN pol L t l)) ∧ Pb w0 w' q x pol (n + 1) (raiL pol L t l) K bx cur := by
  obtain ⟨S, h1, h2⟩ := h.qq
  exact (raise_any q pol n L S w t l h1 hn).mono fun _ _ ⟨a, b⟩ => ⟨a, h2 _ _ _ b⟩
theorem Pb.fal (h : Pb w0 w q x pol n L K bx cur) (hn : n < 1000000) (ht : inR t) : Calls Try.prog 15 #[.pointer (some ⟨q, 0, none⟩), .int .i64 t] w fun r w' => r = .returned (.int .i64 (falN L t)) ∧ Pb w0 w' q x pol (n + 1) (falL L t) K bx cur := by
  obtain ⟨S, h1, h2⟩ := h.qq
  exact (fall_any q pol n L S w t ht h1 hn).mono fun _ _ ⟨a, b⟩ => ⟨a, h2 _ _ _ b⟩
theorem Pb.rem (h : Pb w0 w q x pol n L K bx cur) (ht : inR t) : Calls Try.prog 17 #[.pointer (some ⟨q, 0, none⟩), .int .i64 t] w fun r w' => r = .returned (.int .i64 (falN L t)) ∧ Pb w0 w' q x pol (n + 1) (delE t L) K bx cur := by
  obtain ⟨S, h1, h2⟩ := h.qq
  exact (remove_any q pol n L S w t ht h1).mono fun _ _ ⟨a, b⟩ => ⟨a, h2 _ _ _ b⟩
theorem Pb.radd (h : Pb w0 w q x pol n L K bx cur) (hr : Rel K L0) (hq : QOK L0) : Calls Try.prog 12 #[.pointer (some ⟨x, 0, none⟩), .int .i64 t, .int .i64 l] w fun r w' => r = .returned (.int .i64 (addN L0 t l)) ∧ ∃ K', Pb w0 w' q x pol n L K' bx cur ∧ Rel K' (addL L0 t l) := by
  obtain ⟨S, h1, h2⟩ := h.rr
  exact (radd_any x pol K L0 S w t l h1 hr hq).mono fun _ _ ⟨a, K', b, c⟩ => ⟨a, K', h2 _ _ b, c⟩
theorem Pb.rrai (h : Pb w0 w q x pol n L K bx cur) (hr : Rel K L0) (hq : QOK L0) : Calls Try.prog 14 #[.pointer (some ⟨x, 0, none⟩), .int .i64 t, .int .i64 l] w fun r w' => r = .returned (.int .i64 (raiN pol L0 t l)) ∧ ∃ K', Pb w0 w' q x pol n L K' bx cur ∧ Rel K' (raiL pol L0 t l) := by
  obtain ⟨S, h1, h2⟩ := h.rr
  exact (rraise_any x pol K L0 S w t l h1 hr hq).mono fun _ _ ⟨a, K', b, c⟩ => ⟨a, K', h2 _ _ b, c⟩
theorem Pb.rfal (h : Pb w0 w q x pol n L K bx cur) (hr : Rel K L0) (hq : QOK L0) : Calls Try.prog 16 #[.pointer (some ⟨x, 0, none⟩), .int .i64 t] w fun r w' => r = .returned (.int .i64 (falN L0 t)) ∧ ∃ K', Pb w0 w' q x pol n L K' bx cur ∧ Rel K' (falL L0 t) := by
  obtain ⟨S, h1, h2⟩ := h.rr
  exact (rfall_any x pol K L0 S w t h1 hr hq).mono fun _ _ ⟨a, K', b, c⟩ => ⟨a, K', h2 _ _ b, c⟩
theorem Pb.rrem (h : Pb w0 w q x pol n L K bx cur) (hr : Rel K L0) (hq : QOK L0) : Calls Try.prog 18 #[.pointer (some ⟨x, 0, none⟩), .int .i64 t] w fun r w' => r = .returned (.int .i64 (falN L0 t)) ∧ ∃ K', Pb w0 w' q x pol n L K' bx cur ∧ Rel K' (delE t L0) := by
  obtain ⟨S, h1, h2⟩ := h.rr
  exact (rrem_any x pol K L0 S w t h1 hr hq).mono fun _ _ ⟨a, K', b, c⟩ => ⟨a, K', h2 _ _ b, c⟩
theorem Pb.lev (h : Pb w0 w q x pol n L K bx cur) (ht : inR t) : Calls Try.prog 19 #[.pointer (some ⟨q, 0, none⟩), .int .i64 t] w fun r w' => r = .returned (.tuple #[.int .i64 (levV t L), .bool (hasT t L)]) ∧ Pb w0 w' q x pol n L K bx cur := by
  obtain ⟨S, h1, h2⟩ := h.qq
  exact (level_any q pol n L S w t ht h1).mono fun _ _ ⟨a, b⟩ => ⟨a, h.no b⟩
theorem Pb.rlev (h : Pb w0 w q x pol n L K bx cur) (hr : Rel K L) : Calls Try.prog 20 #[.pointer (some ⟨x, 0, none⟩), .int .i64 t] w fun r w' => r = .returned (.tuple #[.int .i64 (levV t L), .bool (hasT t L)]) ∧ Pb w0 w' q x pol n L K bx cur := by
  obtain ⟨S, h1, h2⟩ := h.rr
  exact (rlevel_any x pol K L S w t h1 hr h.ok).mono fun _ _ ⟨a, b⟩ => ⟨a, h.no b⟩
theorem Pb.fir (h : Pb w0 w q x pol n L K bx cur) : Calls Try.prog 24 #[.pointer (some ⟨q, 0, none⟩)] w fun r w' => r = .returned (.int .i64 (firE L)) ∧ Pb w0 w' q x pol n L K bx cur := by
  obtain ⟨S, h1, h2⟩ := h.qq
  exact (first_any q pol n L S w h1).mono fun _ _ ⟨a, b⟩ => ⟨a, h.no b⟩
theorem Pb.rfir (h : Pb w0 w q x pol n L K bx cur) (hr : Rel K L) : Calls Try.prog 25 #[.pointer (some ⟨x, 0, none⟩)] w fun r w' => r = .returned (.int .i64 (firE L)) ∧ Pb w0 w' q x pol n L K bx cur := by
  obtain ⟨S, h1, h2⟩ := h.rr
  exact (rfirst_any x pol K L S w h1 hr h.ok).mono fun _ _ ⟨a, b⟩ => ⟨a, h.no b⟩
theorem Pb.all (h : Pb w0 w q x pol n L K bx cur) : Calls Try.prog 22 #[.pointer (some ⟨q, 0, none⟩)] w fun r w' => ∃ b, r = .returned (.slice (some ⟨b, 0, none⟩) L.length L.length) ∧ Blk w' b ((L.map E.t).map (Value.int .i64)).toArray 3 ∧ Pb w0 w' q x pol n L K bx cur := by
  obtain ⟨S, h1, h2⟩ := h.qq
  exact (all_any q pol n L S w h1).mono fun _ _ ⟨b, a, c, d, _⟩ => ⟨b, a, c, h.no d⟩
theorem Pb.rall (h : Pb w0 w q x pol n L K bx cur) (hr : Rel K L) : Calls Try.prog 23 #[.pointer (some ⟨x, 0, none⟩)] w fun r w' => ∃ A c, r = .returned (.slice A L.length c) ∧ Ov w' (.slice A L.length c) (L.map E.t) ∧ But No w w' ∧ Pb w0 w' q x pol n L K bx cur := by
  obtain ⟨S, h1, h2⟩ := h.rr
  exact (rall_any x pol K L S w h1 hr h.ok).mono fun _ _ ⟨A, c, a, d, e⟩ => ⟨A, c, a, d, e, h.no e⟩
end
end Go.Proofs.Ytbfmoaojimimjaa
