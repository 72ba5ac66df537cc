/- The calls of a heap, each in one contract; pick; the chapter's examples. -/
import Derived.Test.YtbfmoaojimimjaaHeA
namespace Go.Proofs.Ytbfmoaojimimjaa.hea
open Go.ChangeShapes Go.WideShapes Go.ChangeAt Go.RowKit
def hasI (a : Int) (L : List It) : Bool := L.any (fun y => y.id == a)
theorem hasI_true {a : Int} {L : List It} (h : hasI a L = true) : ∃ x ∈ L, x.id = a := by
  unfold hasI at h; rw [List.any_eq_true] at h
  obtain ⟨x, hx, e⟩ := h; exact ⟨x, hx, by simpa using e⟩
theorem hasI_false {a : Int} {L : List It} (h : hasI a L = false) : ∀ y ∈ L, y.id ≠ a := by
  intro y hy e
  have : hasI a L = true := by unfold hasI; rw [List.any_eq_true]; exact ⟨y, hy, by simpa using e⟩
  rw [h] at this; cases this
theorem hasI_of {a : Int} {L : List It} {x : It} (hx : x ∈ L) (e : x.id = a) : hasI a L = true := by
  unfold hasI; rw [List.any_eq_true]; exact ⟨x, hx, by simpa using e⟩
theorem hasI_not {a : Int} {L : List It} (h : ∀ y ∈ L, y.id ≠ a) : hasI a L = false := by
  cases e : hasI a L with
  | false => rfl
  | true => obtain ⟨x, hx, ex⟩ := hasI_true e; exact absurd ex (h x hx)
def pushE (R : Int) (L : List It) (a : Int) : Int := if a < 0 then 1 else if hasI a L = true then 4 else if R ≤ L.length then 3 else 0
def pushL (R T : Int) (L : List It) (a b : Int) : List It := if pushE R L a = 0 then ins ⟨a, b, T + 1⟩ L else L
def pushT (R T : Int) (L : List It) (a : Int) : Int := if pushE R L a = 0 then T + 1 else T
theorem push_any (p : Nat) (R T : Int) (L : List It) (S : Nat → Prop) (w : World) (a b : Int) (ha : inR a) (h : HP w S p R T L) (hT : T < 1000000) :
    Calls Try.prog 29 #[.pointer (some ⟨p, 0, none⟩), .int .i64 a, .int .i64 b] w fun r w' => r = .returned (.int .i64 (pushE R L a)) ∧ Mv w S p R (pushT R T L a) (pushL R T L a b) w' := by
  by_cases h0 : a < 0
  · have e : pushE R L a = 1 := by unfold pushE; rw [if_pos h0]
    have e1 : pushL R T L a b = L := by unfold pushL; rw [e]; rfl
    have e2 : pushT R T L a = T := by unfold pushT; rw [e]; rfl
    rw [e, e1, e2]
    exact (push_neg p a b w h0).mono fun _ _ ⟨h1, h2⟩ => ⟨h1, h2 ▸ h.stay (But.refl _ _)⟩
  · cases hh : hasI a L with
    | true =>
      have e : pushE R L a = 4 := by unfold pushE; rw [if_neg h0, if_pos hh]
      have e1 : pushL R T L a b = L := by unfold pushL; rw [e]; rfl
      have e2 : pushT R T L a = T := by unfold pushT; rw [e]; rfl
      rw [e, e1, e2]
      obtain ⟨x, hx, rfl⟩ := hasI_true hh
      exact (push_exists p R T L S w x b h hx (by omega)).mono fun _ _ ⟨h1, h2⟩ => ⟨h1, h.stay h2⟩
    | false =>
      by_cases hf : R ≤ L.length
      · have e : pushE R L a = 3 := by unfold pushE; rw [if_neg h0, if_neg (by rw [hh]; simp), if_pos hf]
        have e1 : pushL R T L a b = L := by unfold pushL; rw [e]; rfl
        have e2 : pushT R T L a = T := by unfold pushT; rw [e]; rfl
        rw [e, e1, e2]
        exact (push_full p R T L S w a b ha (by omega) h (hasI_false hh) hf).mono fun _ _ ⟨h1, h2⟩ => ⟨h1, h.stay h2⟩
      · have e : pushE R L a = 0 := by unfold pushE; rw [if_neg h0, if_neg (by rw [hh]; simp), if_neg hf]
        have e1 : pushL R T L a b = ins ⟨a, b, T + 1⟩ L := by unfold pushL; rw [if_pos e]
        have e2 : pushT R T L a = T + 1 := by unfold pushT; rw [if_pos e]
        rw [e, e1, e2]
        exact push_ok p R T L S w a b ha (by omega) h hT (hasI_false hh) (by omega)
def chE (L : List It) (a : Int) : Int := if hasI a L = true then 0 else 5
def chL (T : Int) (L : List It) (a b : Int) : List It := if hasI a L = true then ins ⟨a, b, T + 1⟩ (rmv a L) else L
def chT (T : Int) (L : List It) (a : Int) : Int := if hasI a L = true then T + 1 else T
theorem change_any (p : Nat) (R T : Int) (L : List It) (S : Nat → Prop) (w : World) (a b : Int) (ha : inR a) (h : HP w S p R T L) (hT : T < 1000000) :
    Calls Try.prog 33 #[.pointer (some ⟨p, 0, none⟩), .int .i64 a, .int .i64 b] w fun r w' => r = .returned (.int .i64 (chE L a)) ∧ Mv w S p R (chT T L a) (chL T L a b) w' := by
  unfold chE chT chL
  cases hh : hasI a L with
  | true =>
    obtain ⟨x, hx, rfl⟩ := hasI_true hh
    exact change_in p R T L S w x b h hT hx
  | false => exact (change_out p R T L S w a b ha h (hasI_false hh)).mono fun _ _ ⟨h1, h2⟩ => ⟨h1, h.stay h2⟩
theorem rmv_not {a : Int} {L : List It} (h : ∀ y ∈ L, y.id ≠ a) : rmv a L = L := List.eraseP_of_forall_not (fun y hy => by simpa using h y hy)
theorem remove_any (p : Nat) (R T : Int) (L : List It) (S : Nat → Prop) (w : World) (a : Int) (ha : inR a) (h : HP w S p R T L) :
    Calls Try.prog 34 #[.pointer (some ⟨p, 0, none⟩), .int .i64 a] w fun r w' => r = .returned (.int .i64 (chE L a)) ∧ Mv w S p R T (rmv a L) w' := by
  unfold chE
  cases hh : hasI a L with
  | true =>
    obtain ⟨x, hx, rfl⟩ := hasI_true hh
    exact remove_in p R T L S w x h hx
  | false =>
    rw [rmv_not (hasI_false hh)]
    exact (remove_out p R T L S w a ha h (hasI_false hh)).mono fun _ _ ⟨h1, h2⟩ => ⟨h1, h.stay h2⟩
def keyV (L : List It) (a : Int) : Int := match L.find? (fun y => y.id == a) with | some x => x.key | none => 0
theorem keyV_of {L : List It} (hn : L.Pairwise (fun a b => a.id ≠ b.id)) {x : It} (hx : x ∈ L) : keyV L x.id = x.key := by
  unfold keyV
  cases e : L.find? (fun y => y.id == x.id) with
  | none => rw [List.find?_eq_none] at e; exact absurd (by simp) (e x hx)
  | some y =>
    have h1 := List.find?_some e
    have h2 := List.mem_of_find?_eq_some e
    have : y = x := Inv.uniq hn h2 hx (by simpa using h1)
    rw [this]
theorem keyV_not {a : Int} {L : List It} (h : ∀ y ∈ L, y.id ≠ a) : keyV L a = 0 := by
  unfold keyV
  rw [List.find?_eq_none.2 (fun y hy => by simpa using h y hy)]
theorem HP.nd {w : World} {S : Nat → Prop} {p : Nat} {R T : Int} {L : List It} (h : HP w S p R T L) : L.Pairwise (fun a b => a.id ≠ b.id) := by
  obtain ⟨m, v, n, f, D, h1, h2, h3, h4, h5⟩ := h.ex; exact h4.nd
theorem HP.srt {w : World} {S : Nat → Prop} {p : Nat} {R T : Int} {L : List It} (h : HP w S p R T L) : L.Pairwise Ah := by
  obtain ⟨m, v, n, f, D, h1, h2, h3, h4, h5⟩ := h.ex; exact h4.srt
theorem key_any (p : Nat) (R T : Int) (L : List It) (S : Nat → Prop) (w : World) (a : Int) (ha : inR a) (h : HP w S p R T L) :
    Calls Try.prog 35 #[.pointer (some ⟨p, 0, none⟩), .int .i64 a] w fun r w' => r = .returned (.tuple #[.int .i64 (keyV L a), .bool (hasI a L)]) ∧ But No w w' := by
  cases hh : hasI a L with
  | true =>
    obtain ⟨x, hx, rfl⟩ := hasI_true hh
    rw [keyV_of h.nd hx]
    exact key_in p R T L S w x h hx
  | false =>
    rw [keyV_not (hasI_false hh)]
    exact key_out p R T L S w a ha h (hasI_false hh)
/-- A heap that the law made: all that was there at w0 is as it was. -/
structure Hw (w0 w : World) (S : Nat → Prop) (p : Nat) (R T : Int) (L : List It) : Prop where
  hp : HP w S p R T L
  but : But No w0 w
  new : ∀ k, S k → w0.heap.size ≤ k
theorem Hw.step {w0 w w' : World} {S : Nat → Prop} {p : Nat} {R T T' : Int} {L L' : List It} (h : Hw w0 w S p R T L) (hm : Mv w S p R T' L' w') : ∃ S', Hw w0 w' S' p R T' L' ∧ But S w w' ∧ ∀ k, S' k → S k ∨ w.heap.size ≤ k := by
  obtain ⟨S', h1, h2, h3⟩ := hm
  have := h.but.size
  exact ⟨S', ⟨h1, h.but.andThen h2 (fun k hk => .inr (h.new k hk)), fun k hk => (h3 k hk).elim (h.new k) (fun h => by omega)⟩, h2, h3⟩
theorem Hw.no {w0 w w' : World} {S : Nat → Prop} {p : Nat} {R T : Int} {L : List It} (h : Hw w0 w S p R T L) (hb : But No w w') : Hw w0 w' S p R T L := ⟨h.hp.but hb (fun _ _ f => f), h.but.trans hb, h.new⟩
end Go.Proofs.Ytbfmoaojimimjaa.hea
