/- Contracts of Len, First, Pop, Key and Remove over a heap's list. -/
import Derived.Test.YtbfmoaojimimjaaHeP
namespace Go.Proofs.Ytbfmoaojimimjaa.hea
open Go.ChangeShapes Go.WideShapes Go.ChangeAt Go.RowKit
theorem at_eq {D : DataW Unit} {k : Lit} {z : DataW Unit} {c i : Int} (h : D.atKey k z = .lit (.int .i64 c)) (h' : ∀ z, D.atKey k z = vl i) : c = i := by
  have := h.symm.trans (h' z)
  unfold vl at this
  cases this; rfl
theorem ret3 {a b c d : Int} {x y : Bool} (h : a = c) (k : b = d) (l : x = y) : Ending.returned (.tuple #[.int .i64 a, .int .i64 b, .bool x]) = .returned (.tuple #[.int .i64 c, .int .i64 d, .bool y]) := by rw [h, k, l]
theorem ret2b {a c : Int} {x y : Bool} (h : a = c) (l : x = y) : Ending.returned (.tuple #[.int .i64 a, .bool x]) = .returned (.tuple #[.int .i64 c, .bool y]) := by rw [h, l]
theorem ret1 {a b : Int} (h : a = b) : Ending.returned (.int .i64 a) = .returned (.int .i64 b) := by rw [h]
/-- What the map tells of an id of L. -/
theorem look_in {n : Nat} {f : Nat → It} {D : DataW Unit} {L : List It} {x : It} (mi : MapIs n f D) (inv : Inv n f L) (hx : x ∈ L) :
    ∃ i, i < n ∧ f i = x ∧ Maps.has D (ky x.id) = true ∧ ∀ z, D.atKey (ky x.id) z = vl i := by
  obtain ⟨i, hi, rfl⟩ := (inv.mem x).1 hx
  exact ⟨i, hi, rfl, mi.at_ i hi⟩
theorem look_out {n : Nat} {f : Nat → It} {D : DataW Unit} {L : List It} {a : Int} (mi : MapIs n f D) (inv : Inv n f L) (hx : ∀ y ∈ L, y.id ≠ a) : Maps.has D (ky a) = false :=
  mi.no a fun i hi => hx _ ((inv.mem _).2 ⟨i, hi, rfl⟩)
theorem own_eq {p q m n c k : Nat} : OwnV p m (.slice (some ⟨q, 0, none⟩) n c) k ↔ Own p q m k := by
  unfold OwnV Own
  constructor
  · rintro (h | h | h)
    · exact .inl h
    · exact .inr (.inl (by simpa [Value.ownBlock] using h.symm))
    · exact .inr (.inr h)
  · rintro (h | h | h)
    · exact .inl h
    · exact .inr (.inl (by simp [Value.ownBlock, h]))
    · exact .inr (.inr h)
def fst1 : List It → Int | [] => 0 | x :: _ => x.id
def fst2 : List It → Int | [] => 0 | x :: _ => x.key
def fst3 : List It → Bool | [] => false | _ :: _ => true
set_option maxHeartbeats 1000000 in
theorem first_any (p : Nat) (R T : Int) (L : List It) (S : Nat → Prop) (w : World) (h : HP w S p R T L) :
    Calls Try.prog 40 #[.pointer (some ⟨p, 0, none⟩)] w fun r w' => r = .returned (.tuple #[.int .i64 (fst1 L), .int .i64 (fst2 L), .bool (fst3 L)]) ∧ But No w w' := by
  have hr1 := h.r1
  have hlen := h.len
  obtain ⟨m, v, n, f, D, hx, mi, ho, inv, hS⟩ := h.ex
  by_cases n0 : n = 0
  · obtain ⟨A, c, rfl, hc⟩ := hx.row.slice
    have h2 : w.cell? ⟨p, 2, none⟩ = some (.slice A n c) := hx.hp.cell (o := 2) rfl
    subst n0
    have HL : Hid (L = []) := List.eq_nil_of_length_eq_zero inv.len
    clear hx mi ho inv hS h hr1 hlen
    go_enter Try.func40, Try.ntmps40
    go_wp2
    go_ret3
    exact ⟨by rw [HL.out]; rfl, But.refl _ _⟩
  · obtain ⟨q, c, rfl, hm⟩ := hx.hm (by omega)
    have h2 : w.cell? ⟨p, 2, none⟩ = some (.slice (some ⟨q, 0, none⟩) n c) := hm.hp.cell (o := 2) rfl
    obtain ⟨t, hL⟩ := inv.head ho (by omega)
    obtain ⟨a0, a1, _⟩ := hm.hq.cells (i := 0) (by omega)
    obtain ⟨x, hx0⟩ : ∃ x, f 0 = x := ⟨_, rfl⟩
    rw [hx0] at a0 a1 hL
    simp only [Nat.zero_mul, Nat.zero_add] at a0 a1
    have HL : Hid (L = x :: t) := hL
    have n1 : (0 : Int) < (n : Int) := by omega
    have n2 : ((n : Int) == 0) = false := by simp; omega
    have n3 : n ≤ 256 := by have := inv.len; omega
    obtain ⟨xa, xb, xc⟩ := x
    clear hx mi ho inv hS h hL hx0 hm n0 hlen hr1
    dsimp only at a0 a1
    go_enter Try.func40, Try.ntmps40
    go_wp2_with fail
    go_quiet (fail)
    go_wp2
    go_ret3
    exact ⟨by rw [HL.out]; rfl, (But.refl No w).drewN _⟩
theorem hp_of {w w' : World} {p q m c n l : Nat} {R T : Int} {L L' : List It} {f' : Nat → It} {D' : DataW Unit} {S : Nat → Prop} (h : HP w S p R T L) (hS : ∀ k, S k ↔ OwnV p m (.slice (some ⟨q, 0, none⟩) n c) k)
    (hm : Hm w' p q m c l R T f' D') (mi : MapIs l f' D') (ho : HeapOK l f') (inv : Inv l f' L') (hb : But (Own p q m) w w') (hsub : ∀ x ∈ L', x ∈ L) (hl : L'.length ≤ L.length) : Mv w S p R T L' w' :=
  ⟨S, ⟨⟨m, _, l, f', D', hm.hx, mi, ho, inv, fun k => (hS k).trans (own_eq.trans own_eq.symm)⟩, fun x hx => h.turn x (hsub x hx), fun x hx => h.rng x (hsub x hx), h.t0, h.r0, h.r1, by have := h.len; omega⟩,
    hb.mono (fun k _ hk => (hS k).2 (own_eq.2 hk)), fun _ hk => .inl hk⟩
theorem key_in (p : Nat) (R T : Int) (L : List It) (S : Nat → Prop) (w : World) (x : It) (h : HP w S p R T L) (hxL : x ∈ L) :
    Calls Try.prog 35 #[.pointer (some ⟨p, 0, none⟩), .int .i64 x.id] w fun r w' => r = .returned (.tuple #[.int .i64 x.key, .bool true]) ∧ But No w w' := by
  have hr1 := h.r1
  have hlen := h.len
  have HR : Hid (inR x.id) := h.rng x hxL
  obtain ⟨m, v, n, f, D, hx, mi, ho, inv, hS⟩ := h.ex
  obtain ⟨i, hi, hfi, hhas, hat⟩ := look_in mi inv hxL
  have AT := Lib.hid hat
  obtain ⟨q, c, rfl, hm⟩ := hx.hm (by omega)
  have OWN := Lib.hid hm.own
  have h2 : w.cell? ⟨p, 2, none⟩ = some (.slice (some ⟨q, 0, none⟩) n c) := hm.hp.cell (o := 2) rfl
  have h3 : w.cell? ⟨p, 3, none⟩ = some (.map (some m)) := hm.hp.cell (o := 3) rfl
  have a1 := (hm.hq.cells (i := i) hi).2.1
  rw [hfi] at a1
  obtain ⟨xa, xb, xc⟩ := x
  have n3 : n ≤ 256 := by have := inv.len; omega
  have hi' : (i : Int) < (n : Int) := by omega
  clear hx mi ho inv hS h hm hlen hr1 hat hfi hxL
  dsimp only at *
  go_enter Try.func35, Try.ntmps35
  go_wp2_with (at_lookup; refine wpList_lookup_own_ok_int (H := Unit) _ rfl _ _ 49 rfl 3 3 .i64 keyed Try.underlying49 Try.underlying3 (zero3 _) m (Maps.size D) D rfl OWN.out _ (ky xa) rfl (Maps.keyOf_int_mk Try.underlying3 (wf_of HR.out)) ?_; intro cc hcc hwc; obtain rfl := at_eq hcc AT.out; clear hcc hwc)
  go_ret2
  exact ⟨rfl, But.refl _ _⟩
theorem key_out (p : Nat) (R T : Int) (L : List It) (S : Nat → Prop) (w : World) (a : Int) (ha : inR a) (h : HP w S p R T L) (hxL : ∀ y ∈ L, y.id ≠ a) :
    Calls Try.prog 35 #[.pointer (some ⟨p, 0, none⟩), .int .i64 a] w fun r w' => r = .returned (.tuple #[.int .i64 0, .bool false]) ∧ But No w w' := by
  have HR := Lib.hid ha
  obtain ⟨m, v, n, f, D, hx, mi, ho, inv, hS⟩ := h.ex
  have hhas := look_out mi inv hxL
  have OWN := Lib.hid hx.own
  have h3 : w.cell? ⟨p, 3, none⟩ = some (.map (some m)) := hx.hp.cell (o := 3) rfl
  clear hx mi ho inv hS h hxL ha
  go_enter Try.func35, Try.ntmps35
  go_wp2_with (at_lookup; refine wpList_lookup_own_ok_int (H := Unit) _ rfl _ _ 49 rfl 3 3 .i64 keyed Try.underlying49 Try.underlying3 (zero3 _) m (Maps.size D) D rfl OWN.out _ (ky a) rfl (Maps.keyOf_int_mk Try.underlying3 (wf_of HR.out)) ?_; intro cc hcc hwc; clear hcc hwc)
  go_ret2
  exact ⟨rfl, But.refl _ _⟩
set_option maxHeartbeats 1000000 in
theorem remove_in (p : Nat) (R T : Int) (L : List It) (S : Nat → Prop) (w : World) (x : It) (h : HP w S p R T L) (hxL : x ∈ L) :
    Calls Try.prog 34 #[.pointer (some ⟨p, 0, none⟩), .int .i64 x.id] w fun r w' => r = .returned (.int .i64 0) ∧ Mv w S p R T (rmv x.id L) w' := by
  have H := Lib.hid h
  have hr1 := h.r1
  have hlen := h.len
  have HR : Hid (inR x.id) := h.rng x hxL
  obtain ⟨m, v, n, f, D, hx, mi, ho, inv, hS⟩ := h.ex
  obtain ⟨i, hi, hfi, hhas, hat⟩ := look_in mi inv hxL
  have AT := Lib.hid hat
  obtain ⟨q, c, rfl, hm⟩ := hx.hm (by omega)
  have OWN := Lib.hid hm.own
  have h3 : w.cell? ⟨p, 3, none⟩ = some (.map (some m)) := hm.hp.cell (o := 3) rfl
  have n3 : n ≤ 256 := by have := inv.len; omega
  obtain ⟨l, hl⟩ : ∃ l, n = l + 1 := ⟨n - 1, by omega⟩
  have CR := Lib.hid (removeAt_any p q m c n l R T f D i w hl hm mi ho hi n3)
  have HE : Hid (∀ w', RemEnd w p q m c l R T f i w' → Mv w S p R T (rmv x.id L) w') := by
    rintro w' ⟨f', D', h1, h2, h3, h4, h5⟩
    have i4 := h4 L (by rw [← hl]; exact inv)
    rw [hfi] at i4
    exact hp_of H.out hS h1 h2 h3 i4 h5 (fun y hy => (rmv_sub _ _).subset hy) (rmv_sub _ _).length_le
  obtain ⟨xa, xb, xc⟩ := x
  clear hx mi ho inv hS h hm hlen hr1 hat hfi hxL hl
  dsimp only at *
  go_enter Try.func34, Try.ntmps34
  go_wp2_with (first | (at_lookup; refine wpList_lookup_own_ok_int (H := Unit) _ rfl _ _ 49 rfl 3 3 .i64 keyed Try.underlying49 Try.underlying3 (zero3 _) m (Maps.size D) D rfl OWN.out _ (ky xa) rfl (Maps.keyOf_int_mk Try.underlying3 (wf_of HR.out)) ?_; intro cc hcc hwc; obtain rfl := at_eq hcc AT.out; clear hcc hwc) | (go_at_call 44; refine CR.out.mono ?_; rintro e w2 ⟨rfl, hd⟩; have HD := Lib.hid hd; clear hd))
  go_ret
  exact ⟨rfl, HE.out _ HD.out⟩
theorem remove_out (p : Nat) (R T : Int) (L : List It) (S : Nat → Prop) (w : World) (a : Int) (ha : inR a) (h : HP w S p R T L) (hxL : ∀ y ∈ L, y.id ≠ a) :
    Calls Try.prog 34 #[.pointer (some ⟨p, 0, none⟩), .int .i64 a] w fun r w' => r = .returned (.int .i64 5) ∧ But No w w' := by
  have HR := Lib.hid ha
  obtain ⟨m, v, n, f, D, hx, mi, ho, inv, hS⟩ := h.ex
  have hhas := look_out mi inv hxL
  have OWN := Lib.hid hx.own
  have h3 : w.cell? ⟨p, 3, none⟩ = some (.map (some m)) := hx.hp.cell (o := 3) rfl
  clear hx mi ho inv hS h hxL ha
  go_enter Try.func34, Try.ntmps34
  go_wp2_with (at_lookup; refine wpList_lookup_own_ok_int (H := Unit) _ rfl _ _ 49 rfl 3 3 .i64 keyed Try.underlying49 Try.underlying3 (zero3 _) m (Maps.size D) D rfl OWN.out _ (ky a) rfl (Maps.keyOf_int_mk Try.underlying3 (wf_of HR.out)) ?_; intro cc hcc hwc; clear hcc hwc)
  go_ret
  exact ⟨rfl, But.refl _ _⟩
theorem change_out (p : Nat) (R T : Int) (L : List It) (S : Nat → Prop) (w : World) (a b : Int) (ha : inR a) (h : HP w S p R T L) (hxL : ∀ y ∈ L, y.id ≠ a) :
    Calls Try.prog 33 #[.pointer (some ⟨p, 0, none⟩), .int .i64 a, .int .i64 b] w fun r w' => r = .returned (.int .i64 5) ∧ But No w w' := by
  have HR := Lib.hid ha
  obtain ⟨m, v, n, f, D, hx, mi, ho, inv, hS⟩ := h.ex
  have hhas := look_out mi inv hxL
  have OWN := Lib.hid hx.own
  have h3 : w.cell? ⟨p, 3, none⟩ = some (.map (some m)) := hx.hp.cell (o := 3) rfl
  clear hx mi ho inv hS h hxL ha
  go_enter Try.func33, Try.ntmps33
  go_wp2_with (at_lookup; refine wpList_lookup_own_ok_int (H := Unit) _ rfl _ _ 49 rfl 3 3 .i64 keyed Try.underlying49 Try.underlying3 (zero3 _) m (Maps.size D) D rfl OWN.out _ (ky a) rfl (Maps.keyOf_int_mk Try.underlying3 (wf_of HR.out)) ?_; intro cc hcc hwc; clear hcc hwc)
  go_ret
  exact ⟨rfl, But.refl _ _⟩
end Go.Proofs.Ytbfmoaojimimjaa.hea
