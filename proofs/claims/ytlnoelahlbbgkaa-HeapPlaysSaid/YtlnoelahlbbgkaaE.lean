/- The calls of a heap, each in one contract; pick; the chapter's examples. -/
import Derived.Test.YtlnoelahlbbgkaaA
namespace Go.Proofs.Ytlnoelahlbbgkaa
open Go.ChangeShapes Go.WideShapes Go.ChangeAt Go.RowKit
def hasI (a : Int) (L : List It) : Bool := L.any (fun y => y.id == a)
theorem hasI_true {a : Int} {L : List It} (h : hasI a L = true) : ∃ x ∈ L, x.id = a := by
  unfold hasI at h; rw [List.any_eq_true] at h
  obtain ⟨x, hx, e⟩ := h; exact ⟨x, hx, by simpa using e⟩
theorem hasI_false {a : Int} {L : List It} (h : hasI a L = false) : ∀ y ∈ L, y.id ≠ a := by
  intro y hy e
  have : hasI a L = true := by unfold hasI; rw [List.any_eq_true]; exact ⟨y, hy, by simpa using e⟩
  rw [h] at this; cases this
theorem hasI_of {a : Int} {L : List It} {x : It} (hx : x ∈ L) (e : x.id = a) : hasI a L = true := by
  unfold hasI; rw [List.any_eq_true]; exact ⟨x, hx, by simpa using e⟩
theorem hasI_not {a : Int} {L : List It} (h : ∀ y ∈ L, y.id ≠ a) : hasI a L = false := by
  cases e : hasI a L with
  | false => rfl
  | true => obtain ⟨x, hx, ex⟩ := hasI_true e; exact absurd ex (h x hx)
def pushE (R : Int) (L : List It) (a : Int) : Int := if a < 0 then 1 else if hasI a L = true then 4 else if R ≤ L.length then 3 else 0
def pushL (R T : Int) (L : List It) (a b : Int) : List It := if pushE R L a = 0 then ins ⟨a, b, T + 1⟩ L else L
def pushT (R T : Int) (L : List It) (a : Int) : Int := if pushE R L a = 0 then T + 1 else T
theorem push_any (p : Nat) (R T : Int) (L : List It) (S : Nat → Prop) (w : World) (a b : Int) (ha : inR a) (h : HP w S p R T L) (hT : T < 1000000) :
    Calls Try.prog 13 #[.pointer (some ⟨p, 0, none⟩), .int .i64 a, .int .i64 b] w fun r w' => r = .returned (.int .i64 (pushE R L a)) ∧ Mv w S p R (pushT R T L a) (pushL R T L a b) w' := by
  by_cases h0 : a < 0
  · have e : pushE R L a = 1 := by unfold pushE; rw [if_pos h0]
    have e1 : pushL R T L a b = L := by unfold pushL; rw [e]; rfl
    have e2 : pushT R T L a = T := by unfold pushT; rw [e]; rfl
    rw [e, e1, e2]
    exact (push_neg p a b w h0).mono fun _ _ ⟨h1, h2⟩ => ⟨h1, h2 ▸ h.stay (But.refl _ _)⟩
  · cases hh : hasI a L with
    | true =>
      have e : pushE R L a = 4 := by unfold pushE; rw [if_neg h0, if_pos hh]
      have e1 : pushL R T L a b = L := by unfold pushL; rw [e]; rfl
      have e2 : pushT R T L a = T := by unfold pushT; rw [e]; rfl
      rw [e, e1, e2]
      obtain ⟨x, hx, rfl⟩ := hasI_true hh
      exact (push_exists p R T L S w x b h hx (by omega)).mono fun _ _ ⟨h1, h2⟩ => ⟨h1, h.stay h2⟩
    | false =>
      by_cases hf : R ≤ L.length
      · have e : pushE R L a = 3 := by unfold pushE; rw [if_neg h0, if_neg (by rw [hh]; simp), if_pos hf]
        have e1 : pushL R T L a b = L := by unfold pushL; rw [e]; rfl
        have e2 : pushT R T L a = T := by unfold pushT; rw [e]; rfl
        rw [e, e1, e2]
        exact (push_full p R T L S w a b ha (by omega) h (hasI_false hh) hf).mono fun _ _ ⟨h1, h2⟩ => ⟨h1, h.stay h2⟩
      · have e : pushE R L a = 0 := by unfold pushE; rw [if_neg h0, if_neg (by rw [hh]; simp), if_neg hf]
        have e1 : pushL R T L a b = ins ⟨a, b, T + 1⟩ L := by unfold pushL; rw [if_pos e]
        have e2 : pushT R T L a = T + 1 := by unfold pushT; rw [if_pos e]
        rw [e, e1, e2]
        exact push_ok p R T L S w a b ha (by omega) h hT (hasI_false hh) (by omega)
def chE (L : List It) (a : Int) : Int := if hasI a L = true then 0 else 5
def chL (T : Int) (L : List It) (a b : Int) : List It := if hasI a L = true then ins ⟨a, b, T + 1⟩ (rmv a L) else L
def chT (T : Int) (L : List It) (a : Int) : Int := if hasI a L = true then T + 1 else T
theorem change_any (p : Nat) (R T : Int) (L : List It) (S : Nat → Prop) (w : World) (a b : Int) (ha : inR a) (h : HP w S p R T L) (hT : T < 1000000) :
    Calls Try.prog 17 #[.pointer (some ⟨p, 0, none⟩), .int .i64 a, .int .i64 b] w fun r w' => r = .returned (.int .i64 (chE L a)) ∧ Mv w S p R (chT T L a) (chL T L a b) w' := by
  unfold chE chT chL
  cases hh : hasI a L with
  | true =>
    obtain ⟨x, hx, rfl⟩ := hasI_true hh
    exact change_in p R T L S w x b h hT hx
  | false => exact (change_out p R T L S w a b ha h (hasI_false hh)).mono fun _ _ ⟨h1, h2⟩ => ⟨h1, h.stay h2⟩
theorem rmv_not {a : Int} {L : List It} (h : ∀ y ∈ L, y.id ≠ a) : rmv a L = L := List.eraseP_of_forall_not (fun y hy => by simpa using h y hy)
theorem remove_any (p : Nat) (R T : Int) (L : List It) (S : Nat → Prop) (w : World) (a : Int) (ha : inR a) (h : HP w S p R T L) :
    Calls Try.prog 19 #[.pointer (some ⟨p, 0, none⟩), .int .i64 a] w fun r w' => r = .returned (.int .i64 (chE L a)) ∧ Mv w S p R T (rmv a L) w' := by
  unfold chE
  cases hh : hasI a L with
  | true =>
    obtain ⟨x, hx, rfl⟩ := hasI_true hh
    exact remove_in p R T L S w x h hx
  | false =>
    rw [rmv_not (hasI_false hh)]
    exact (remove_out p R T L S w a ha h (hasI_false hh)).mono fun _ _ ⟨h1, h2⟩ => ⟨h1, h.stay h2⟩
def keyV (L : List It) (a : Int) : Int := match L.find? (fun y => y.id == a) with | some x => x.key | none => 0
theorem keyV_of {L : List It} (hn : L.Pairwise (fun a b => a.id ≠ b.id)) {x : It} (hx : x ∈ L) : keyV L x.id = x.key := by
  unfold keyV
  cases e : L.find? (fun y => y.id == x.id) with
  | none => rw [List.find?_eq_none] at e; exact absurd (by simp) (e x hx)
  | some y =>
    have h1 := List.find?_some e
    have h2 := List.mem_of_find?_eq_some e
    have : y = x := Inv.uniq hn h2 hx (by simpa using h1)
    rw [this]
theorem keyV_not {a : Int} {L : List It} (h : ∀ y ∈ L, y.id ≠ a) : keyV L a = 0 := by
  unfold keyV
  rw [List.find?_eq_none.2 (fun y hy => by simpa using h y hy)]
theorem HP.nd {w : World} {S : Nat → Prop} {p : Nat} {R T : Int} {L : List It} (h : HP w S p R T L) : L.Pairwise (fun a b => a.id ≠ b.id) := by
  obtain ⟨m, v, n, f, D, h1, h2, h3, h4, h5⟩ := h.ex; exact h4.nd
theorem HP.srt {w : World} {S : Nat → Prop} {p : Nat} {R T : Int} {L : List It} (h : HP w S p R T L) : L.Pairwise Ah := by
  obtain ⟨m, v, n, f, D, h1, h2, h3, h4, h5⟩ := h.ex; exact h4.srt
theorem key_any (p : Nat) (R T : Int) (L : List It) (S : Nat → Prop) (w : World) (a : Int) (ha : inR a) (h : HP w S p R T L) :
    Calls Try.prog 21 #[.pointer (some ⟨p, 0, none⟩), .int .i64 a] w fun r w' => r = .returned (.tuple #[.int .i64 (keyV L a), .bool (hasI a L)]) ∧ But No w w' := by
  cases hh : hasI a L with
  | true =>
    obtain ⟨x, hx, rfl⟩ := hasI_true hh
    rw [keyV_of h.nd hx]
    exact key_in p R T L S w x h hx
  | false =>
    rw [keyV_not (hasI_false hh)]
    exact key_out p R T L S w a ha h (hasI_false hh)
/-- A heap that the law made: all that was there at w0 is as it was. -/
structure Hw (w0 w : World) (S : Nat → Prop) (p : Nat) (R T : Int) (L : List It) : Prop where
  hp : HP w S p R T L
  but : But No w0 w
  new : ∀ k, S k → w0.heap.size ≤ k
theorem Hw.step {w0 w w' : World} {S : Nat → Prop} {p : Nat} {R T T' : Int} {L L' : List It} (h : Hw w0 w S p R T L) (hm : Mv w S p R T' L' w') : ∃ S', Hw w0 w' S' p R T' L' ∧ But S w w' ∧ ∀ k, S' k → S k ∨ w.heap.size ≤ k := by
  obtain ⟨S', h1, h2, h3⟩ := hm
  have := h.but.size
  exact ⟨S', ⟨h1, h.but.andThen h2 (fun k hk => .inr (h.new k hk)), fun k hk => (h3 k hk).elim (h.new k) (fun h => by omega)⟩, h2, h3⟩
theorem Hw.no {w0 w w' : World} {S : Nat → Prop} {p : Nat} {R T : Int} {L : List It} (h : Hw w0 w S p R T L) (hb : But No w w') : Hw w0 w' S p R T L := ⟨h.hp.but hb (fun _ _ f => f), h.but.trans hb, h.new⟩
def pk (c n : Int) : Int := (if c < 0 then -(c + 1) else c) % n
theorem pk_lt (c n : Int) (h : 0 < n) : 0 ≤ pk c n ∧ pk c n < n := ⟨Int.emod_nonneg _ (by omega), Int.emod_lt_of_pos _ h⟩
theorem pick_any (c n : Int) (w : World) (hc : inR c) (h0 : 0 < n) (h1 : n ≤ 100000) :
    Calls Try.prog 12 #[.int .i64 c, .int .i64 n] w fun r w' => r = .returned (.int .i64 (pk c n)) ∧ w = w' := by
  unfold inR at hc
  by_cases h : c < 0
  · have HP : Hid (pk c n = (-(c + 1)) % n) := by show _ = _; unfold pk; rw [if_pos h]
    have b1 : decide (c < 0) = true := by simp; omega
    have e0 : (0 : Int) ≤ -(c + 1) := by omega
    obtain ⟨d, hd⟩ : ∃ d, d = -(c + 1) := ⟨_, rfl⟩
    have HT : Hid ((-(c + 1)).tmod n = (-(c + 1)) % n) := Int.tmod_eq_emod_of_nonneg e0
    have nz : ¬ n = 0 := by omega
    clear hd
    go_enter Try.func12, Try.ntmps12
    go_wp2
    go_ret
    exact ⟨ret1 (by rw [HP.out]; first | rfl | (rw [← HT.out]; simp) | simp [Int.neg_tmod]), rfl⟩
  · have HP : Hid (pk c n = c % n) := by show _ = _; unfold pk; rw [if_neg h]
    have b1 : decide (c < 0) = false := by simp; omega
    have e0 : (0 : Int) ≤ c := by omega
    have nz : ¬ n = 0 := by omega
    go_enter Try.func12, Try.ntmps12
    go_wp2
    go_ret
    exact ⟨ret1 (by rw [HP.out]), rfl⟩
def x7 : It := ⟨7, 5, 1⟩
def x8 : It := ⟨8, 5, 2⟩
def x9 : It := ⟨9, 1, 3⟩
def y7 : It := ⟨7, 5, 4⟩
theorem inR_small {a : Int} (h : -1000 ≤ a ∧ a ≤ 1000) : inR a := by unfold inR; omega
set_option maxHeartbeats 4000000 in
set_option maxRecDepth 100000 in
theorem examples_any (w : World) : Calls Try.prog 9 #[] w fun r w' => r = .returned (.bool true) ∧ But No w w' := by
  go_enter Try.func9, Try.ntmps9
  go_wp2_with fail
  refine (new_ok 5 w (by omega) (by omega)).mono ?_
  rintro e w1 ⟨rfl, S1, h1, b1, s1⟩
  have H1 : Hid (Hw w w1 S1 (w.heap.size + 1) 5 0 []) := ⟨h1, b1, s1⟩
  clear h1 b1 s1
  go_wp2_with fail
  refine (new_bad 257 w1 (by omega)).mono ?_
  rintro e w2 ⟨rfl, rfl⟩
  go_wp2_with fail
  refine (push_any _ 5 0 [] S1 w1 7 5 (inR_small (by omega)) H1.out.hp (by omega)).mono ?_
  rintro e w2 ⟨rfl, hm⟩
  obtain ⟨S2, h2, _, _⟩ := H1.out.step hm
  have H2 : Hid (Hw w w2 S2 (w.heap.size + 1) 5 1 [x7]) := h2
  clear hm h2 H1
  go_wp2_with fail
  refine (push_any _ 5 1 [x7] S2 w2 8 5 (inR_small (by omega)) H2.out.hp (by omega)).mono ?_
  rintro e w3 ⟨rfl, hm⟩
  obtain ⟨S3, h3, _, _⟩ := H2.out.step hm
  have H3 : Hid (Hw w w3 S3 (w.heap.size + 1) 5 2 [x7, x8]) := h3
  clear hm h3 H2
  go_wp2_with fail
  refine (push_any _ 5 2 [x7, x8] S3 w3 9 1 (inR_small (by omega)) H3.out.hp (by omega)).mono ?_
  rintro e w4 ⟨rfl, hm⟩
  obtain ⟨S4, h4, _, _⟩ := H3.out.step hm
  have H4 : Hid (Hw w w4 S4 (w.heap.size + 1) 5 3 [x9, x7, x8]) := h4
  clear hm h4 H3
  go_wp2_with fail
  refine (all_any _ 5 3 [x9, x7, x8] S4 w4 H4.out.hp).mono ?_
  rintro e w5 ⟨b, rfl, hI, hb, hbl⟩
  have HI := Lib.hid hI
  have H5 := Lib.hid (H4.out.no hb)
  have HNS : Hid (¬ S4 b) := fun h => by have := H4.out.hp.lt b h; omega
  clear hI hb hbl H4
  go_wp2_with fail
  refine (push_any _ 5 3 [x9, x7, x8] S4 w5 7 1 (inR_small (by omega)) H5.out.hp (by omega)).mono ?_
  rintro e w6 ⟨rfl, hm⟩
  obtain ⟨S6, h6, hb6, hs6⟩ := H5.out.step hm
  have H6 : Hid (Hw w w6 S6 (w.heap.size + 1) 5 3 [x9, x7, x8]) := h6
  have HI6 := Lib.hid (HI.out.but hb6 HNS.out)
  have HN6 : Hid (¬ S6 b) := fun h => (hs6 b h).elim HNS.out (fun h' => by have := HI.out.lt; omega)
  clear hm h6 hb6 hs6 H5 HI HNS
  go_wp2_with fail
  refine (change_any _ 5 3 [x9, x7, x8] S6 w6 7 5 (inR_small (by omega)) H6.out.hp (by omega)).mono ?_
  rintro e w7 ⟨rfl, hm⟩
  obtain ⟨S7, h7, hb7, hs7⟩ := H6.out.step hm
  have H7 : Hid (Hw w w7 S7 (w.heap.size + 1) 5 4 [x9, x8, y7]) := h7
  have HI7 := Lib.hid (HI6.out.but hb7 HN6.out)
  have HN7 : Hid (¬ S7 b) := fun h => (hs7 b h).elim HN6.out (fun h' => by have := HI6.out.lt; omega)
  clear hm h7 hb7 hs7 H6 HI6 HN6
  go_wp2_with fail
  refine (remove_any _ 5 4 [x9, x8, y7] S7 w7 9 (inR_small (by omega)) H7.out.hp).mono ?_
  rintro e w8 ⟨rfl, hm⟩
  obtain ⟨S8, h8, hb8, hs8⟩ := H7.out.step hm
  have H8 : Hid (Hw w w8 S8 (w.heap.size + 1) 5 4 [x8, y7]) := h8
  have HI8 := Lib.hid (HI7.out.but hb8 HN7.out)
  have HN8 : Hid (¬ S8 b) := fun h => (hs8 b h).elim HN7.out (fun h' => by have := HI7.out.lt; omega)
  clear hm h8 hb8 hs8 H7 HI7 HN7
  go_wp2_with fail
  refine (pop_any _ 5 4 [x8, y7] S8 w8 H8.out.hp).mono ?_
  rintro e w9 ⟨rfl, hm⟩
  obtain ⟨S9, h9, hb9, hs9⟩ := H8.out.step hm
  have H9 := Lib.hid h9
  have HI9 := Lib.hid (HI8.out.but hb9 HN8.out)
  clear hm h9 hb9 hs9 H8 HI8 HN8
  have a0 : w9.cell? ⟨b, 0, none⟩ = some (.int .i64 9) := HI9.out.cell (k := 0) (by decide)
  have a1 : w9.cell? ⟨b, 1, none⟩ = some (.int .i64 7) := HI9.out.cell (k := 1) (by decide)
  have a2 : w9.cell? ⟨b, 2, none⟩ = some (.int .i64 8) := HI9.out.cell (k := 2) (by decide)
  have v1 : pushE 5 [x9, x7, x8] 7 = 4 := by decide
  have v2 : chE [x9, x7, x8] 7 = 0 := by decide
  have v3 : fst1 [x8, y7] = 8 := rfl
  have v4 : fst2 [x8, y7] = 5 := rfl
  have v5 : fst3 [x8, y7] = true := rfl
  go_wp2
  go_ret
  exact ⟨rfl, H9.out.but⟩
end Go.Proofs.Ytlnoelahlbbgkaa
