/- A list of timers that the law made; slices beside it; the chapter's examples. -/
import Derived.Test.YtfejnokljddomaaX
namespace Go.Proofs.Ytfejnokljddomaa
open Go.ChangeShapes Go.WideShapes Go.ChangeAt Go.RowKit Go.Deep
/-- A list that the law made: all that was there at w0 is as it was. -/
structure Hw (w0 w : World) (S : Nat → Prop) (p : Nat) (R : Int) (L : List Tm) : Prop where
  dp : DP w S p R L
  but : But No w0 w
  new : ∀ k, S k → w0.heap.size ≤ k
theorem Hw.step {w0 w w' : World} {S : Nat → Prop} {p : Nat} {R : Int} {L L' : List Tm} (h : Hw w0 w S p R L) (hm : Mv w S p R L' w') : ∃ S', Hw w0 w' S' p R L' ∧ But S w w' ∧ ∀ k, S' k → S k ∨ w.heap.size ≤ k := by
  obtain ⟨S', h1, h2, h3⟩ := hm
  refine ⟨S', ⟨h1, h.but.andThen h2 (fun k hk => .inr (h.new k hk)), fun k hk => ?_⟩, h2, h3⟩
  rcases h3 k hk with e | e
  · exact h.new k e
  · have := h.but.size; omega
theorem Hw.same {w0 w w' : World} {S : Nat → Prop} {p : Nat} {R : Int} {L L' : List Tm} (h : Hw w0 w S p R L) (hd : DP w' S p R L') (hb : But S w w') : Hw w0 w' S p R L' :=
  ⟨hd, h.but.andThen hb (fun k hk => .inr (h.new k hk)), h.new⟩
theorem Hw.no {w0 w w' : World} {S : Nat → Prop} {p : Nat} {R : Int} {L : List Tm} (h : Hw w0 w S p R L) (hb : But No w w') : Hw w0 w' S p R L := ⟨h.dp.no hb, h.but.trans hb, h.new⟩
/-- A slice beside the blocks of S. -/
def Sd (w : World) (S : Nat → Prop) (v : Value) (zs : List Int) : Prop := Ov w v zs ∧ ∀ k, v.ownBlock = some k → ¬ S k
theorem Ov.lt {w : World} {v : Value} {zs : List Int} (h : Ov w v zs) : ∀ k, v.ownBlock = some k → k < w.heap.size := fun k e => (World.ownsRow.lt h k e).2
theorem Sd.step {w w' : World} {S S' : Nat → Prop} {v : Value} {zs : List Int} (h : Sd w S v zs) (hb : But S w w') (hs : ∀ k, S' k → S k ∨ w.heap.size ≤ k) : Sd w' S' v zs :=
  ⟨h.1.but hb h.2, fun k e hk => by
    rcases hs k hk with h1 | h1
    · exact h.2 k e h1
    · have := h.1.lt k e; omega⟩
theorem Sd.same {w w' : World} {S : Nat → Prop} {v : Value} {zs : List Int} (h : Sd w S v zs) (hb : But S w w') : Sd w' S v zs := h.step hb (fun _ h => .inl h)
theorem ExEnd.sd {w w' : World} {S : Nat → Prop} {p : Nat} {R n : Int} {L : List Tm} {v : Value} (d : DP w S p R L) (h : ExEnd w S p R n L v w') : Sd w' S v (out n L) :=
  ⟨h.1, fun k e hk => by have h1 := h.2.2.2 k e; have := d.lt k hk; omega⟩
theorem Hw.exp {w0 w w' : World} {S : Nat → Prop} {p : Nat} {R n : Int} {L : List Tm} {v : Value} (h : Hw w0 w S p R L) (e : ExEnd w S p R n L v w') : Hw w0 w' S p R (rst n L) := h.same e.2.1 e.2.2.1
theorem Ov.form {w : World} {v : Value} {z : Int} {zs : List Int} (h : Ov w v (z :: zs)) : ∃ g c, v = .slice (some ⟨g, 0, none⟩) (zs.length + 1) c ∧ ∀ k, k < zs.length + 1 → w.cell? ⟨g, k, none⟩ = some (.int .i64 ((z :: zs).getD k 0)) := by
  obtain ⟨h1, h2⟩ := h
  rcases h2 with ⟨_, e⟩ | ⟨g, cap, cur, hv, _, hh, hc, _, hs, ht⟩
  · simp at e
  · refine ⟨g, cap, hv, fun k hk => ?_⟩
    refine Blk.cell hh ?_
    have e : (cur.toList.take ((z :: zs).length * 1))[k]? = some (.int .i64 ((z :: zs).getD k 0)) := by
      have hk' : k < (z :: zs).length := hk
      rw [ht, List.getElem?_map, List.getElem?_eq_getElem hk']
      simp [List.getD, List.getElem?_eq_getElem hk']
    rw [List.getElem?_take, if_pos (by simp; omega)] at e
    simpa using e
def t72 : Tm := ⟨7, 2⟩
def t81 : Tm := ⟨8, 1⟩
def t92 : Tm := ⟨9, 2⟩
def t71 : Tm := ⟨7, 1⟩
def t91 : Tm := ⟨9, 1⟩
def t73 : Tm := ⟨7, 3⟩
set_option maxHeartbeats 4000000 in
set_option maxRecDepth 100000 in
theorem examples_any (w : World) : Calls Try.prog 7 #[] w fun r w' => r = .returned (.bool true) ∧ But No w w' := by
  go_enter Try.func7, Try.ntmps7
  go_wp2_with fail
  refine (new_ok 5 w (by omega) (by omega)).mono ?_
  rintro e w1 ⟨p, rfl, S1, h1, b1, s1⟩
  have H1 : Hid (Hw w w1 S1 p 5 []) := ⟨h1, b1, s1⟩
  clear h1 b1 s1
  go_wp2_with fail
  refine (new_bad 257 w1 (by omega)).mono ?_
  rintro e w2 ⟨rfl, rfl⟩
  go_wp2_with fail
  refine (add_any p 5 [] S1 w1 7 2 H1.out.dp).mono ?_
  rintro e w2 ⟨rfl, hm⟩
  obtain ⟨S2, h2, b2, n2⟩ := H1.out.step hm
  have H2 : Hid (Hw w w2 S2 p 5 [t72]) := h2
  clear hm H1 h2 b2 n2
  go_wp2_with fail
  refine (add_any p 5 [t72] S2 w2 8 1 H2.out.dp).mono ?_
  rintro e w3 ⟨rfl, hm⟩
  obtain ⟨S3, h3, b3, n3⟩ := H2.out.step hm
  have H3 : Hid (Hw w w3 S3 p 5 [t81, t72]) := h3
  clear hm H2 h3 b3 n3
  go_wp2_with fail
  refine (add_any p 5 [t81, t72] S3 w3 9 2 H3.out.dp).mono ?_
  rintro e w4 ⟨rfl, hm⟩
  obtain ⟨S4, h4, b4, n4⟩ := H3.out.step hm
  have H4 : Hid (Hw w w4 S4 p 5 [t81, t72, t92]) := h4
  clear hm H3 h4 b4 n4
  go_wp2_with fail
  refine (tick_any p 5 [t81, t72, t92] S4 w4 H4.out.dp).mono ?_
  rintro e w5 ⟨va, rfl, hx⟩
  have H5 : Hid (Hw w w5 S4 p 5 [t71, t91]) := H4.out.exp hx
  have A5 : Hid (Sd w5 S4 va [8]) := hx.sd H4.out.dp
  clear hx H4
  go_wp2_with fail
  refine (tick_any p 5 [t71, t91] S4 w5 H5.out.dp).mono ?_
  rintro e w6 ⟨vb, rfl, hx⟩
  have H6 : Hid (Hw w w6 S4 p 5 []) := H5.out.exp hx
  have B6 : Hid (Sd w6 S4 vb [7, 9]) := hx.sd H5.out.dp
  have A6 : Hid (Sd w6 S4 va [8]) := A5.out.same hx.2.2.1
  clear hx H5 A5
  go_wp2_with fail
  refine (add_any p 5 [] S4 w6 7 3 H6.out.dp).mono ?_
  rintro e w7 ⟨rfl, hm⟩
  obtain ⟨S7, h7, b7, n7⟩ := H6.out.step hm
  have H7 : Hid (Hw w w7 S7 p 5 [t73]) := h7
  have B7 : Hid (Sd w7 S7 vb [7, 9]) := B6.out.step b7 n7
  have A7 : Hid (Sd w7 S7 va [8]) := A6.out.step b7 n7
  clear hm H6 A6 B6 h7 b7 n7
  go_wp2_with fail
  refine (skip_any p 5 [t73] S7 w7 5 H7.out.dp (by omega)).mono ?_
  rintro e w8 ⟨vc, rfl, hx⟩
  have H8 : Hid (Hw w w8 S7 p 5 []) := H7.out.exp hx
  have C8 : Hid (Sd w8 S7 vc [7]) := hx.sd H7.out.dp
  have B8 : Hid (Sd w8 S7 vb [7, 9]) := B7.out.same hx.2.2.1
  have A8 : Hid (Sd w8 S7 va [8]) := A7.out.same hx.2.2.1
  clear hx H7 A7 B7
  obtain ⟨ga, ca, rfl, ka⟩ := Ov.form A8.out.1
  obtain ⟨gb, cb, rfl, kb⟩ := Ov.form B8.out.1
  obtain ⟨gc, cc, rfl, kc⟩ := Ov.form C8.out.1
  have a0 : w8.cell? ⟨ga, 0, none⟩ = some (.int .i64 8) := ka 0 (by decide)
  have b0 : w8.cell? ⟨gb, 0, none⟩ = some (.int .i64 7) := kb 0 (by decide)
  have b1 : w8.cell? ⟨gb, 1, none⟩ = some (.int .i64 9) := kb 1 (by decide)
  have c0 : w8.cell? ⟨gc, 0, none⟩ = some (.int .i64 7) := kc 0 (by decide)
  have CL : Hid (Calls Try.prog 21 #[.pointer (some ⟨p, 0, none⟩), .int .i64 7] w8 fun r w' => r = .returned (.int .i64 0) ∧ w' = w8) := left_any p 5 [] S7 w8 7 H8.out.dp
  have CA : Hid (Calls Try.prog 11 #[.pointer (some ⟨p, 0, none⟩), .int .i64 7, .int .i64 0] w8 fun r w' => r = .returned (.int .i64 1) ∧ w' = w8) := add_arg p 5 [] S7 w8 7 0 H8.out.dp (by omega)
  clear ka kb kc A8 B8 C8
  go_wp2_with (first | (go_at_call 21; refine CL.out.mono ?_; rintro e w9 ⟨rfl, rfl⟩) | (go_at_call 11; refine CA.out.mono ?_; rintro e w10 ⟨rfl, rfl⟩))
  go_ret
  exact ⟨rfl, H8.out.but⟩
end Go.Proofs.Ytfejnokljddomaa
