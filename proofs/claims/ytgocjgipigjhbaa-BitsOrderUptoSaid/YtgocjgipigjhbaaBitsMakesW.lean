/- Any levels make the set that the chapter says, or are refused: BitsMakes returns true. (The walk.) -/
import Derived.Test.YtgocjgipigjhbaaE
namespace Go.Proofs.Ytgocjgipigjhbaa.bitsMakes
open Go.ChangeShapes Go.WideShapes Go.ChangeAt Go.RowKit
attribute [local go_sem] eq_in23
theorem has_fold {zs : List Int} {j : Nat} (hj : j < 256) : ∀ (s : Q), lvs zs = true → (zs.foldl (fun s i => s.withI i) s).has j = (s.has j || inL zs j) := by
  induction zs with
  | nil => intro s _; simp [inL]
  | cons z zs ih =>
    intro s h
    unfold lvs at h
    rw [List.all_cons, Bool.and_eq_true] at h
    have hz := (isLv_iff z).1 h.1
    have e : s.withI z = s.with_ z.toNat := by unfold Q.withI; rw [if_pos hz]
    rw [List.foldl_cons, ih _ h.2, e, Q.has_with s (by omega) hj]
    have e2 : decide (j = z.toNat) = decide ((j : Int) = z) := by simp only [decide_eq_decide]; omega
    rw [e2]
    unfold inL
    by_cases c1 : (j : Int) = z <;> by_cases c2 : (j : Int) ∈ zs <;> simp [c1, c2]
theorem of_words {zs : List Int} (h : lvs zs = true) : wordsQ (inL zs) 256 = Q.of zs :=
  Q.ext_has (wordsQ_ok _ _) (Q.of_ok _) (fun j hj => by
    rw [wordsQ_has _ hj (Nat.le_refl _)]
    unfold Q.of
    rw [has_fold hj _ h, Q.has_zero]
    simp [hj])
set_option maxHeartbeats 4000000 in
set_option maxRecDepth 100000 in
theorem walk (A : Option Addr) (n c : Nat) (zs : List Int) (_ : n ≤ c) (w : World) (hz : Rd w A n zs) : Calls Try.prog 5 #[.slice A n c] w fun e w' => e = .returned (.bool true) ∧ But No w w' := by
  have HZ := Lib.hid hz
  clear hz
  have CE : Hid (∀ w, Calls Try.prog 10 #[] w fun e w' => e = .returned (.bool true) ∧ But No w w') := examples_any
  cases hl : lvs zs with
  | false =>
    have CO : Hid (∀ w', But No w w' → Calls Try.prog 21 #[.slice A n c] w' fun e w'' => e = .returned (.tuple #[.agg #[.int .u64 0, .int .u64 0, .int .u64 0, .int .u64 0], .int .i64 1]) ∧ But No w' w'') := fun w' hb => by
      have := of_any A n c zs w' (HZ.out.no hb)
      unfold ofAns ofErr at this
      rw [hl] at this
      exact this
    have CR : Hid (∀ w', But No w w' → Calls Try.prog 22 #[.slice A n c] w' fun e w'' => e = .returned (.tuple #[.slice none 0 0, .bool false]) ∧ But No w' w'') := fun w' hb => (rof_any A n c zs w' (HZ.out.no hb)).mono fun e w'' ⟨h1, h2⟩ => by
      rcases h2 with ⟨_, h2⟩ | ⟨h2, _⟩
      · exact ⟨h2, h1⟩
      · rw [hl] at h2; cases h2
    have he := eq4_self 0 0 0 0
    clear hl
    go_enter Try.func5, Try.ntmps5
    go_wp2_with (first
      | (go_at_call 10; (with_reducible refine (CE.out _).mono ?_); rintro e w1 ⟨rfl, hb1⟩; have HB1 := Lib.hid hb1; clear hb1)
      | (go_at_call 21; (with_reducible refine (CO.out _ HB1.out).mono ?_); rintro e w2 ⟨rfl, hb2⟩; have HB2 := Lib.hid (HB1.out.trans hb2); clear hb2; have HB2' := Lib.hid (HB2.out.alloc (.cells zeros4 26)))
      | (go_at_call 22; (with_reducible refine (CR.out _ HB2'.out).mono ?_); rintro e w3 ⟨rfl, hb3⟩; have HB3 := Lib.hid (HB2'.out.trans hb3); have HS3 := Lib.hid ((Blk.new w2 zeros4 26).but hb3 (fun f => f)); clear hb3; have c0 := HS3.out.cell (o := 0) rfl; have c1 := HS3.out.cell (o := 1) rfl; have c2 := HS3.out.cell (o := 2) rfl; have c3 := HS3.out.cell (o := 3) rfl))
    go_ret
    exact ⟨rfl, HB3.out⟩
  | true =>
    have CO : Hid (∀ w', But No w w' → Calls Try.prog 21 #[.slice A n c] w' fun e w'' => e = .returned (.tuple #[sv (Q.of zs), .int .i64 0]) ∧ But No w' w'') := fun w' hb => by
      have := of_any A n c zs w' (HZ.out.no hb)
      unfold ofAns ofErr at this
      rw [hl] at this
      exact this
    have CR : Hid (∀ w', But No w w' → Calls Try.prog 22 #[.slice A n c] w' fun e w'' => ∃ b, e = .returned (.tuple #[.slice (some ⟨b, 0, none⟩) 256 256, .bool true]) ∧ Bl w'' b (inL zs) ∧ But No w' w'') := fun w' hb => (rof_any A n c zs w' (HZ.out.no hb)).mono fun e w'' ⟨h1, h2⟩ => by
      rcases h2 with ⟨h2, _⟩ | ⟨_, b, h3, h4⟩
      · rw [hl] at h2; cases h2
      · exact ⟨b, h3, h4, h1⟩
    have CX : Hid (∀ w b, Bl w b (inL zs) → Calls Try.prog 20 #[.slice (some ⟨b, 0, none⟩) 256 256] w fun e w' => e = .returned (sv (Q.of zs)) ∧ But No w w') := fun w b h => by
      have := words_any b _ w h
      rw [of_words hl] at this
      exact this
    clear hl
    generalize Q.of zs = x at CO CX
    have he := eq4_self x.a x.b x.c x.d
    go_enter Try.func5, Try.ntmps5
    go_wp2_with (first
      | (go_at_call 10; (with_reducible refine (CE.out _).mono ?_); rintro e w1 ⟨rfl, hb1⟩; have HB1 := Lib.hid hb1; clear hb1)
      | (go_at_call 21; (with_reducible refine (CO.out _ HB1.out).mono ?_); rintro e w2 ⟨rfl, hb2⟩; have HB2 := Lib.hid (HB1.out.trans hb2); clear hb2; have HB2' := Lib.hid (HB2.out.alloc (.cells (cells4 x) 26)))
      | (go_at_call 22; (with_reducible refine (CR.out _ HB2'.out).mono ?_); rintro e w3 ⟨bl, rfl, hbl, hb3⟩; have HB3 := Lib.hid (HB2'.out.trans hb3); have HS3 := Lib.hid ((Blk.new w2 (cells4 x) 26).but hb3 (fun f => f)); have HL3 := Lib.hid hbl; clear hb3 hbl; have c0 := HS3.out.cell (o := 0) rfl; have c1 := HS3.out.cell (o := 1) rfl; have c2 := HS3.out.cell (o := 2) rfl; have c3 := HS3.out.cell (o := 3) rfl))
    have HLD : Hid (Bl w3.drew bl (inL zs)) := HL3.out
    have HSD : Hid (Blk w3.drew w2.heap.size (cells4 x) 26) := HS3.out
    go_region_held3 (fun w' => w'.cell? ⟨w2.heap.size, 0, none⟩ = some (.int .u64 x.a) ∧ w'.cell? ⟨w2.heap.size, 1, none⟩ = some (.int .u64 x.b) ∧ w'.cell? ⟨w2.heap.size, 2, none⟩ = some (.int .u64 x.c) ∧ w'.cell? ⟨w2.heap.size, 3, none⟩ = some (.int .u64 x.d) ∧ But No w w')
      (first | exact ⟨HSD.out.cell (o := 0) rfl, HSD.out.cell (o := 1) rfl, HSD.out.cell (o := 2) rfl, HSD.out.cell (o := 3) rfl, HB3.out.drew⟩ | exact ⟨(HSD.out.but hb4 (fun f => f)).cell (o := 0) rfl, (HSD.out.but hb4 (fun f => f)).cell (o := 1) rfl, (HSD.out.but hb4 (fun f => f)).cell (o := 2) rfl, (HSD.out.but hb4 (fun f => f)).cell (o := 3) rfl, HB3.out.drew.trans hb4⟩)
      (first | (go_at_call 20; ((with_reducible refine (CX.out _ _ HLD.out).mono ?_); rintro e w4 ⟨rfl, hb4⟩)))
    go_wp2
    go_ret
    exact ⟨rfl, HB3.out.drew.trans hb4⟩
end Go.Proofs.Ytgocjgipigjhbaa.bitsMakes
