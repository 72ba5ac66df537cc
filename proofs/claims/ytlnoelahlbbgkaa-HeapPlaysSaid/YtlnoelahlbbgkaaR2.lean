/- Contracts of the document's own heap: New, Push, Pop, First, Key, Change, Remove; and of ids. -/
import Derived.Test.YtlnoelahlbbgkaaR1
import Derived.Test.YtlnoelahlbbgkaaHeapKeepsW
namespace Go.Proofs.Ytlnoelahlbbgkaa
open Go.ChangeShapes Go.WideShapes Go.ChangeAt Go.RowKit
def RNew (w : World) (R : Int) (w' : World) : Prop := ∃ S, RF w' S w.heap.size R [] ∧ But No w w' ∧ ∀ k, S k → w.heap.size ≤ k
theorem rnew_ok (R : Int) (w : World) (h0 : 0 ≤ R) (h1 : R ≤ 256) :
    Calls Try.prog 11 #[.int .i64 R] w fun r w' => r = .returned (.pointer (some ⟨w.heap.size, 0, none⟩)) ∧ RNew w R w' := by
  have b1 : decide (R < 0) = false := by simp; omega
  have b2 : decide ((256 : Int) < R) = false := by simp; omega
  go_enter Try.func11, Try.ntmps11
  go_wp2
  go_ret
  refine ⟨rfl, fun k => k = w.heap.size ∨ (Value.slice none 0 0).ownBlock = some k, ⟨⟨.slice none 0 0, Blk.new w _ _, World.ownsRow_nil _ _ _ _, by simp [Value.ownBlock], fun _ => Iff.rfl⟩, by simp⟩, (But.refl No w).alloc _, ?_⟩
  rintro k (rfl | e)
  · omega
  · simp [Value.ownBlock] at e
theorem rnew_bad (R : Int) (w : World) (h : R < 0 ∨ 256 < R) :
    Calls Try.prog 11 #[.int .i64 R] w fun r w' => r = .returned (.pointer none) ∧ w = w' := by
  rcases h with h | h
  · have b1 : decide (R < 0) = true := by simp; omega
    go_enter Try.func11, Try.ntmps11
    go_wp2
    go_ret
    exact ⟨rfl, rfl⟩
  · have b1 : decide (R < 0) = false := by simp; omega
    have b2 : decide ((256 : Int) < R) = true := by simp; omega
    go_enter Try.func11, Try.ntmps11
    go_wp2
    go_ret
    exact ⟨rfl, rfl⟩
theorem RF.head {w : World} {S : Nat → Prop} {x : Nat} {R : Int} {L : List It} (h : RF w S x R L) : ∃ A c, w.cell? ⟨x, 0, none⟩ = some (.int .i64 R) ∧ w.cell? ⟨x, 1, none⟩ = some (.slice A L.length c) ∧ Oi w (.slice A L.length c) L := by
  obtain ⟨v, h1, h2, h3, h4⟩ := h.ex
  obtain ⟨A, c, rfl, hc⟩ := h2.slice
  exact ⟨A, c, h1.cell (o := 0) rfl, h1.cell (o := 1) rfl, h2⟩
set_option maxHeartbeats 1000000 in
theorem rfirst_any (x : Nat) (R : Int) (L : List It) (S : Nat → Prop) (w : World) (h : RF w S x R L) :
    Calls Try.prog 27 #[.pointer (some ⟨x, 0, none⟩)] w fun r w' => r = .returned (.tuple #[.int .i64 (fst1 L), .int .i64 (fst2 L), .bool (fst3 L)]) ∧ But No w w' := by
  have hl := h.len
  obtain ⟨A, c, c0, c1, ho⟩ := h.head
  cases L with
  | nil =>
    simp only [List.length_nil] at c1
    clear h ho hl
    simp only [fst1, fst2, fst3]
    go_enter Try.func27, Try.ntmps27
    go_wp2
    go_ret3
    exact ⟨rfl, But.refl _ _⟩
  | cons y t =>
    obtain ⟨q, hA, hq, d0, d1⟩ := ho.cells (k := 0) (by simp)
    subst hA
    simp only [Nat.zero_mul, Nat.zero_add, List.getD_cons_zero] at d0 d1
    generalize hn : (y :: t).length = n at c1 hl
    have n1 : (0 : Int) < (n : Int) := by have : 0 < n := by rw [← hn]; simp
                                          omega
    have n2 : ((n : Int) == 0) = false := by simp; omega
    obtain ⟨ya, yb, yc⟩ := y
    simp only [fst1, fst2, fst3]
    dsimp only at d0 d1
    clear h ho hn
    go_enter Try.func27, Try.ntmps27
    go_wp2_with fail
    go_quiet (fail)
    go_wp2
    go_ret3
    exact ⟨rfl, (But.refl No w).drewN _⟩
set_option maxHeartbeats 1000000 in
theorem rpop_any (x : Nat) (R : Int) (L : List It) (S : Nat → Prop) (w : World) (h : RF w S x R L) :
    Calls Try.prog 16 #[.pointer (some ⟨x, 0, none⟩)] w fun r w' => r = .returned (.tuple #[.int .i64 (fst1 L), .int .i64 (fst2 L), .bool (fst3 L)]) ∧ Rm w S x R L.tail w' := by
  have hl := h.len
  have H := Lib.hid h
  obtain ⟨A, c, c0, c1, ho⟩ := h.head
  cases L with
  | nil =>
    simp only [List.length_nil] at c1
    clear h ho hl
    simp only [fst1, fst2, fst3, List.tail]
    go_enter Try.func16, Try.ntmps16
    go_wp2
    go_ret3
    exact ⟨rfl, H.out.stay (But.refl _ _)⟩
  | cons y t =>
    obtain ⟨q, hA, hq, d0, d1⟩ := ho.cells (k := 0) (by simp)
    subst hA
    simp only [Nat.zero_mul, Nat.zero_add, List.getD_cons_zero] at d0 d1
    have HO : Hid (∀ w', But No w w' → Calls Try.prog 34 #[.pointer (some ⟨x, 0, none⟩), .int .i64 0] w' fun r w'' => r = .returned (.tuple #[]) ∧ Rm w' S x R t w'') := by
      intro w' hb
      have := off_any x R (y :: t) S w' 0 (H.out.but hb (fun _ _ f => f)) (by simp)
      simpa using this
    generalize hn : (y :: t).length = n at c1 hl
    have n1 : (0 : Int) < (n : Int) := by have : 0 < n := by rw [← hn]; simp
                                          omega
    have n2 : ((n : Int) == 0) = false := by simp; omega
    obtain ⟨ya, yb, yc⟩ := y
    simp only [fst1, fst2, fst3, List.tail]
    dsimp only at d0 d1
    clear h ho hn
    have HNS : Hid (¬ S w.heap.size) := fun hk => by have := H.out.lt _ hk; omega
    go_enter Try.func16, Try.ntmps16
    go_wp2_with (go_at_call 34; refine (HO.out _ ((But.refl No w).alloc (.cells #[.int .i64 ya, .int .i64 yb] 63))).mono ?_; rintro e w2 ⟨rfl, hm⟩; obtain ⟨S2, hr2, hb2, hs2⟩ := hm; have HB := (Blk.new w #[.int .i64 ya, .int .i64 yb] 63).but hb2 HNS.out; have e0 : w2.cell? ⟨w.heap.size, 0, none⟩ = some (.int .i64 ya) := HB.cell (o := 0) rfl; have e1 : w2.cell? ⟨w.heap.size, 1, none⟩ = some (.int .i64 yb) := HB.cell (o := 1) rfl; have HR2 := Lib.hid hr2; have HB2 := Lib.hid hb2; have HS2 := Lib.hid hs2; clear hr2 hb2 hs2 HB)
    go_quiet (fail)
    go_wp2
    go_ret3
    refine ⟨rfl, S2, HR2.out.but (S' := No) ((But.refl No w2).drewN _) (fun _ _ f => f), ((But.refl S w).alloc _).trans (HB2.out.drewN _), fun k hk => (HS2.out k hk).imp id (fun h => ?_)⟩
    have : (w.alloc (.cells #[.int .i64 ya, .int .i64 yb] 63)).heap.size = w.heap.size + 1 := by simp
    omega
theorem getD_mem {L : List It} {k : Nat} (hk : k < L.length) : L.getD k it0 ∈ L := by
  have : L.getD k it0 = L[k] := by simp [List.getD, List.getElem?_eq_getElem hk]
  rw [this]; exact List.getElem_mem hk
set_option maxHeartbeats 1000000 in
theorem rkey_any (x : Nat) (R : Int) (L : List It) (S : Nat → Prop) (w : World) (a : Int) (h : RF w S x R L) (hnd : L.Pairwise (fun a b => a.id ≠ b.id)) :
    Calls Try.prog 22 #[.pointer (some ⟨x, 0, none⟩), .int .i64 a] w fun r w' => r = .returned (.tuple #[.int .i64 (keyV L a), .bool (hasI a L)]) ∧ But No w w' := by
  have hl := h.len
  cases hh : hasI a L with
  | false =>
    have C := Lib.hid (at_out x R L S w a h (hasI_false hh))
    rw [keyV_not (hasI_false hh)]
    clear h hnd hh
    go_enter Try.func22, Try.ntmps22
    go_wp2_with (go_at_call 31; refine C.out.mono ?_; rintro e w2 ⟨rfl, rfl⟩)
    go_ret2
    exact ⟨rfl, But.refl _ _⟩
  | true =>
    obtain ⟨k, hk, hid, hno, _⟩ := first_idx hh
    have C := Lib.hid (at_in x R L S w a k h hk hid hno)
    have hkey : keyV L a = (L.getD k it0).key := by rw [← hid]; exact keyV_of hnd (getD_mem hk)
    obtain ⟨A, c, c0, c1, ho⟩ := h.head
    obtain ⟨q, hA, hq, d0, d1⟩ := ho.cells hk
    subst hA
    rw [hkey]
    generalize (L.getD k it0).key = zk at d1
    generalize hn : L.length = n at c1 hl hk
    have kn : (k : Int) < (n : Int) := by omega
    have k0 : (0 : Int) ≤ (k : Int) := by omega
    have b1 : decide ((k : Int) < 0) = false := by simp
    clear h hnd hh hkey ho d0 hid hno hn
    go_enter Try.func22, Try.ntmps22
    go_wp2_with (go_at_call 31; refine C.out.mono ?_; rintro e w2 ⟨rfl, rfl⟩)
    go_ret2
    exact ⟨rfl, But.refl _ _⟩
set_option maxHeartbeats 1000000 in
theorem rremove_any (x : Nat) (R : Int) (L : List It) (S : Nat → Prop) (w : World) (a : Int) (h : RF w S x R L) :
    Calls Try.prog 20 #[.pointer (some ⟨x, 0, none⟩), .int .i64 a] w fun r w' => r = .returned (.int .i64 (chE L a)) ∧ Rm w S x R (rmv a L) w' := by
  have hl := h.len
  have H := Lib.hid h
  cases hh : hasI a L with
  | false =>
    have C := Lib.hid (at_out x R L S w a h (hasI_false hh))
    have e1 : chE L a = 5 := by unfold chE; rw [hh]; rfl
    rw [e1, rmv_not (hasI_false hh)]
    clear h hh e1
    go_enter Try.func20, Try.ntmps20
    go_wp2_with (go_at_call 31; refine C.out.mono ?_; rintro e w2 ⟨rfl, rfl⟩)
    go_ret
    exact ⟨rfl, H.out.stay (But.refl _ _)⟩
  | true =>
    obtain ⟨k, hk, hid, hno, hr⟩ := first_idx hh
    have C := Lib.hid (at_in x R L S w a k h hk hid hno)
    have e1 : chE L a = 0 := by unfold chE; rw [hh]; rfl
    have CO := Lib.hid (off_any x R L S w k h hk)
    rw [← hr] at CO
    rw [e1]
    have k0 : (0 : Int) ≤ (k : Int) := by omega
    have b1 : decide ((k : Int) < 0) = false := by simp
    clear h hh e1 hid hno hr
    go_enter Try.func20, Try.ntmps20
    go_wp2_with (first | (go_at_call 31; refine C.out.mono ?_; rintro e w2 ⟨rfl, rfl⟩) | (go_at_call 34; refine CO.out.mono ?_; rintro e w3 ⟨rfl, hm⟩; have HM := Lib.hid hm; clear hm))
    go_ret
    exact ⟨rfl, HM.out⟩
set_option maxHeartbeats 1000000 in
theorem rchange_any (x : Nat) (R T : Int) (L : List It) (S : Nat → Prop) (w : World) (a b : Int) (h : RF w S x R L) :
    Calls Try.prog 18 #[.pointer (some ⟨x, 0, none⟩), .int .i64 a, .int .i64 b] w fun r w' => r = .returned (.int .i64 (chE L a)) ∧ Rm w S x R (chL T L a b) w' := by
  have hl := h.len
  have H := Lib.hid h
  cases hh : hasI a L with
  | false =>
    have C := Lib.hid (at_out x R L S w a h (hasI_false hh))
    have e1 : chE L a = 5 := by unfold chE; rw [hh]; rfl
    have e2 : chL T L a b = L := by unfold chL; rw [hh]; rfl
    rw [e1, e2]
    clear h hh e1 e2
    go_enter Try.func18, Try.ntmps18
    go_wp2_with (go_at_call 31; refine C.out.mono ?_; rintro e w2 ⟨rfl, rfl⟩)
    go_ret
    exact ⟨rfl, H.out.stay (But.refl _ _)⟩
  | true =>
    obtain ⟨k, hk, hid, hno, hr⟩ := first_idx hh
    have C := Lib.hid (at_in x R L S w a k h hk hid hno)
    have e1 : chE L a = 0 := by unfold chE; rw [hh]; rfl
    have e2 : chL T L a b = ins ⟨a, b, T + 1⟩ (rmv a L) := by unfold chL; rw [hh]; rfl
    have CO := Lib.hid (off_any x R L S w k h hk)
    rw [← hr] at CO
    have hlr := length_rmv (hasI_true hh)
    have CPT : Hid (∀ w' S', RF w' S' x R (rmv a L) → Calls Try.prog 32 #[.pointer (some ⟨x, 0, none⟩), .agg #[.int .i64 a, .int .i64 b]] w' fun r w'' => r = .returned (.tuple #[]) ∧ Rm w' S' x R (ins ⟨a, b, T + 1⟩ (rmv a L)) w'') := fun w' S' h' => put_any x R (rmv a L) S' w' ⟨a, b, T + 1⟩ h' (by omega)
    rw [e1, e2]
    have k0 : (0 : Int) ≤ (k : Int) := by omega
    have b1 : decide ((k : Int) < 0) = false := by simp
    clear h hh e1 e2 hid hno hr hlr
    go_enter Try.func18, Try.ntmps18
    go_wp2_with (first | (go_at_call 31; refine C.out.mono ?_; rintro e w2 ⟨rfl, rfl⟩) | (go_at_call 34; refine CO.out.mono ?_; rintro e w3 ⟨rfl, hm⟩; obtain ⟨S3, h3, b3, s3⟩ := hm; have H3 := Lib.hid h3; have B3 := Lib.hid b3; have S3' := Lib.hid s3; clear h3 b3 s3) | (go_at_call 32; refine (CPT.out _ _ H3.out).mono ?_; rintro e w4 ⟨rfl, hm⟩; have HM := Lib.hid hm; clear hm))
    go_ret
    refine ⟨rfl, Rm.trans (L := rmv a L) ⟨S3, H3.out, B3.out, S3'.out⟩ (fun S' h' => ?_)⟩
    obtain ⟨S4, q1, q2, q3⟩ := HM.out
    have hSS : ∀ k, S' k ↔ S3 k := by
      obtain ⟨v, g1, g2, g3, g4⟩ := H3.out.ex
      obtain ⟨v', g1', g2', g3', g4'⟩ := h'.ex
      have : v = v' := by
        unfold Blk at g1 g1'
        rw [g1] at g1'; simpa using g1'
      subst this
      exact fun k => (g4' k).trans (g4 k).symm
    exact ⟨S4, q1, q2.mono (fun k _ hk => (hSS k).2 hk), fun k hk => (q3 k hk).imp (fun h => (hSS k).2 h) id⟩
set_option maxHeartbeats 1000000 in
theorem rpush_any (x : Nat) (R T : Int) (L : List It) (S : Nat → Prop) (w : World) (a b : Int) (h : RF w S x R L) (hR : R ≤ 256) :
    Calls Try.prog 14 #[.pointer (some ⟨x, 0, none⟩), .int .i64 a, .int .i64 b] w fun r w' => r = .returned (.int .i64 (pushE R L a)) ∧ Rm w S x R (pushL R T L a b) w' := by
  have hl := h.len
  have H := Lib.hid h
  by_cases h0 : a < 0
  · have e : pushE R L a = 1 := by unfold pushE; rw [if_pos h0]
    have e1 : pushL R T L a b = L := by unfold pushL; rw [e]; rfl
    rw [e, e1]
    have b1 : decide (a < 0) = true := by simpa using h0
    clear h e e1
    go_enter Try.func14, Try.ntmps14
    go_wp2
    go_ret
    exact ⟨rfl, H.out.stay (But.refl _ _)⟩
  · have b1 : decide (a < 0) = false := by simpa using h0
    cases hh : hasI a L with
    | true =>
      have e := (heapRoom.pushE_of (R := R) (L := L) (a := a) (by omega)).1 hh
      have e1 : pushL R T L a b = L := by unfold pushL; rw [e]; rfl
      rw [e, e1]
      obtain ⟨k, hk, hid, hno, hr⟩ := first_idx hh
      have C := Lib.hid (at_in x R L S w a k h hk hid hno)
      have k0 : (0 : Int) ≤ (k : Int) := by omega
      have b2 : decide ((0 : Int) ≤ (k : Int)) = true := by simp
      clear h hh e e1 hid hno hr
      go_enter Try.func14, Try.ntmps14
      go_wp2_with (go_at_call 31; refine C.out.mono ?_; rintro e w2 ⟨rfl, rfl⟩)
      go_ret
      exact ⟨rfl, H.out.stay (But.refl _ _)⟩
    | false =>
      have C := Lib.hid (at_out x R L S w a h (hasI_false hh))
      obtain ⟨A, c, c0, c1, ho⟩ := h.head
      by_cases hf : R ≤ L.length
      · have e := (heapRoom.pushE_of (R := R) (L := L) (a := a) (by omega)).2.1 hh hf
        have e1 : pushL R T L a b = L := by unfold pushL; rw [e]; rfl
        rw [e, e1]
        generalize L.length = n at c1 hl hf
        have b3 : decide (R ≤ (n : Int)) = true := by simpa using hf
        clear h hh e e1 ho
        go_enter Try.func14, Try.ntmps14
        go_wp2_with (go_at_call 31; refine C.out.mono ?_; rintro e w2 ⟨rfl, rfl⟩)
        go_quiet (fail)
        go_wp2
        go_ret
        exact ⟨rfl, H.out.stay ((But.refl No w).drewN _)⟩
      · have e := (heapRoom.pushE_of (R := R) (L := L) (a := a) (by omega)).2.2 hh (by omega)
        have e1 : pushL R T L a b = ins ⟨a, b, T + 1⟩ L := by unfold pushL; rw [if_pos e]
        rw [e, e1]
        have CPT : Hid (∀ w', But No w w' → Calls Try.prog 32 #[.pointer (some ⟨x, 0, none⟩), .agg #[.int .i64 a, .int .i64 b]] w' fun r w'' => r = .returned (.tuple #[]) ∧ Rm w' S x R (ins ⟨a, b, T + 1⟩ L) w'') := fun w' hb => put_any x R L S w' ⟨a, b, T + 1⟩ (H.out.but hb (fun _ _ f => f)) (by omega)
        generalize L.length = n at c1 hl hf
        have b3 : decide (R ≤ (n : Int)) = false := by simpa using hf
        clear h hh e e1 ho
        go_enter Try.func14, Try.ntmps14
        go_wp2_with (go_at_call 31; refine C.out.mono ?_; rintro e w2 ⟨rfl, rfl⟩)
        go_quiet (fail)
        go_wp2_with (go_at_call 32; refine (CPT.out _ ((But.refl No w).drewN _)).mono ?_; rintro e w4 ⟨rfl, hm⟩; have HM := Lib.hid hm; clear hm)
        go_ret
        obtain ⟨S4, q1, q2, q3⟩ := HM.out
        exact ⟨rfl, S4, q1, ((But.refl S w).drewN _).trans q2, q3⟩
def IdsEnd (w : World) (L : List It) (e : Ending) (w' : World) : Prop :=
  ∃ A c, e = .returned (.slice A L.length c) ∧ Ov w' (.slice A L.length c) (L.map It.id) ∧ But No w w'
set_option maxHeartbeats 4000000 in
set_option maxRecDepth 100000 in
theorem ids_any (x : Nat) (R : Int) (L : List It) (S : Nat → Prop) (w : World) (h : RF w S x R L) :
    Calls Try.prog 25 #[.pointer (some ⟨x, 0, none⟩)] w (IdsEnd w L) := by
  have hl := h.len
  have H := Lib.hid h
  obtain ⟨i0, hi0, hz0, hz1, hz2⟩ := info_parts info3
  have I0 : Hid (Try.prog.info? 3 = some i0 ∧ i0.zero = some (.int .i64 0) ∧ i0.size = 1 ∧ i0.bytes = 8) := ⟨hi0, hz0, hz1, hz2⟩
  obtain ⟨A, c, c0, c1, ho⟩ := h.head
  have HO := Lib.hid ho
  obtain ⟨v, g1, g2, g3, g4⟩ := h.ex
  have CX : Hid (∀ w', But No w w' → w'.cell? ⟨x, 1, none⟩ = some (.slice A L.length c)) := fun w' hb => by rw [hb.cell g1.lt (fun f => f)]; exact c1
  clear hi0 hz0 hz1 hz2 h ho g1 g2 g3 g4
  obtain ⟨n, hn⟩ : ∃ n, n = L.length := ⟨_, rfl⟩
  have HN := Lib.hid hn
  rw [← hn] at c1 hl CX HO
  clear hn
  have H5 : Hid (Ov w (.slice none 0 0) ((L.map It.id).take 0)) := by show Ov _ _ _; simp; exact Ov.nil w
  go_enter Try.func25, Try.ntmps25
  go_wp2_with fail
  go_loopw [3, 4] (fun s t wx => ∃ (v : Value) (j : Nat), s = v ∧ t = .int .i64 j ∧ j ≤ n ∧ Hid (Ov wx v ((L.map It.id).take j)) ∧ Hid (But No w wx) ∧ Hid (∀ q, v.ownBlock = some q → w.heap.size ≤ q)) (fun _ t _ => n - (intOf t).toNat)
  case atStart => exact ⟨_, 0, rfl, rfl, by omega, H5, But.refl _ _, fun q e => by simp [Value.ownBlock] at e⟩
  case round =>
    obtain ⟨v, j, hsv, rfl, hj, hov, hb5, hown⟩ := hrel
    have hsv' := hsv.symm
    subst hsv'
    clear H5
    have hcx := CX.out _ hb5.out
    by_cases hjl : j < n
    · obtain ⟨q, hA, hq, d0, d1⟩ := (HO.out.but hb5.out (fun _ _ f => f)).cells (k := j) (by rw [← HN.out]; exact hjl)
      have HA := Lib.hid hA
      rw [hA] at hcx
      clear hA
      have jl' : (j : Int) < (n : Int) := by omega
      have hjm : j < (L.map It.id).length := by rw [List.length_map, ← HN.out]; exact hjl
      have HF : Hid ((L.map It.id).take (j + 1) = (L.map It.id).take j ++ [(L.getD j it0).id]) := by
        show _ = _
        rw [List.take_succ_eq_append_getElem hjm]
        congr 2
        have hj2 : j < L.length := by rw [← HN.out]; exact hjl
        simp [List.getD, List.getElem?_eq_getElem hj2]
      generalize (L.getD j it0).id = y at d0 HF
      obtain ⟨zsf, hzsf⟩ : ∃ l, l = (L.map It.id).take j := ⟨_, rfl⟩
      have hlz : zsf.length ≤ 256 := by rw [hzsf, List.length_take]; omega
      rw [← hzsf] at hov HF
      have ROW := Lib.hid (hov.out.but (S := No) ((But.refl No wr).alloc (.cells #[.int .i64 y] 3)) (fun _ _ f => f))
      clear hzsf
      go_wp2_with (at_builtin; refine wpList_append_lies _ rfl _ _ 40 rfl 0 3 i0 _ 1 8 Try.underlying40 I0.out.1 I0.out.2.1 I0.out.2.2.1 I0.out.2.2.2 rfl (by omega) _ zsf.length (zsf.map (Value.int .i64)) rfl ROW.out ⟨wr.heap.size, 0, none⟩ 1 1 [.int .i64 y] rfl rfl (one_news wr y) (by simp [Value.oneCell']) (by omega) (by unfold maxLen; omega) (by omega) (Nat.zero_le _) (wr.heap.size + 1) (by simp) ?_; intro g2 cap2 w6 hown6 hgrow6 hat6 hlt6)
      obtain ⟨o1, o2, o3⟩ := Ov.app hb5.out hown.out hown6 hgrow6 hat6
      have O1 := Lib.hid o1
      have O2 := Lib.hid o2
      have O3 := Lib.hid o3
      clear hown6 hgrow6 hat6 hlt6 o1 o2 o3 ROW
      go_wp2
      go_roundw
      case rel => exact ⟨_, j + 1, rfl, by go_num, by omega, by rw [HF.out]; exact O1, O2, O3⟩
      case measure => simp [intOf]; omega
    · obtain rfl : j = n := by omega
      have HE : Hid (IdsEnd w L (.returned v) wr) := by
        have h1 := hov.out
        rw [List.take_of_length_le (by rw [List.length_map, ← HN.out]; exact Nat.le_refl _)] at h1
        obtain ⟨A2, c2, hv, _⟩ := h1.slice
        rw [List.length_map] at hv
        subst hv
        exact ⟨A2, c2, rfl, h1, hb5.out⟩
      have jl' : decide ((j : Int) < (j : Int)) = false := by simp
      clear hov hown
      go_wp2
      go_ret
      exact HE.out
end Go.Proofs.Ytlnoelahlbbgkaa
