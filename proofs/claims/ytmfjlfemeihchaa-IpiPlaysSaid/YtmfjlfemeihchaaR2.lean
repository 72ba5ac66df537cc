/- The document's own mailboxes: Send. -/
import Derived.Test.YtmfjlfemeihchaaR1
namespace Go.Proofs.Ytmfjlfemeihchaa
open Go.ChangeShapes Go.WideShapes Go.ChangeAt Go.RowKit Go.Deep
theorem rd_none {w w' : World} {S : Nat → Prop} {x : Nat} {C : Int} {T : Nat} {L : List Nt} {c t now l : Int} (h : RF w S x C L) (e : okS C L c t now = false) (hb : But No w w') : Rm w S x C (sent C T L c t now l) w' := by
  unfold sent
  rw [e]
  exact h.stay hb
set_option maxHeartbeats 1000000 in
theorem rsend_out (x : Nat) (C : Int) (T : Nat) (L : List Nt) (S : Nat → Prop) (w : World) (c t now l : Int) (h : RF w S x C L) (hn : ¬ inB C c t now) :
    Calls Try.prog 11 #[.pointer (some ⟨x, 0, none⟩), .int .i64 c, .int .i64 t, .int .i64 now, .int .i64 l] w fun r w' => r = .returned (.bool (okS C L c t now)) ∧ Rm w S x C (sent C T L c t now l) w' := by
  have HF : Hid (Rm w S x C (sent C T L c t now l) w) := rd_none h (okS_out hn) (But.refl _ _)
  rw [okS_out hn]
  have d0 : w.cell? ⟨x, 0, none⟩ = some (.int .i64 C) := by
    obtain ⟨A, d, h1, _⟩ := h.head
    exact h1.cell (o := 0) rfl
  unfold inB at hn
  by_cases h0 : c < 0
  · have b0 : decide (c < 0) = true := by simpa using h0
    clear h hn h0
    go_enter Try.func11, Try.ntmps11
    go_wp2
    go_ret
    exact ⟨rfl, HF.out⟩
  · have b0 : decide (c < 0) = false := by simp; omega
    by_cases h1 : C ≤ c
    · have b1 : decide (C ≤ c) = true := by simpa using h1
      clear h hn h0 h1
      go_enter Try.func11, Try.ntmps11
      go_wp2
      go_ret
      exact ⟨rfl, HF.out⟩
    · have b1 : decide (C ≤ c) = false := by simp; omega
      by_cases h2 : t < 0
      · have b2 : decide (t < 0) = true := by simpa using h2
        clear h hn h0 h1 h2
        go_enter Try.func11, Try.ntmps11
        go_wp2
        go_ret
        exact ⟨rfl, HF.out⟩
      · have b2 : decide (t < 0) = false := by simp; omega
        by_cases h3 : 24 ≤ t
        · have b3 : decide (24 ≤ t) = true := by simpa using h3
          clear h hn h0 h1 h2 h3
          go_enter Try.func11, Try.ntmps11
          go_wp2
          go_ret
          exact ⟨rfl, HF.out⟩
        · have b3 : decide (24 ≤ t) = false := by simp; omega
          by_cases h4 : now < 0
          · have b4 : decide (now < 0) = true := by simpa using h4
            clear h hn h0 h1 h2 h3 h4
            go_enter Try.func11, Try.ntmps11
            go_wp2
            go_ret
            exact ⟨rfl, HF.out⟩
          · have b4 : decide (now < 0) = false := by simp; omega
            have b5 : decide ((9007199254740991 : Int) < now) = true := by simp; omega
            clear h hn h0 h1 h2 h3 h4
            go_enter Try.func11, Try.ntmps11
            go_wp2
            go_ret
            exact ⟨rfl, HF.out⟩
set_option maxHeartbeats 1000000 in
theorem rsend_there (x : Nat) (C : Int) (T : Nat) (L : List Nt) (S : Nat → Prop) (w : World) (c t now l : Int) (h : RF w S x C L) (g : Gd C T L) (hT : T ≤ 1000) (hn : inB C c t now) (n : Nt) (hf : fnd L c t = some n) :
    Calls Try.prog 11 #[.pointer (some ⟨x, 0, none⟩), .int .i64 c, .int .i64 t, .int .i64 now, .int .i64 l] w fun r w' => r = .returned (.bool (okS C L c t now)) ∧ Rm w S x C (sent C T L c t now l) w' := by
  have HF : Hid (Rm w S x C (sent C T L c t now l) w) := rd_none h (okS_there hf) (But.refl _ _)
  rw [okS_there hf]
  have d0 : w.cell? ⟨x, 0, none⟩ = some (.int .i64 C) := by
    obtain ⟨A, d, h1, _⟩ := h.head
    exact h1.cell (o := 0) rfl
  have CD := Lib.hid (rdue_any x C L S w c t h (by have := g.len; omega))
  have hq : 0 ≤ dueOf L c t := (dueOf_has g c t).2 (by rw [hf]; rfl)
  generalize dueOf L c t = q at CD hq
  unfold inB at hn
  have b0 : decide (c < 0) = false := by simp; omega
  have b1 : decide (C ≤ c) = false := by simp; omega
  have b2 : decide (t < 0) = false := by simp; omega
  have b3 : decide (24 ≤ t) = false := by simp; omega
  have b4 : decide (now < 0) = false := by simp; omega
  have b5 : decide ((9007199254740991 : Int) < now) = false := by simp; omega
  have b6 : decide (0 ≤ q) = true := by simpa using hq
  clear h hn g hf
  go_enter Try.func11, Try.ntmps11
  go_wp2_with (go_at_call 15; ((with_reducible refine CD.out.mono ?_); rintro e w2 ⟨rfl, hw2⟩; subst hw2))
  go_ret
  exact ⟨rfl, HF.out⟩
set_option maxHeartbeats 1000000 in
theorem rsend_ok (x : Nat) (C : Int) (T : Nat) (L : List Nt) (S : Nat → Prop) (w : World) (c t now l : Int) (h : RF w S x C L) (g : Gd C T L) (hT : T ≤ 1000) (hn : inB C c t now) (hf : fnd L c t = none) :
    Calls Try.prog 11 #[.pointer (some ⟨x, 0, none⟩), .int .i64 c, .int .i64 t, .int .i64 now, .int .i64 l] w fun r w' => r = .returned (.bool (okS C L c t now)) ∧ Rm w S x C (sent C T L c t now l) w' := by
  have hok := okS_in hn hf
  have HSE : Hid (sent C T L c t now l = L ++ [⟨c, t, now + wi l, ((T + 1 : Nat) : Int)⟩]) := by show _ = _; unfold sent; rw [if_pos hok]
  rw [hok]
  have CD := Lib.hid (rdue_any x C L S w c t h (by have := g.len; omega))
  have hq : ¬ 0 ≤ dueOf L c t := fun e => by have := (dueOf_has g c t).1 e; rw [hf] at this; cases this
  have hlen : L.length ≤ 1000 := by have := g.len; omega
  generalize dueOf L c t = q at CD hq
  unfold inB at hn
  have b0 : decide (c < 0) = false := by simp; omega
  have b1 : decide (C ≤ c) = false := by simp; omega
  have b2 : decide (t < 0) = false := by simp; omega
  have b3 : decide (24 ≤ t) = false := by simp; omega
  have b4 : decide (now < 0) = false := by simp; omega
  have b5 : decide ((9007199254740991 : Int) < now) = false := by simp; omega
  have b6 : decide (0 ≤ q) = false := by simpa using hq
  obtain ⟨A, d, h1, h2, h3, h4, hd⟩ := h.head
  have d0 : w.cell? ⟨x, 0, none⟩ = some (.int .i64 C) := h1.cell (o := 0) rfl
  obtain ⟨i5, hi0, hz0, hz1, hz2⟩ := info_parts info53
  have I5 : Hid (Try.prog.info? 53 = some i5 ∧ i5.zero = some (noteV 0 0 0) ∧ i5.size = 3 ∧ i5.bytes = 24) := ⟨hi0, hz0, hz1, hz2⟩
  have H1 := Lib.hid h1
  have H2 := Lib.hid h2
  have H3 := Lib.hid h3
  have H4 := Lib.hid h4
  obtain ⟨n, hn'⟩ : ∃ n, n = L.length := ⟨_, rfl⟩
  have HN := Lib.hid hn'
  rw [← hn'] at H1 H2 H3 H4 hlen
  have d1 : w.cell? ⟨x, 1, none⟩ = some (.slice A n d) := H1.out.cell (o := 1) rfl
  have HWI : Hid (wi l = if l < 1 then 1 else if 50 < l then 50 else l) := by show _ = _; rfl
  have hwl := wi_rng l
  obtain ⟨z, hz⟩ : ∃ z, now + wi l = z := ⟨_, rfl⟩
  rw [hz] at HSE
  have HZ := Lib.hid hz
  have hz1' : 0 ≤ z ∧ z ≤ 9007199254741041 := by omega
  have ROW : Hid ((w.alloc (.cells #[.int .i64 c, .int .i64 t, .int .i64 z] 53)).ownsRow 0 53 3 (.slice A n d) n (flat Nt.core Nt.task Nt.due L)) := by
    have := H2.out.no ((But.refl No w).alloc (.cells #[.int .i64 c, .int .i64 t, .int .i64 z] 53))
    have e := HN.out
    unfold Ov3 at this
    rw [← e] at this; exact this
  have AFT : Hid (∀ v3 w3, w3.ownsRow 0 53 3 v3 (n + 1) (flat Nt.core Nt.task Nt.due L ++ [.int .i64 c, .int .i64 t, .int .i64 z]) → (w.alloc (.cells #[.int .i64 c, .int .i64 t, .int .i64 z] 53)).grownBy w3 (Value.slice A n d).ownBlock → (v3.ownBlock = (Value.slice A n d).ownBlock ∨ v3.ownBlock = some (w.alloc (.cells #[.int .i64 c, .int .i64 t, .int .i64 z] 53)).heap.size) →
      Rm w S x C (sent C T L c t now l) (w3.setCell ⟨x, 1, none⟩ v3) ∧ Blk w3 x #[.int .i64 C, .slice A n d] 45) := by
    intro v3 w3 ho hg hat
    have hb : But (fun k => (Value.slice A n d).ownBlock = some k) w w3 := ((But.refl _ w).alloc _).grown hg (fun k e => .inl e)
    rw [size_alloc1] at hat
    rw [HSE.out]
    refine RF.put H1.out (H4.out x (.inl rfl)) hb (fun k e => ⟨H4.out k (.inr e), fun e' => H3.out (e' ▸ e)⟩) (Ov3.app HN.out.symm ho) (fun k e => ?_)
    rcases hat with h | h
    · rw [h] at e; exact .inl ⟨H4.out k (.inr e), fun e' => H3.out (e' ▸ e)⟩
    · rw [h] at e; cases e; exact .inr (by omega)
  clear h hf hq h1 h2 h3 h4 hn' hi0 hz0 hz1 hz2 hok
  by_cases l1 : l < 1
  · have m1 : ((if 1 < l then l else 1) : Int) = 1 := by rw [if_neg (by omega)]
    have hz3 : now + 1 = z := by rw [← hz, HWI.out, if_pos l1]
    clear hz
    go_enter Try.func11, Try.ntmps11
    go_wp2_with (first | (go_at_call 15; ((with_reducible refine CD.out.mono ?_); rintro e w2 ⟨rfl, hw2⟩; subst hw2)) | (at_builtin; refine wpList_append_sh _ rfl _ _ 43 rfl 53 i5 _ 3 24 Try.underlying43 I5.out.1 I5.out.2.1 I5.out.2.2.1 I5.out.2.2.2 rfl (by omega) (.slice A n d) n _ rfl ROW.out (w2.heap.size + 1) (some ⟨w2.heap.size, 0, none⟩) 1 1 [.int .i64 c, .int .i64 t, .int .i64 z] rfl (three_reads w2 53 c t z) (three_cell c t z) (by unfold maxLen; omega) (by omega) ?_; intro A3 c3 w3 hown hgrow hat; obtain ⟨hE, hB⟩ := AFT.out _ w3 hown hgrow hat; have HE := Lib.hid hE; have f1 := hB.frozen 1; have c1 : w3.cell? ⟨x, 1, none⟩ = some (.slice A n d) := hB.cell (o := 1) rfl; clear hown hgrow hat hE hB))
    go_ret
    exact ⟨rfl, HE.out⟩
  · by_cases l2 : 50 < l
    · have hz3 : now + 50 = z := by rw [← hz, HWI.out, if_neg l1, if_pos l2]
      clear hz
      go_enter Try.func11, Try.ntmps11
      go_wp2_with (first | (go_at_call 15; ((with_reducible refine CD.out.mono ?_); rintro e w2 ⟨rfl, hw2⟩; subst hw2)) | (at_builtin; refine wpList_append_sh _ rfl _ _ 43 rfl 53 i5 _ 3 24 Try.underlying43 I5.out.1 I5.out.2.1 I5.out.2.2.1 I5.out.2.2.2 rfl (by omega) (.slice A n d) n _ rfl ROW.out (w2.heap.size + 1) (some ⟨w2.heap.size, 0, none⟩) 1 1 [.int .i64 c, .int .i64 t, .int .i64 z] rfl (three_reads w2 53 c t z) (three_cell c t z) (by unfold maxLen; omega) (by omega) ?_; intro A3 c3 w3 hown hgrow hat; obtain ⟨hE, hB⟩ := AFT.out _ w3 hown hgrow hat; have HE := Lib.hid hE; have f1 := hB.frozen 1; have c1 : w3.cell? ⟨x, 1, none⟩ = some (.slice A n d) := hB.cell (o := 1) rfl; clear hown hgrow hat hE hB))
      go_ret
      exact ⟨rfl, HE.out⟩
    · have hz3 : now + l = z := by rw [← hz, HWI.out, if_neg l1, if_neg l2]
      clear hz
      go_enter Try.func11, Try.ntmps11
      go_wp2_with (first | (go_at_call 15; ((with_reducible refine CD.out.mono ?_); rintro e w2 ⟨rfl, hw2⟩; subst hw2)) | (at_builtin; refine wpList_append_sh _ rfl _ _ 43 rfl 53 i5 _ 3 24 Try.underlying43 I5.out.1 I5.out.2.1 I5.out.2.2.1 I5.out.2.2.2 rfl (by omega) (.slice A n d) n _ rfl ROW.out (w2.heap.size + 1) (some ⟨w2.heap.size, 0, none⟩) 1 1 [.int .i64 c, .int .i64 t, .int .i64 z] rfl (three_reads w2 53 c t z) (three_cell c t z) (by unfold maxLen; omega) (by omega) ?_; intro A3 c3 w3 hown hgrow hat; obtain ⟨hE, hB⟩ := AFT.out _ w3 hown hgrow hat; have HE := Lib.hid hE; have f1 := hB.frozen 1; have c1 : w3.cell? ⟨x, 1, none⟩ = some (.slice A n d) := hB.cell (o := 1) rfl; clear hown hgrow hat hE hB))
      go_ret
      exact ⟨rfl, HE.out⟩
theorem rsend_any (x : Nat) (C : Int) (T : Nat) (L : List Nt) (S : Nat → Prop) (w : World) (c t now l : Int) (h : RF w S x C L) (g : Gd C T L) (hT : T ≤ 1000) :
    Calls Try.prog 11 #[.pointer (some ⟨x, 0, none⟩), .int .i64 c, .int .i64 t, .int .i64 now, .int .i64 l] w fun r w' => r = .returned (.bool (okS C L c t now)) ∧ Rm w S x C (sent C T L c t now l) w' := by
  by_cases hn : inB C c t now
  · cases hf : fnd L c t with
    | none => exact rsend_ok x C T L S w c t now l h g hT hn hf
    | some n => exact rsend_there x C T L S w c t now l h g hT hn n hf
  · exact rsend_out x C T L S w c t now l h hn
end Go.Proofs.Ytmfjlfemeihchaa
