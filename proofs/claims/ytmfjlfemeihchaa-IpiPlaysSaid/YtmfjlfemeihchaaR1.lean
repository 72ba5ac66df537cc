/- The document's own mailboxes: its blocks; New, Due, Len. -/
import Derived.Test.YtmfjlfemeihchaaC5
namespace Go.Proofs.Ytmfjlfemeihchaa
open Go.ChangeShapes Go.WideShapes Go.ChangeAt Go.RowKit Go.Deep
/-- At x lie the document's mailboxes of C cores that hold L, in the order of sending; their blocks are of S. -/
structure RF (w : World) (S : Nat → Prop) (x : Nat) (C : Int) (L : List Nt) : Prop where
  ex : ∃ v, Blk w x #[.int .i64 C, v] 45 ∧ OvR w v L ∧ v.ownBlock ≠ some x ∧ ∀ k, (k = x ∨ v.ownBlock = some k) → S k
  lt : ∀ k, S k → k < w.heap.size
theorem RF.but {w w' : World} {S S' : Nat → Prop} {x : Nat} {C : Int} {L : List Nt} (h : RF w S x C L) (hb : But S' w w') (hs : ∀ k, S k → ¬ S' k) : RF w' S x C L := by
  obtain ⟨v, h1, h2, h3, h4⟩ := h.ex
  exact ⟨⟨v, h1.but hb (hs x (h4 x (.inl rfl))), h2.but hb (fun k e => hs k (h4 k (.inr e))), h3, h4⟩, fun k hk => Nat.lt_of_lt_of_le (h.lt k hk) hb.size⟩
theorem RF.no {w w' : World} {S : Nat → Prop} {x : Nat} {C : Int} {L : List Nt} (h : RF w S x C L) (hb : But No w w') : RF w' S x C L := h.but hb (fun _ _ f => f)
theorem RF.head {w : World} {S : Nat → Prop} {x : Nat} {C : Int} {L : List Nt} (h : RF w S x C L) : ∃ A d, Blk w x #[.int .i64 C, .slice A L.length d] 45 ∧ OvR w (.slice A L.length d) L ∧ (Value.slice A L.length d).ownBlock ≠ some x ∧ (∀ k, (k = x ∨ (Value.slice A L.length d).ownBlock = some k) → S k) ∧ L.length ≤ d := by
  obtain ⟨v, h1, h2, h3, h4⟩ := h.ex
  obtain ⟨A, d, e, hd⟩ := h2.slice
  subst e
  exact ⟨A, d, h1, h2, h3, h4, hd⟩
def Rm (w : World) (S : Nat → Prop) (x : Nat) (C : Int) (L : List Nt) (w' : World) : Prop := ∃ S', RF w' S' x C L ∧ But S w w' ∧ ∀ k, S' k → S k ∨ w.heap.size ≤ k
theorem RF.stay {w w' : World} {S : Nat → Prop} {x : Nat} {C : Int} {L : List Nt} (h : RF w S x C L) (hb : But No w w') : Rm w S x C L w' := ⟨S, h.no hb, hb.no, fun _ h => .inl h⟩
/-- Another slice comes into its place. -/
theorem RF.put {w w3 : World} {S S0 : Nat → Prop} {x : Nat} {C : Int} {L' : List Nt} {v v' : Value} (hx : Blk w x #[.int .i64 C, v] 45) (hSx : S x) (b3 : But S0 w w3) (hS0 : ∀ k, S0 k → S k ∧ k ≠ x) (o3 : OvR w3 v' L')
    (n3 : ∀ k, v'.ownBlock = some k → (S k ∧ k ≠ x) ∨ w.heap.size ≤ k) : Rm w S x C L' (w3.setCell ⟨x, 1, none⟩ v') ∧ Blk w3 x #[.int .i64 C, v] 45 := by
  have hx3 := hx.but b3 (fun h => (hS0 x h).2 rfl)
  have hxl := hx.lt
  have nx : v'.ownBlock ≠ some x := fun e => by rcases n3 x e with h | h; exact h.2 rfl; omega
  have hb : But (Just x) w3 (w3.setCell ⟨x, 1, none⟩ v') := (But.refl _ w3).setCell (p := ⟨x, 1, none⟩) (just x) _
  refine ⟨⟨fun k => k = x ∨ v'.ownBlock = some k, ⟨⟨v', hx3.set 1 _, o3.but hb (fun k e e' => nx (e' ▸ e)), nx, fun k hk => hk⟩, ?_⟩, ?_, ?_⟩, hx3⟩
  · rintro k (rfl | e)
    · have := b3.size; have := hb.size; omega
    · have := o3.lt k e; have := hb.size; omega
  · exact (b3.mono (fun k _ h => (hS0 k h).1)).setCell (p := ⟨x, 1, none⟩) hSx _
  · rintro k (rfl | e)
    · exact .inl hSx
    · rcases n3 k e with h | h
      · exact .inl h.1
      · exact .inr h
theorem rnew_ok (C : Int) (w : World) (h0 : 1 ≤ C) (h1 : C ≤ 8) :
    Calls Try.prog 8 #[.int .i64 C] w fun r w' => ∃ x S, r = .returned (.pointer (some ⟨x, 0, none⟩)) ∧ RF w' S x C [] ∧ But No w w' ∧ ∀ k, S k → w.heap.size ≤ k := by
  have b1 : decide (C < 1) = false := by simp; omega
  have b2 : decide ((8 : Int) < C) = false := by simp; omega
  go_enter Try.func8, Try.ntmps8
  go_wp2
  go_ret
  refine ⟨_, fun k => k = w.heap.size, rfl, ⟨⟨_, Blk.new w _ _, Ov3.nil _, by simp [Value.ownBlock], ?_⟩, ?_⟩, (But.refl No w).alloc _, ?_⟩
  · rintro k (e | e)
    · exact e
    · simp [Value.ownBlock] at e
  · rintro k rfl; simp
  · rintro k rfl; exact Nat.le_refl _
theorem rnew_bad (C : Int) (w : World) (h : C < 1 ∨ 8 < C) :
    Calls Try.prog 8 #[.int .i64 C] w fun r w' => r = .returned (.pointer none) ∧ w = w' := by
  rcases h with h | h
  · have b1 : decide (C < 1) = true := by simp; omega
    go_enter Try.func8, Try.ntmps8
    go_wp2
    go_ret
    exact ⟨rfl, rfl⟩
  · have b1 : decide (C < 1) = false := by simp; omega
    have b2 : decide ((8 : Int) < C) = true := by simp; omega
    go_enter Try.func8, Try.ntmps8
    go_wp2
    go_ret
    exact ⟨rfl, rfl⟩
theorem dueOf_at {L : List Nt} {c t : Int} {k : Nat} (hk : k < L.length) (hno : ∀ j, j < k → ¬ ((L.getD j nt0).core = c ∧ (L.getD j nt0).task = t)) (hy : (L.getD k nt0).core = c ∧ (L.getD k nt0).task = t) : dueOf L c t = (L.getD k nt0).due := by
  have : fnd L c t = some (L.getD k nt0) := by
    induction L generalizing k with
    | nil => simp at hk
    | cons a r ih =>
      unfold fnd
      rw [List.find?_cons]
      cases k with
      | zero => simp at hy; simp [hy]
      | succ k =>
        have h0 := hno 0 (by omega)
        simp only [List.getD_cons_zero] at h0
        rw [show decide (a.core = c ∧ a.task = t) = false by rw [decide_eq_false_iff_not]; exact h0]
        simp only [List.getD_cons_succ] at hy ⊢
        exact ih (by simpa using hk) (fun j hj => by simpa using hno (j + 1) (by omega)) hy
  unfold dueOf; rw [this]
theorem dueOf_no {L : List Nt} {c t : Int} (hno : ∀ j, j < L.length → ¬ ((L.getD j nt0).core = c ∧ (L.getD j nt0).task = t)) : dueOf L c t = -1 := by
  have : fnd L c t = none := fnd_none.2 (fun n hn => by
    obtain ⟨k, hk, e⟩ := mem_getD hn
    have := hno k hk
    rwa [e] at this)
  unfold dueOf; rw [this]
set_option maxHeartbeats 1000000 in
theorem rdue_any (x : Nat) (C : Int) (L : List Nt) (S : Nat → Prop) (w : World) (c t : Int) (h : RF w S x C L) (hl : L.length ≤ 1000) :
    Calls Try.prog 15 #[.pointer (some ⟨x, 0, none⟩), .int .i64 c, .int .i64 t] w fun r w' => r = .returned (.int .i64 (dueOf L c t)) ∧ w' = w := by
  obtain ⟨A, d, h1, h2, h3, h4, hd⟩ := h.head
  have HO := Lib.hid h2
  obtain ⟨n, hn⟩ : ∃ n, n = L.length := ⟨_, rfl⟩
  have HN := Lib.hid hn
  have d1 : w.cell? ⟨x, 1, none⟩ = some (.slice A n d) := by rw [hn]; exact h1.cell (o := 1) rfl
  rw [← hn] at hl
  clear h h1 h2 h3 h4 hn hd
  go_enter Try.func15, Try.ntmps15
  go_wp2_with fail
  go_loopw [7] (fun s wr => ∃ k : Nat, s = .int .i64 k ∧ k ≤ n ∧ Hid (∀ j, j < k → ¬ ((L.getD j nt0).core = c ∧ (L.getD j nt0).task = t)) ∧ Hid (wr = w)) (fun s _ => n - (intOf s).toNat)
  case atStart => exact ⟨0, rfl, by omega, fun j hj => absurd hj (by omega), show _ = _ from rfl⟩
  case round =>
    obtain ⟨k, rfl, hk, hno, hw⟩ := hrel
    have hw' := hw.out
    subst hw'
    by_cases hlt : k < n
    · have hkL : k < L.length := by rw [← HN.out]; exact hlt
      obtain ⟨b, hA, hb, c0, c1, c2, _⟩ := HO.out.cell hkL
      have HA := Lib.hid hA
      rw [hA] at d1
      have kn' : (k : Int) < (n : Int) := by omega
      by_cases hx : (L.getD k nt0).core = c ∧ (L.getD k nt0).task = t
      · have HE : Hid (dueOf L c t = (L.getD k nt0).due) := dueOf_at hkL hno.out hx
        obtain ⟨e1, e2⟩ := hx
        generalize L.getD k nt0 = y at c0 c1 c2 HE e1 e2
        obtain ⟨yc, yt, yd, yn⟩ := y
        dsimp only at *
        subst e1 e2
        clear hA
        go_wp2
        go_ret
        exact ⟨ret1 HE.out.symm, rfl⟩
      · have HNO : Hid (∀ j, j < k + 1 → ¬ ((L.getD j nt0).core = c ∧ (L.getD j nt0).task = t)) := by
          intro j hj
          by_cases e : j = k
          · rw [e]; exact hx
          · exact hno.out j (by omega)
        generalize L.getD k nt0 = y at c0 c1 c2 hx
        obtain ⟨yc, yt, yd, yn⟩ := y
        dsimp only at *
        by_cases e1 : yc = c
        · have b1 : (yc == c) = true := by simpa using e1
          have b2 : (yt == t) = false := by simpa using (fun e2 => hx ⟨e1, e2⟩)
          clear hx hA e1
          go_wp2
          go_roundw
          case rel => exact ⟨k + 1, by go_num, by omega, HNO, by first | exact True.intro | exact rfl⟩
          case measure => simp [intOf]; omega
        · have b1 : (yc == c) = false := by simpa using e1
          clear hx hA e1
          go_wp2
          go_roundw
          case rel => exact ⟨k + 1, by go_num, by omega, HNO, by first | exact True.intro | exact rfl⟩
          case measure => simp [intOf]; omega
    · have HE : Hid (dueOf L c t = -1) := dueOf_no (fun j hj => hno.out j (by rw [← HN.out] at hj; omega))
      have b1 : decide ((k : Int) < (n : Int)) = false := by simp; omega
      go_wp2
      go_ret
      exact ⟨ret1 HE.out.symm, rfl⟩
theorem cn_snoc (L : List Nt) (y : Nt) (c : Int) : cn (L ++ [y]) c = if y.core = c then cn L c + 1 else cn L c := by
  unfold cn
  rw [List.filter_append, List.length_append]
  by_cases h : y.core = c <;> simp [h]
theorem cn_le (L : List Nt) (c : Int) : cn L c ≤ L.length := List.length_filter_le _ _
set_option maxHeartbeats 1000000 in
theorem rlen_any (x : Nat) (C : Int) (L : List Nt) (S : Nat → Prop) (w : World) (c : Int) (h : RF w S x C L) (hl : L.length ≤ 1000) :
    Calls Try.prog 17 #[.pointer (some ⟨x, 0, none⟩), .int .i64 c] w fun r w' => r = .returned (.int .i64 (cn L c)) ∧ w' = w := by
  obtain ⟨A, d, h1, h2, h3, h4, hd⟩ := h.head
  have HO := Lib.hid h2
  obtain ⟨n, hn⟩ : ∃ n, n = L.length := ⟨_, rfl⟩
  have HN := Lib.hid hn
  have d1 : w.cell? ⟨x, 1, none⟩ = some (.slice A n d) := by rw [hn]; exact h1.cell (o := 1) rfl
  rw [← hn] at hl
  clear h h1 h2 h3 h4 hn hd
  go_enter Try.func17, Try.ntmps17
  go_wp2_with fail
  go_loopw [5, 6] (fun q s wr => ∃ k : Nat, q = .int .i64 (cn (L.take k) c : Nat) ∧ s = .int .i64 k ∧ k ≤ n ∧ Hid (wr = w)) (fun _ s _ => n - (intOf s).toNat)
  case atStart => exact ⟨0, rfl, rfl, by omega, show _ = _ from rfl⟩
  case round =>
    obtain ⟨k, rfl, rfl, hk, hw⟩ := hrel
    have hw' := hw.out
    subst hw'
    have hcl : cn (L.take k) c ≤ 1000 := by have := cn_le (L.take k) c; rw [List.length_take] at this; omega
    by_cases hlt : k < n
    · have hkL : k < L.length := by rw [← HN.out]; exact hlt
      obtain ⟨b, hA, hb, c0, _, _, _⟩ := HO.out.cell hkL
      have HA := Lib.hid hA
      rw [hA] at d1
      have kn' : (k : Int) < (n : Int) := by omega
      have HS : Hid (cn (L.take (k + 1)) c = if (L.getD k nt0).core = c then cn (L.take k) c + 1 else cn (L.take k) c) := by show _ = _; rw [take_snocN hkL, cn_snoc]
      generalize L.getD k nt0 = y at c0 HS
      generalize cn (L.take k) c = q at hcl HS
      obtain ⟨yc, yt, yd, yn⟩ := y
      dsimp only at *
      by_cases e1 : yc = c
      · have b1 : (yc == c) = true := by simpa using e1
        have HS2 : Hid (cn (L.take (k + 1)) c = q + 1) := by show _ = _; rw [HS.out, if_pos e1]
        clear hA e1 HS
        go_wp2
        go_roundw
        case rel => exact ⟨k + 1, by rw [HS2.out]; go_num, by go_num, by omega, by first | exact True.intro | exact rfl⟩
        case measure => simp [intOf]; omega
      · have b1 : (yc == c) = false := by simpa using e1
        have HS2 : Hid (cn (L.take (k + 1)) c = q) := by show _ = _; rw [HS.out, if_neg e1]
        clear hA e1 HS
        go_wp2
        go_roundw
        case rel => exact ⟨k + 1, by rw [HS2.out], by go_num, by omega, by first | exact True.intro | exact rfl⟩
        case measure => simp [intOf]; omega
    · obtain rfl : k = n := by omega
      have HE : Hid (cn (L.take k) c = cn L c) := by show _ = _; rw [HN.out, List.take_length]
      rw [HE.out] at hcl ⊢
      have b1 : decide ((k : Int) < (k : Int)) = false := by simp
      go_wp2
      go_ret
      exact ⟨rfl, rfl⟩
end Go.Proofs.Ytmfjlfemeihchaa
