/- The document's own list: its blocks; New, at, Left, Add. -/
import Derived.Test.YtfejnokljddomaaE
import Derived.Test.YtfejnokljddomaaRM
namespace Go.Proofs.Ytfejnokljddomaa
open Go.ChangeShapes Go.WideShapes Go.ChangeAt Go.RowKit Go.Deep
def flat : List Tm → List Value
  | [] => []
  | t :: r => .int .i64 t.id :: .int .i64 t.left :: flat r
theorem flat_length (K : List Tm) : (flat K).length = K.length * 2 := by
  induction K with
  | nil => rfl
  | cons t r ih => simp only [flat, List.length_cons, ih]; omega
theorem flat_append (K M : List Tm) : flat (K ++ M) = flat K ++ flat M := by
  induction K with
  | nil => rfl
  | cons t r ih => simp only [List.cons_append, flat, ih]
theorem flat_get {K : List Tm} {k : Nat} (hk : k < K.length) : (flat K)[k * 2]? = some (.int .i64 (K.getD k tm0).id) ∧ (flat K)[k * 2 + 1]? = some (.int .i64 (K.getD k tm0).left) := by
  induction K generalizing k with
  | nil => simp at hk
  | cons t r ih =>
    cases k with
    | zero => simp [flat]
    | succ k =>
      have := ih (k := k) (by simpa using hk)
      rw [show (k + 1) * 2 = k * 2 + 1 + 1 by omega]
      simpa [flat] using this
theorem flat_set {K : List Tm} {k : Nat} (v : Int) (hk : k < K.length) : (flat K).set (k * 2 + 1) (.int .i64 v) = flat (K.set k ⟨(K.getD k tm0).id, v⟩) := by
  induction K generalizing k with
  | nil => simp at hk
  | cons t r ih =>
    cases k with
    | zero => simp [flat]
    | succ k =>
      have := ih (k := k) (by simpa using hk)
      rw [show (k + 1) * 2 + 1 = k * 2 + 1 + 1 + 1 by omega]
      simp only [flat, List.set_cons_succ, this]
      simp
/-- v is a slice of the call's own that reads as these timers. -/
def Ov2 (w : World) (v : Value) (K : List Tm) : Prop := w.ownsRow 0 59 2 v K.length (flat K)
theorem Ov2.nil (w : World) : Ov2 w (.slice none 0 0) [] := World.ownsRow_nil _ _ _ _
theorem Ov2.but {w w' : World} {v : Value} {K : List Tm} {S : Nat → Prop} (h : Ov2 w v K) (hb : But S w w') (hs : ∀ k, v.ownBlock = some k → ¬ S k) : Ov2 w' v K := owns_but h hb hs
theorem Ov2.lt {w : World} {v : Value} {K : List Tm} (h : Ov2 w v K) : ∀ k, v.ownBlock = some k → k < w.heap.size := fun k e => (World.ownsRow.lt h k e).2
theorem Ov2.slice {w : World} {v : Value} {K : List Tm} (h : Ov2 w v K) : ∃ A c, v = .slice A K.length c := by
  obtain ⟨h1, h2⟩ := h
  rcases h2 with ⟨h2, e⟩ | ⟨g, cap, cur, hv, _⟩
  · exact ⟨none, 0, by rw [e]; exact h2⟩
  · exact ⟨_, _, hv⟩
theorem Ov2.cell {w : World} {A : Option Addr} {n c k : Nat} {K : List Tm} (h : Ov2 w (.slice A n c) K) (hk : k < K.length) :
    ∃ g, A = some ⟨g, 0, none⟩ ∧ g < w.heap.size ∧ w.cell? ⟨g, k * 2, none⟩ = some (.int .i64 (K.getD k tm0).id) ∧ w.cell? ⟨g, k * 2 + 1, none⟩ = some (.int .i64 (K.getD k tm0).left) ∧ w.frozen? ⟨g, k * 2 + 1, none⟩ = false := by
  obtain ⟨h1, h2⟩ := h
  rcases h2 with ⟨_, e⟩ | ⟨g, cap, cur, hv, _, hh, hc, _, hs, ht⟩
  · omega
  · cases hv
    have hg := flat_get hk
    rw [← ht, List.getElem?_take, List.getElem?_take, if_pos (by omega), if_pos (by omega)] at hg
    exact ⟨g, rfl, Blk.lt hh, Blk.cell hh (by simpa using hg.1), Blk.cell hh (by simpa using hg.2), Blk.frozen hh _⟩
theorem Ov2.set {w : World} {g n c k : Nat} {K : List Tm} (h : Ov2 w (.slice (some ⟨g, 0, none⟩) n c) K) (hk : k < K.length) (v : Int) :
    Ov2 (w.setCell ⟨g, k * 2 + 1, none⟩ (.int .i64 v)) (.slice (some ⟨g, 0, none⟩) n c) (K.set k ⟨(K.getD k tm0).id, v⟩) := by
  obtain ⟨h1, h2⟩ := h
  rcases h2 with ⟨e, _⟩ | ⟨g', cap, cur, hv, h0, hh, hc, hm, hs, ht⟩
  · cases e
  · cases hv
    refine ⟨by rw [flat_length], .inr ⟨g, c, cur.setIfInBounds (k * 2 + 1) (.int .i64 v), ?_, h0, Blk.set hh _ _, ?_, hm, by simpa using hs, ?_⟩⟩
    · rw [List.length_set]
    · rw [List.length_set]; exact hc
    · rw [← flat_set v hk, ← ht, List.length_set]
      rw [Array.toList_setIfInBounds, List.take_set]
/-- At x lies the document's list for R timers that holds K, in the order of adding; its blocks are of S. -/
structure RF (w : World) (S : Nat → Prop) (x : Nat) (R : Int) (K : List Tm) : Prop where
  ex : ∃ v, Blk w x #[.int .i64 R, v] 45 ∧ Ov2 w v K ∧ v.ownBlock ≠ some x ∧ ∀ k, (k = x ∨ v.ownBlock = some k) → S k
  lt : ∀ k, S k → k < w.heap.size
theorem RF.but {w w' : World} {S S' : Nat → Prop} {x : Nat} {R : Int} {K : List Tm} (h : RF w S x R K) (hb : But S' w w') (hs : ∀ k, S k → ¬ S' k) : RF w' S x R K := by
  obtain ⟨v, h1, h2, h3, h4⟩ := h.ex
  exact ⟨⟨v, h1.but hb (hs x (h4 x (.inl rfl))), h2.but hb (fun k e => hs k (h4 k (.inr e))), h3, h4⟩, fun k hk => Nat.lt_of_lt_of_le (h.lt k hk) hb.size⟩
theorem RF.no {w w' : World} {S : Nat → Prop} {x : Nat} {R : Int} {K : List Tm} (h : RF w S x R K) (hb : But No w w') : RF w' S x R K := h.but hb (fun _ _ f => f)
theorem RF.head {w : World} {S : Nat → Prop} {x : Nat} {R : Int} {K : List Tm} (h : RF w S x R K) : ∃ A c, Blk w x #[.int .i64 R, .slice A K.length c] 45 ∧ Ov2 w (.slice A K.length c) K ∧ (Value.slice A K.length c).ownBlock ≠ some x ∧ ∀ k, (k = x ∨ (Value.slice A K.length c).ownBlock = some k) → S k := by
  obtain ⟨v, h1, h2, h3, h4⟩ := h.ex
  obtain ⟨A, c, e⟩ := h2.slice
  subst e
  exact ⟨A, c, h1, h2, h3, h4⟩
def Rm (w : World) (S : Nat → Prop) (x : Nat) (R : Int) (K : List Tm) (w' : World) : Prop := ∃ S', RF w' S' x R K ∧ But S w w' ∧ ∀ k, S' k → S k ∨ w.heap.size ≤ k
theorem RF.stay {w w' : World} {S : Nat → Prop} {x : Nat} {R : Int} {K : List Tm} (h : RF w S x R K) (hb : But No w w') : Rm w S x R K w' := ⟨S, h.no hb, hb.no, fun _ h => .inl h⟩
/-- Another slice comes into its place. -/
theorem RF.put {w w3 : World} {S S0 : Nat → Prop} {x : Nat} {R : Int} {K' : List Tm} {v v' : Value} (hx : Blk w x #[.int .i64 R, v] 45) (hSx : S x) (b3 : But S0 w w3) (hS0 : ∀ k, S0 k → S k ∧ k ≠ x) (o3 : Ov2 w3 v' K')
    (n3 : ∀ k, v'.ownBlock = some k → (S k ∧ k ≠ x) ∨ w.heap.size ≤ k) : Rm w S x R K' (w3.setCell ⟨x, 1, none⟩ v') ∧ Blk w3 x #[.int .i64 R, v] 45 := by
  have hx3 := hx.but b3 (fun h => (hS0 x h).2 rfl)
  have hxl := hx.lt
  have nx : v'.ownBlock ≠ some x := fun e => by rcases n3 x e with h | h; exact h.2 rfl; omega
  have hb : But (Just x) w3 (w3.setCell ⟨x, 1, none⟩ v') := (But.refl _ w3).setCell (p := ⟨x, 1, none⟩) (just x) _
  refine ⟨⟨fun k => k = x ∨ v'.ownBlock = some k, ⟨⟨v', hx3.set 1 _, o3.but hb (fun k e e' => nx (e' ▸ e)), nx, fun k hk => hk⟩, ?_⟩, ?_, ?_⟩, hx3⟩
  · rintro k (rfl | e)
    · have := b3.size; have := hb.size; omega
    · have := o3.lt k e; have := hb.size; omega
  · exact (b3.mono (fun k _ h => (hS0 k h).1)).setCell (p := ⟨x, 1, none⟩) hSx _
  · rintro k (rfl | e)
    · exact .inl hSx
    · rcases n3 k e with h | h
      · exact .inl h.1
      · exact .inr h
theorem rnew_ok (R : Int) (w : World) (h0 : 0 ≤ R) (h1 : R ≤ 256) :
    Calls Try.prog 9 #[.int .i64 R] w fun r w' => ∃ x S, r = .returned (.pointer (some ⟨x, 0, none⟩)) ∧ RF w' S x R [] ∧ But No w w' ∧ ∀ k, S k → w.heap.size ≤ k := by
  have b1 : decide (R < 0) = false := by simp; omega
  have b2 : decide ((256 : Int) < R) = false := by simp; omega
  go_enter Try.func9, Try.ntmps9
  go_wp2
  go_ret
  refine ⟨_, fun k => k = w.heap.size, rfl, ⟨⟨_, Blk.new w _ _, Ov2.nil _, by simp [Value.ownBlock], ?_⟩, ?_⟩, (But.refl No w).alloc _, ?_⟩
  · rintro k (e | e)
    · exact e
    · simp [Value.ownBlock] at e
  · rintro k rfl; simp
  · rintro k rfl; exact Nat.le_refl _
theorem rnew_bad (R : Int) (w : World) (h : R < 0 ∨ 256 < R) :
    Calls Try.prog 9 #[.int .i64 R] w fun r w' => r = .returned (.pointer none) ∧ w = w' := by
  rcases h with h | h
  · have b1 : decide (R < 0) = true := by simp; omega
    go_enter Try.func9, Try.ntmps9
    go_wp2
    go_ret
    exact ⟨rfl, rfl⟩
  · have b1 : decide (R < 0) = false := by simp; omega
    have b2 : decide ((256 : Int) < R) = true := by simp; omega
    go_enter Try.func9, Try.ntmps9
    go_wp2
    go_ret
    exact ⟨rfl, rfl⟩
set_option maxHeartbeats 1000000 in
theorem rat_any (x : Nat) (R : Int) (K : List Tm) (S : Nat → Prop) (w : World) (a : Int) (h : RF w S x R K) (hl : K.length ≤ 256) :
    Calls Try.prog 26 #[.pointer (some ⟨x, 0, none⟩), .int .i64 a] w fun r w' => r = .returned (.int .i64 (idx K a)) ∧ w' = w := by
  obtain ⟨A, c, h1, h2, h3, h4⟩ := h.head
  have HO := Lib.hid h2
  obtain ⟨n, hn⟩ : ∃ n, n = K.length := ⟨_, rfl⟩
  have HN := Lib.hid hn
  have d1 : w.cell? ⟨x, 1, none⟩ = some (.slice A n c) := by rw [hn]; exact h1.cell (o := 1) rfl
  rw [← hn] at hl
  clear h h1 h2 h3 h4 hn
  go_enter Try.func26, Try.ntmps26
  go_wp2_with fail
  go_loopw [5] (fun s wr => ∃ k : Nat, s = .int .i64 k ∧ k ≤ n ∧ Hid (∀ j, j < k → (K.getD j tm0).id ≠ a) ∧ Hid (wr = w)) (fun s _ => n - (intOf s).toNat)
  case atStart => exact ⟨0, rfl, by omega, fun j hj => absurd hj (by omega), show _ = _ from rfl⟩
  case round =>
    obtain ⟨k, rfl, hk, hno, hw⟩ := hrel
    have hw' := hw.out
    subst hw'
    by_cases hlt : k < n
    · have hkL : k < K.length := by rw [← HN.out]; exact hlt
      obtain ⟨b, hA, hb, c0, _, _⟩ := HO.out.cell hkL
      have HA := Lib.hid hA
      rw [hA] at d1
      have kn' : (k : Int) < (n : Int) := by omega
      by_cases hx : (K.getD k tm0).id = a
      · have HE : Hid (idx K a = k) := idx_in hkL hx hno.out
        rw [hx] at c0
        clear hx hA
        go_wp2
        go_ret
        exact ⟨by rw [HE.out]; rfl, rfl⟩
      · have HNO : Hid (∀ j, j < k + 1 → (K.getD j tm0).id ≠ a) := by
          intro j hj
          by_cases e : j = k
          · rw [e]; exact hx
          · exact hno.out j (by omega)
        generalize (K.getD k tm0).id = y at c0 hx
        have b1 : (y == a) = false := by simpa using hx
        clear hx hA
        go_wp2
        go_roundw
        case rel => exact ⟨k + 1, by go_num, by omega, HNO, by first | exact True.intro | exact rfl⟩
        case measure => simp [intOf]; omega
    · have HE : Hid (idx K a = -1) := idx_out (fun j hj => hno.out j (by rw [← HN.out] at hj; omega))
      have b1 : decide ((k : Int) < (n : Int)) = false := by simp; omega
      go_wp2
      go_ret
      exact ⟨by rw [HE.out]; rfl, rfl⟩
theorem rleft_any (x : Nat) (R : Int) (K : List Tm) (S : Nat → Prop) (w : World) (a : Int) (h : RF w S x R K) (kd : Kd K) :
    Calls Try.prog 22 #[.pointer (some ⟨x, 0, none⟩), .int .i64 a] w fun r w' => r = .returned (.int .i64 (lft K a)) ∧ w' = w := by
  have CP := Lib.hid (rat_any x R K S w a h kd.len)
  have hl := kd.len
  rw [lft_idx kd.nd]
  rcases idx_cases K a with ⟨k, hk, hkl, hk1, hk2⟩ | ⟨hk, hk2⟩
  · rw [hk] at CP ⊢
    rw [if_pos (by omega), show (k : Int).toNat = k by omega]
    obtain ⟨A, c, h1, h2, h3, h4⟩ := h.head
    obtain ⟨g, hA, hg, _, c1, _⟩ := h2.cell hkl
    subst hA
    have d1 : w.cell? ⟨x, 1, none⟩ = some (.slice (some ⟨g, 0, none⟩) K.length c) := h1.cell (o := 1) rfl
    generalize (K.getD k tm0).left = v at c1 ⊢
    generalize K.length = n at d1 hkl hl
    have b1 : decide ((k : Int) < 0) = false := by simp
    have b2 : (k : Int) < (n : Int) := by omega
    clear h h1 h2 h3 h4 hk hk1 hk2 kd
    go_enter Try.func22, Try.ntmps22
    go_wp2_with (go_at_call 26; refine CP.out.mono ?_; rintro e w2 ⟨rfl, rfl⟩)
    go_ret
    exact ⟨rfl, rfl⟩
  · rw [hk] at CP ⊢
    rw [if_neg (by omega)]
    clear h hk hk2 kd hl
    go_enter Try.func22, Try.ntmps22
    go_wp2_with (go_at_call 26; refine CP.out.mono ?_; rintro e w2 ⟨rfl, rfl⟩)
    go_ret
    exact ⟨rfl, rfl⟩
end Go.Proofs.Ytfejnokljddomaa
