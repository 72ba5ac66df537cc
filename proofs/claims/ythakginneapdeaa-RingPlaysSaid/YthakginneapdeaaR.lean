/- The document's own ring: its blocks; New, Place, Ticket, Put. -/
import Derived.Test.YthakginneapdeaaV
import Derived.Test.YthakginneapdeaaRingFirstW
namespace Go.Proofs.Ythakginneapdeaa
open Go.ChangeShapes Go.WideShapes Go.ChangeAt Go.RowKit Go.Deep
/-- The blocks of the document's ring. -/
structure RX (w : World) (x : Nat) (R T : Int) (v1 v2 : Value) (is ts : List Int) : Prop where
  hx : Blk w x #[.int .i64 R, v1, v2, .int .i64 T] 44
  o1 : Ov w v1 is
  o2 : Ov w v2 ts
  n1 : v1.ownBlock ≠ some x
  n2 : v2.ownBlock ≠ some x
  d : ∀ k, v1.ownBlock = some k → v2.ownBlock ≠ some k
def OwnX (x : Nat) (v1 v2 : Value) : Nat → Prop := fun k => k = x ∨ v1.ownBlock = some k ∨ v2.ownBlock = some k
theorem RX.but {w w' : World} {x : Nat} {R T : Int} {v1 v2 : Value} {is ts : List Int} {S : Nat → Prop} (h : RX w x R T v1 v2 is ts) (hb : But S w w') (hs : ∀ k, OwnX x v1 v2 k → ¬ S k) : RX w' x R T v1 v2 is ts :=
  ⟨h.hx.but hb (hs x (.inl rfl)), h.o1.but hb (fun k e => hs k (.inr (.inl e))), h.o2.but hb (fun k e => hs k (.inr (.inr e))), h.n1, h.n2, h.d⟩
theorem RX.lt {w : World} {x : Nat} {R T : Int} {v1 v2 : Value} {is ts : List Int} (h : RX w x R T v1 v2 is ts) : ∀ k, OwnX x v1 v2 k → k < w.heap.size := by
  rintro k (rfl | e | e)
  · exact h.hx.lt
  · exact (World.ownsRow.lt h.o1 k e).2
  · exact (World.ownsRow.lt h.o2 k e).2
/-- At x lies the document's ring for R ids that has given T tickets, and holds L; its blocks are S. -/
structure RF (w : World) (S : Nat → Prop) (x : Nat) (R T : Int) (L : List It) : Prop where
  ex : ∃ v1 v2, RX w x R T v1 v2 (L.map It.id) (L.map It.tk) ∧ ∀ k, S k ↔ OwnX x v1 v2 k
  len : L.length ≤ 256
theorem RF.but {w w' : World} {S S' : Nat → Prop} {x : Nat} {R T : Int} {L : List It} (h : RF w S x R T L) (hb : But S' w w') (hs : ∀ k, S k → ¬ S' k) : RF w' S x R T L := by
  obtain ⟨v1, v2, h1, h2⟩ := h.ex
  exact ⟨⟨v1, v2, h1.but hb (fun k hk => hs k ((h2 k).2 hk)), h2⟩, h.len⟩
theorem RF.no {w w' : World} {S : Nat → Prop} {x : Nat} {R T : Int} {L : List It} (h : RF w S x R T L) (hb : But No w w') : RF w' S x R T L := h.but hb (fun _ _ f => f)
theorem RF.lt {w : World} {S : Nat → Prop} {x : Nat} {R T : Int} {L : List It} (h : RF w S x R T L) : ∀ k, S k → k < w.heap.size := by
  obtain ⟨v1, v2, h1, h2⟩ := h.ex
  exact fun k hk => h1.lt k ((h2 k).1 hk)
def Rm (w : World) (S : Nat → Prop) (x : Nat) (R T : Int) (L : List It) (w' : World) : Prop :=
  ∃ S', RF w' S' x R T L ∧ But S w w' ∧ ∀ k, S' k → S k ∨ w.heap.size ≤ k
theorem RF.stay {w w' : World} {S : Nat → Prop} {x : Nat} {R T : Int} {L : List It} (h : RF w S x R T L) (hb : But No w w') : Rm w S x R T L w' := ⟨S, h.no hb, hb.no, fun _ h => .inl h⟩
def RNew (w : World) (R : Int) (w' : World) : Prop := ∃ S, RF w' S w.heap.size R 0 [] ∧ But No w w' ∧ ∀ k, S k → w.heap.size ≤ k
theorem rnew_ok (R : Int) (w : World) (h0 : 0 ≤ R) (h1 : R ≤ 256) :
    Calls Try.prog 9 #[.int .i64 R] w fun r w' => r = .returned (.pointer (some ⟨w.heap.size, 0, none⟩)) ∧ RNew w R w' := by
  have b1 : decide (R < 0) = false := by simp; omega
  have b2 : decide ((256 : Int) < R) = false := by simp; omega
  go_enter Try.func9, Try.ntmps9
  go_wp2
  go_ret
  refine ⟨rfl, OwnX w.heap.size (.slice none 0 0) (.slice none 0 0), ⟨⟨.slice none 0 0, .slice none 0 0, ⟨Blk.new w _ _, Ov.nil _, Ov.nil _, by simp [Value.ownBlock], by simp [Value.ownBlock], by simp [Value.ownBlock]⟩, fun _ => Iff.rfl⟩, by simp⟩, (But.refl No w).alloc _, ?_⟩
  rintro k (rfl | e | e)
  · omega
  · simp [Value.ownBlock] at e
  · simp [Value.ownBlock] at e
theorem rnew_bad (R : Int) (w : World) (h : R < 0 ∨ 256 < R) :
    Calls Try.prog 9 #[.int .i64 R] w fun r w' => r = .returned (.pointer none) ∧ w = w' := by
  rcases h with h | h
  · have b1 : decide (R < 0) = true := by simp; omega
    go_enter Try.func9, Try.ntmps9
    go_wp2
    go_ret
    exact ⟨rfl, rfl⟩
  · have b1 : decide (R < 0) = false := by simp; omega
    have b2 : decide ((256 : Int) < R) = true := by simp; omega
    go_enter Try.func9, Try.ntmps9
    go_wp2
    go_ret
    exact ⟨rfl, rfl⟩
theorem RX.head {w : World} {x : Nat} {R T : Int} {v1 v2 : Value} {is ts : List Int} (h : RX w x R T v1 v2 is ts) : ∃ A1 c1 A2 c2, v1 = .slice A1 is.length c1 ∧ v2 = .slice A2 ts.length c2 ∧ is.length ≤ c1 ∧ ts.length ≤ c2 := by
  obtain ⟨A1, c1, e1, l1⟩ := h.o1.slice
  obtain ⟨A2, c2, e2, l2⟩ := h.o2.slice
  exact ⟨A1, c1, A2, c2, e1, e2, l1, l2⟩
theorem ov_cell {w : World} {A : Option Addr} {n c k : Nat} {zs : List Int} (h : Ov w (.slice A n c) zs) (hm : zs.length ≤ 1000) (hk : k < zs.length) : ∃ b, A = some ⟨b, 0, none⟩ ∧ b < w.heap.size ∧ w.cell? ⟨b, k, none⟩ = some (.int .i64 (zs.getD k 0)) := by
  obtain ⟨h1, h2⟩ := h
  rcases h2 with ⟨h2, e⟩ | ⟨g, cap, cur, hv, _, hh, hc, _, hs, ht⟩
  · omega
  · cases hv
    refine ⟨g, rfl, Blk.lt hh, ?_⟩
    refine Blk.cell hh ?_
    have e : (cur.toList.take (zs.length * 1))[k]? = some (.int .i64 (zs.getD k 0)) := by
      rw [ht]; simp [hk]
    rw [List.getElem?_take, if_pos (by omega)] at e
    simpa using e
theorem map_getD_id (L : List It) {k : Nat} (hk : k < L.length) : (L.map It.id).getD k 0 = (L.getD k it0).id := by simp [List.getD, List.getElem?_eq_getElem hk]
theorem map_getD_tk (L : List It) {k : Nat} (hk : k < L.length) : (L.map It.tk).getD k 0 = (L.getD k it0).tk := by simp [List.getD, List.getElem?_eq_getElem hk]
set_option maxHeartbeats 1000000 in
theorem rplace_any (x : Nat) (R T : Int) (L : List It) (S : Nat → Prop) (w : World) (a : Int) (h : RF w S x R T L) :
    Calls Try.prog 22 #[.pointer (some ⟨x, 0, none⟩), .int .i64 a] w fun r w' => r = .returned (.int .i64 (idx L a)) ∧ w' = w := by
  have hl := h.len
  obtain ⟨v1, v2, h1, h2⟩ := h.ex
  obtain ⟨A1, c1, A2, c2, rfl, rfl, l1, l2⟩ := h1.head
  have HX := Lib.hid h1
  rw [List.length_map] at l1
  obtain ⟨n, hn⟩ : ∃ n, n = L.length := ⟨_, rfl⟩
  have HN := Lib.hid hn
  have d1 : w.cell? ⟨x, 1, none⟩ = some (.slice A1 n c1) := by rw [hn]; have := h1.hx.cell (o := 1) rfl; rwa [List.length_map] at this
  rw [← hn] at hl
  clear h h1 h2 l1 l2 hn
  go_enter Try.func22, Try.ntmps22
  go_wp2_with fail
  go_loopw [5] (fun s wr => ∃ k : Nat, s = .int .i64 k ∧ k ≤ n ∧ Hid (∀ j, j < k → (L.getD j it0).id ≠ a) ∧ Hid (wr = w)) (fun s _ => n - (intOf s).toNat)
  case atStart => exact ⟨0, rfl, by omega, fun j hj => absurd hj (by omega), show _ = _ from rfl⟩
  case round =>
    obtain ⟨k, rfl, hk, hno, hw⟩ := hrel
    have hw' := hw.out
    subst hw'
    by_cases hlt : k < n
    · have hkL : k < L.length := by rw [← HN.out]; exact hlt
      obtain ⟨b, hA, hb, c0⟩ := ov_cell (k := k) HX.out.o1 (by rw [List.length_map, ← HN.out]; omega) (by rw [List.length_map]; exact hkL)
      rw [map_getD_id L hkL] at c0
      have HA := Lib.hid hA
      rw [hA] at d1
      have kn' : (k : Int) < (n : Int) := by omega
      by_cases hx : (L.getD k it0).id = a
      · have HE : Hid (idx L a = k) := idx_in hkL hx hno.out
        rw [hx] at c0
        clear hx hA
        go_wp2
        go_ret
        exact ⟨by rw [HE.out]; rfl, rfl⟩
      · have HNO : Hid (∀ j, j < k + 1 → (L.getD j it0).id ≠ a) := by
          intro j hj
          by_cases e : j = k
          · rw [e]; exact hx
          · exact hno.out j (by omega)
        generalize (L.getD k it0).id = y at c0 hx
        have b1 : (y == a) = false := by simpa using hx
        clear hx hA
        go_wp2
        go_roundw
        case rel => exact ⟨k + 1, by go_num, by omega, HNO, by first | exact True.intro | exact rfl⟩
        case measure => simp [intOf]; omega
    · have HE : Hid (idx L a = -1) := idx_out (fun j hj => hno.out j (by rw [← HN.out] at hj; omega))
      have b1 : decide ((k : Int) < (n : Int)) = false := by simp; omega
      go_wp2
      go_ret
      exact ⟨by rw [HE.out]; rfl, rfl⟩
set_option maxHeartbeats 1000000 in
theorem rticket_any (x : Nat) (R T : Int) (L : List It) (S : Nat → Prop) (w : World) (a : Int) (h : RF w S x R T L) :
    Calls Try.prog 24 #[.pointer (some ⟨x, 0, none⟩), .int .i64 a] w fun r w' => r = .returned (.int .i64 (tkt L a)) ∧ w' = w := by
  have hl := h.len
  have CP := Lib.hid (rplace_any x R T L S w a h)
  obtain ⟨v1, v2, h1, h2⟩ := h.ex
  obtain ⟨A1, c1, A2, c2, rfl, rfl, l1, l2⟩ := h1.head
  rcases idx_cases L a with ⟨k, hk, hkl, hk1, hk2⟩ | ⟨hk, hk2⟩
  · have e : tkt L a = (L.getD k it0).tk := by unfold tkt; rw [hk, if_pos (by omega)]; rfl
    rw [hk] at CP
    obtain ⟨b, hA, hb, c0⟩ := ov_cell (k := k) h1.o2 (by rw [List.length_map]; omega) (by rw [List.length_map]; exact hkl)
    rw [map_getD_tk L hkl] at c0
    have d2 : w.cell? ⟨x, 2, none⟩ = some (.slice A2 (L.map It.tk).length c2) := h1.hx.cell (o := 2) rfl
    rw [hA, List.length_map] at d2
    rw [e]
    generalize (L.getD k it0).tk = z at c0
    generalize L.length = n at hl hkl d2
    have kn : (k : Int) < (n : Int) := by omega
    have b1 : decide ((k : Int) < 0) = false := by simp
    clear h h1 h2 l1 l2 e hk hk1 hk2 hA
    go_enter Try.func24, Try.ntmps24
    go_wp2_with (go_at_call 22; refine CP.out.mono ?_; rintro e w2 ⟨rfl, rfl⟩)
    go_ret
    exact ⟨rfl, rfl⟩
  · have e : tkt L a = 0 := by unfold tkt; rw [hk, if_neg (by omega)]
    rw [hk] at CP
    rw [e]
    clear h h1 h2 l1 l2 e hk hk2
    go_enter Try.func24, Try.ntmps24
    go_wp2_with (go_at_call 22; refine CP.out.mono ?_; rintro e w2 ⟨rfl, rfl⟩)
    go_ret
    exact ⟨rfl, rfl⟩
end Go.Proofs.Ythakginneapdeaa
