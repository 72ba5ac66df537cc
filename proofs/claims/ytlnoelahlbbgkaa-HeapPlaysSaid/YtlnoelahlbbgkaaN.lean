/- Lists of numbers that the law makes: slices that own their rows; the contract of numbers. -/
import Derived.Test.YtlnoelahlbbgkaaHeapSortsW
namespace Go.Proofs.Ytlnoelahlbbgkaa
open Go.ChangeShapes Go.WideShapes Go.ChangeAt Go.RowKit
/-- A slice of n numbers at A reads as zs. -/
structure Rl (w : World) (A : Option Addr) (n : Nat) (zs : List Int) : Prop where
  len : zs.length = n
  max : n ≤ 9223372036854775807
  at_ : 0 < n → ∃ b off, A = some ⟨b, off, none⟩ ∧ b < w.heap.size ∧ ∀ k, k < n → w.cell? ⟨b, off + k, none⟩ = some (.int .i64 (zs.getD k 0))
theorem Rl.no {w w' : World} {A : Option Addr} {n : Nat} {zs : List Int} (h : Rl w A n zs) (hb : But No w w') : Rl w' A n zs :=
  ⟨h.len, h.max, fun hn => by
    obtain ⟨b, off, e, hl, hc⟩ := h.at_ hn
    exact ⟨b, off, e, Nat.lt_of_lt_of_le hl hb.size, fun k hk => by rw [hb.cell hl (fun f => f)]; exact hc k hk⟩⟩
theorem Ints.rl {w : World} {b : Nat} {zs : List Int} (h : Ints w b zs) (hm : zs.length ≤ 1000) : Rl w (some ⟨b, 0, none⟩) zs.length zs :=
  ⟨rfl, by omega, fun _ => ⟨b, 0, rfl, h.lt, fun k hk => by rw [Nat.zero_add]; exact h.cell hk⟩⟩
/-- v is a slice of the law's own that reads as zs. -/
def Ov (w : World) (v : Value) (zs : List Int) : Prop := w.ownsRow 0 3 1 v zs.length (zs.map (Value.int .i64))
theorem Ov.nil (w : World) : Ov w (.slice none 0 0) [] := World.ownsRow_nil _ _ _ _
theorem Ov.but {w w' : World} {v : Value} {zs : List Int} {S : Nat → Prop} (h : Ov w v zs) (hb : But S w w') (hs : ∀ k, v.ownBlock = some k → ¬ S k) : Ov w' v zs := owns_but h hb hs
theorem Ov.slice {w : World} {v : Value} {zs : List Int} (h : Ov w v zs) : ∃ A c, v = .slice A zs.length c ∧ zs.length ≤ c := by
  obtain ⟨h1, h2⟩ := h
  rcases h2 with ⟨h2, e⟩ | ⟨g, cap, cur, hv, _, _, hc, _⟩
  · exact ⟨none, 0, by rw [e]; exact h2, by omega⟩
  · exact ⟨_, _, hv, hc⟩
theorem Ov.rl {w : World} {A : Option Addr} {n c : Nat} {zs : List Int} (h : Ov w (.slice A n c) zs) (hm : zs.length ≤ 1000) : Rl w A n zs ∧ n = zs.length := by
  obtain ⟨h1, h2⟩ := h
  rcases h2 with ⟨h2, e⟩ | ⟨g, cap, cur, hv, _, hh, hc, _, hs, ht⟩
  · cases h2
    exact ⟨⟨e, by omega, fun h => absurd h (by omega)⟩, e.symm⟩
  · cases hv
    refine ⟨⟨rfl, by omega, fun hn => ⟨g, 0, rfl, Blk.lt hh, fun k hk => ?_⟩⟩, rfl⟩
    rw [Nat.zero_add]
    refine Blk.cell hh ?_
    have e : (cur.toList.take (zs.length * 1))[k]? = some (.int .i64 (zs.getD k 0)) := by
      rw [ht]; simp [hk]
    rw [List.getElem?_take, if_pos (by omega)] at e
    simpa using e
theorem one_news (w : World) (x : Int) : ∀ j u, [Value.int .i64 x][j]? = some u → (w.alloc (.cells #[.int .i64 x] 3)).cell? ((⟨w.heap.size, 0, none⟩ : Addr).add j) = some u :=
  World.news_of_block (cs := #[.int .i64 x]) (t := 3) (fr := (0, 0)) (Blk.new w _ _)
/-- What an append to a slice of the law's own leaves. -/
theorem Ov.app {w0 w w2 : World} {v : Value} {zs : List Int} {x : Int} {g cap : Nat} (hb : But No w0 w) (hn : ∀ k, v.ownBlock = some k → w0.heap.size ≤ k)
    (ho : w2.ownsRow 0 3 1 (.slice (some ⟨g, 0, none⟩) (zs.length + 1) cap) (zs.length + 1) (zs.map (Value.int .i64) ++ [.int .i64 x])) (hg : (w.alloc (.cells #[.int .i64 x] 3)).grownBy w2 v.ownBlock) (hat : v.ownBlock = some g ∨ g = w.heap.size + 1) :
    Ov w2 (.slice (some ⟨g, 0, none⟩) (zs.length + 1) cap) (zs ++ [x]) ∧ But No w0 w2 ∧ ∀ k, (Value.slice (some ⟨g, 0, none⟩) (zs.length + 1) cap).ownBlock = some k → w0.heap.size ≤ k := by
  refine ⟨?_, (hb.alloc _).grown hg (fun k e => .inr (hn k e)), fun k e => ?_⟩
  · unfold Ov; rw [List.length_append, List.map_append]; exact ho
  · have e' : k = g := by simpa [Value.ownBlock] using e.symm
    have := hb.size
    rcases hat with h | h
    · rw [e']; exact hn g h
    · omega
theorem retb {a b : Bool} (h : a = b) : Ending.returned (.bool a) = .returned (.bool b) := by rw [h]
theorem list_ne {zs ts : List Int} {k : Nat} (_ : k < zs.length) (hne : zs.getD k 0 ≠ ts.getD k 0) : decide (zs = ts) = false := by
  rw [decide_eq_false_iff_not]; rintro rfl; exact hne rfl
theorem list_eq {zs ts : List Int} (hl : zs.length = ts.length) (h : ∀ j, j < zs.length → zs.getD j 0 = ts.getD j 0) : decide (zs = ts) = true := by
  rw [decide_eq_true_iff]
  apply List.ext_getElem hl
  intro j h1 h2
  have := h j h1
  simpa [List.getD, List.getElem?_eq_getElem h1, List.getElem?_eq_getElem h2] using this
set_option maxHeartbeats 1000000 in
theorem numbers_any (A B : Option Addr) (n m c d : Nat) (zs ts : List Int) (w : World) (hz : Rl w A n zs) (ht : Rl w B m ts) :
    Calls Try.prog 24 #[.slice A n c, .slice B m d] w fun e w' => e = .returned (.bool (decide (zs = ts))) ∧ But No w w' := by
  have hlz := hz.len
  have hlt := ht.len
  have hmx := hz.max
  have hmy := ht.max
  by_cases hnm : n = m
  · subst hnm
    have HL : Hid (zs.length = n ∧ ts.length = n) := ⟨hlz, hlt⟩
    have HZ := Lib.hid hz
    have HT := Lib.hid ht
    clear hz ht hlz hlt
    go_enter Try.func24, Try.ntmps24
    go_wp2
    go_loopw [5] (fun i wr => ∃ k : Nat, k ≤ n ∧ i = .int .i64 k ∧ Hid (∀ j, j < k → zs.getD j 0 = ts.getD j 0) ∧ Hid (But No w wr)) (fun i _ => n - (intOf i).toNat)
    case atStart => exact ⟨0, by omega, rfl, fun j hj => absurd hj (by omega), But.refl _ _⟩
    case round =>
      obtain ⟨k, hk, rfl, hall, hbw⟩ := hrel
      by_cases hlt : k < n
      · obtain ⟨b, off, rfl, hb, hc⟩ := (HZ.out.no hbw.out).at_ (by omega)
        obtain ⟨b', off', rfl, hb', hc'⟩ := (HT.out.no hbw.out).at_ (by omega)
        have hck := hc k hlt
        have hck' := hc' k hlt
        clear hc hc'
        have kn' : (k : Int) < (n : Int) := by omega
        obtain ⟨z, hze⟩ : ∃ z, z = zs.getD k 0 := ⟨_, rfl⟩
        obtain ⟨t, hte⟩ : ∃ t, t = ts.getD k 0 := ⟨_, rfl⟩
        rw [← hze] at hck
        rw [← hte] at hck'
        by_cases h1 : z = t
        · have hall' : Hid (∀ j, j < k + 1 → zs.getD j 0 = ts.getD j 0) := by
            intro j hj
            by_cases e : j = k
            · subst e; rw [← hze, ← hte]; exact h1
            · exact hall.out j (by omega)
          have h1' : (z != t) = false := by simpa using h1
          clear hze hte h1
          go_wp2_with fail
          go_quiet (fail)
          go_wp2
          go_roundw
          case rel => exact ⟨k + 1, by omega, by go_num, hall', hbw.out.drewN _⟩
          case measure => simp [intOf]; omega
        · have hE : Hid (decide (zs = ts) = false) := list_ne (k := k) (by rw [HL.out.1]; exact hlt) (by rw [← hze, ← hte]; exact h1)
          have h1' : (z != t) = true := by simpa using h1
          clear hze hte h1
          go_wp2_with fail
          go_quiet (fail)
          go_wp2
          go_ret
          exact ⟨retb hE.out.symm, hbw.out.drewN _⟩
      · have hE : Hid (decide (zs = ts) = true) := list_eq (by rw [HL.out.1, HL.out.2]) (fun j hj => hall.out j (by have := HL.out.1; omega))
        go_wp2
        go_ret
        exact ⟨retb hE.out.symm, hbw.out⟩
  · have hE : Hid (decide (zs = ts) = false) := by show _ = _; rw [decide_eq_false_iff_not]; rintro rfl; omega
    have hne : ((n : Int) != (m : Int)) = true := by simp; omega
    clear hz ht hlz hlt
    go_enter Try.func24, Try.ntmps24
    go_wp2
    all_goals go_ret
    all_goals exact ⟨retb hE.out.symm, But.refl _ _⟩
end Go.Proofs.Ytlnoelahlbbgkaa
