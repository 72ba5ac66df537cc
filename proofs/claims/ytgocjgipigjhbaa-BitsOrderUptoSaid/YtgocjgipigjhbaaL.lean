/- Lists of numbers as they lie in memory; the contract of Of. -/
import Derived.Test.YtgocjgipigjhbaaC3
import Derived.Deep.Slices
import Derived.Deep.Fields
import Derived.ChangeSame
namespace Go.Proofs.Ytgocjgipigjhbaa
open Go.ChangeShapes Go.WideShapes Go.ChangeAt Go.RowKit Go.Deep
/-- A slice of n numbers at A reads as zs. -/
structure Rd (w : World) (A : Option Addr) (n : Nat) (zs : List Int) : Prop where
  len : zs.length = n
  max : n ≤ 9223372036854775807
  at_ : 0 < n → ∃ b off, A = some ⟨b, off, none⟩ ∧ b < w.heap.size ∧ ∀ k, k < n → w.cell? ⟨b, off + k, none⟩ = some (.int .i64 (zs.getD k 0))
  fit : ∀ k, inR (zs.getD k 0)
theorem Rd.no {w w' : World} {A : Option Addr} {n : Nat} {zs : List Int} (h : Rd w A n zs) (hb : But No w w') : Rd w' A n zs :=
  ⟨h.len, h.max, fun hn => by
    obtain ⟨b, off, e, hl, hc⟩ := h.at_ hn
    exact ⟨b, off, e, Nat.lt_of_lt_of_le hl hb.size, fun k hk => by rw [hb.cell hl (fun f => f)]; exact hc k hk⟩, h.fit⟩
theorem rd_of {H : Type} {enc : TypeId × Value → H} {W : World} {base : Nat} {v : Value} {d : DataW H} {p : List MemPlace} (hv : Value.okWide Try.prog W .any base 29 v) (h : DataW.Trod enc Try.prog W 0 (fun _ => true) true 29 v d p) :
    ∃ (A : Option Addr) (n c : Nat) (zs : List Int), v = .slice A n c ∧ Rd W A n zs ∧ n ≤ c := by
  obtain ⟨a0, len, cap, rfl⟩ := okWide_slice Try.underlying29 hv
  obtain ⟨fuel, hf⟩ := h
  refine ⟨a0, len, cap, ?_⟩
  rcases open_ints Try.underlying29 Try.underlying3 (by kernel_rfl) hf with ⟨hcs, hx⟩ | ⟨a, len', cap', zs, hcs, _, hl, hm, hz, hx, hcell, hwz⟩
  · simp [Value.cells] at hcs
    obtain ⟨rfl, rfl, rfl⟩ := hcs
    exact ⟨[], rfl, ⟨rfl, by omega, fun h => absurd h (by omega), fun k => by simp [inR]⟩, Nat.le_refl _⟩
  · simp [Value.cells] at hcs
    obtain ⟨rfl, rfl, rfl⟩ := hcs
    simp only [if_true] at hz
    unfold maxLen at hm
    have hlen : (zs.take len).length = len := by rw [List.length_take]; omega
    refine ⟨zs.take len, rfl, ⟨hlen, by omega, fun hn => ?_, fun k => ?_⟩, hl⟩
    · obtain ⟨b, off, spot⟩ := a
      have hspot : spot = none := by simpa [Addr.add] using World.cell?_spot (hcell 0 (by omega))
      subst hspot
      refine ⟨b, off, rfl, World.block_lt_of_cell? W _ (hcell 0 (by omega)), fun k hk => ?_⟩
      rw [← add_plain, hcell k (by omega)]
      simp [List.getD, hk]
    · by_cases hk : k < (zs.take len).length
      · have : (zs.take len).getD k 0 = (zs.take len)[k] := by simp [List.getD, List.getElem?_eq_getElem hk]
        rw [this]
        exact inR_of (hwz _ (List.mem_of_mem_take (List.getElem_mem hk)))
      · have : (zs.take len).getD k 0 = 0 := by simp only [List.getD]; rw [List.getElem?_eq_none (by omega)]; rfl
        rw [this]; unfold inR; omega
def isLv (z : Int) : Bool := decide (0 ≤ z) && decide (z < 256)
def lvs (zs : List Int) : Bool := zs.all isLv
def Q.of (zs : List Int) : Q := zs.foldl (fun s i => s.withI i) Q.zero
theorem Q.of_ok (zs : List Int) : (Q.of zs).ok := by
  unfold Q.of
  have : ∀ (zs : List Int) (s : Q), s.ok → (zs.foldl (fun s i => s.withI i) s).ok := by
    intro zs
    induction zs with
    | nil => exact fun s h => h
    | cons z zs ih => exact fun s h => ih _ (Q.withI_ok h z)
  exact this zs _ Q.zero_ok
theorem Q.of_snoc (zs : List Int) (z : Int) : Q.of (zs ++ [z]) = (Q.of zs).withI z := by unfold Q.of; rw [List.foldl_append]; rfl
theorem take_snoc {zs : List Int} {k : Nat} (h : k < zs.length) : zs.take (k + 1) = zs.take k ++ [zs.getD k 0] := by
  rw [List.take_succ_eq_append_getElem h]
  simp [List.getD, List.getElem?_eq_getElem h]
theorem isLv_iff (z : Int) : isLv z = true ↔ 0 ≤ z ∧ z < 256 := by unfold isLv; simp
theorem lvs_get {zs : List Int} (h : lvs zs = true) {k : Nat} (hk : k < zs.length) : 0 ≤ zs.getD k 0 ∧ zs.getD k 0 < 256 := by
  unfold lvs at h
  rw [List.all_eq_true] at h
  have e : zs.getD k 0 = zs[k] := by simp [List.getD, List.getElem?_eq_getElem hk]
  rw [e]
  exact (isLv_iff _).1 (h _ (List.getElem_mem hk))
theorem lvs_not {zs : List Int} {k : Nat} (hk : k < zs.length) (h : zs.getD k 0 < 0 ∨ 256 ≤ zs.getD k 0) : lvs zs = false := by
  cases e : lvs zs with
  | false => rfl
  | true => have := lvs_get e hk; omega
def ofAns (zs : List Int) : Q := if lvs zs then Q.of zs else Q.zero
def ofErr (zs : List Int) : Int := if lvs zs then 0 else 1
theorem ofAns_ok (zs : List Int) : (ofAns zs).ok := by
  unfold ofAns
  split
  · exact Q.of_ok _
  · exact Q.zero_ok
abbrev zeros4 : Array Value := #[.int .u64 0, .int .u64 0, .int .u64 0, .int .u64 0]
set_option maxHeartbeats 4000000 in
theorem of_any (A : Option Addr) (n c : Nat) (zs : List Int) (w : World) (hz : Rd w A n zs) : Calls Try.prog 21 #[.slice A n c] w fun e w' => e = .returned (.tuple #[sv (ofAns zs), .int .i64 (ofErr zs)]) ∧ But No w w' := by
  have hmx := hz.max
  have HZ := Lib.hid hz
  have HL := Lib.hid hz.len
  clear hz
  have HB0 : Hid (But No w ((w.alloc (.cells zeros4 26)).alloc (.cells zeros4 26))) := ((But.refl _ _).alloc _).alloc _
  have HP0 : Hid (Blk ((w.alloc (.cells zeros4 26)).alloc (.cells zeros4 26)) w.heap.size zeros4 26) := (Blk.new w _ _).but (S := No) ((But.refl _ _).alloc _) (fun f => f)
  have HQ0 : Hid (Blk ((w.alloc (.cells zeros4 26)).alloc (.cells zeros4 26)) (w.heap.size + 1) (cells4 (Q.of (zs.take 0))) 26) := by
    have := Blk.new (w.alloc (.cells zeros4 26)) zeros4 26
    have h2 : (w.alloc (.cells zeros4 26)).heap.size = w.heap.size + 1 := by simp
    rw [h2] at this
    exact this
  go_enter Try.func21, Try.ntmps21
  go_wp2
  go_loopw [9, 6] (fun t _ wr => ∃ k : Nat, t = .int .i64 k ∧ k ≤ n ∧ Hid (∀ j, j < k → 0 ≤ zs.getD j 0 ∧ zs.getD j 0 < 256) ∧ Hid (Blk wr w.heap.size zeros4 26) ∧ Hid (Blk wr (w.heap.size + 1) (cells4 (Q.of (zs.take k))) 26) ∧ Hid (But No w wr)) (fun t _ _ => n - (intOf t).toNat)
  case atStart => exact ⟨0, rfl, by omega, fun j hj => absurd hj (by omega), HP0, HQ0, HB0⟩
  case round =>
    obtain ⟨k, rfl, hk, hall, hp, hq, hb⟩ := hrel
    have c0 := hq.out.cell (o := 0) rfl
    have c1 := hq.out.cell (o := 1) rfl
    have c2 := hq.out.cell (o := 2) rfl
    have c3 := hq.out.cell (o := 3) rfl
    have d0 := hp.out.cell (o := 0) rfl
    have d1 := hp.out.cell (o := 1) rfl
    have d2 := hp.out.cell (o := 2) rfl
    have d3 := hp.out.cell (o := 3) rfl
    have f0 := hp.out.frozen 0
    have f1 := hp.out.frozen 1
    have f2 := hp.out.frozen 2
    have f3 := hp.out.frozen 3
    by_cases hlt : k < n
    · obtain ⟨b, off, rfl, hbl, hc⟩ := (HZ.out.no hb.out).at_ (by omega)
      have hck := hc k hlt
      clear hc
      have kn' : (k : Int) < (n : Int) := by omega
      obtain ⟨z, hze⟩ : ∃ z, z = zs.getD k 0 := ⟨_, rfl⟩
      rw [← hze] at hck
      have HE := Lib.hid hze
      clear hze
      by_cases hl : 0 ≤ z ∧ z < 256
      · have CL : Hid (∀ w, Calls Try.prog 23 #[.int .i64 z] w fun e w' => e = .returned (.bool true) ∧ w = w') := fun w => level_yes z w hl.1 hl.2
        obtain ⟨s, hs⟩ : ∃ s, Q.of (zs.take k) = s := ⟨_, rfl⟩
        have HS : Hid (Q.of (zs.take (k + 1)) = s.withI z) := by
          show _ = _
          rw [take_snoc (by rw [HL.out]; exact hlt), Q.of_snoc, hs, ← HE.out]
        have hok : s.ok := by rw [← hs]; exact Q.of_ok _
        have CW : Hid (∀ w, Calls Try.prog 18 #[sv s, .int .i64 z] w fun e w' => e = .returned (sv (s.withI z)) ∧ But No w w') := fun w => with_any s z w hok
        have hall' : Hid (∀ j, j < k + 1 → 0 ≤ zs.getD j 0 ∧ zs.getD j 0 < 256) := by
          intro j hj
          by_cases e : j = k
          · subst e; rw [← HE.out]; exact hl
          · exact hall.out j (by omega)
        rw [hs] at c0 c1 c2 c3 hq
        obtain ⟨s', hs'⟩ : ∃ s', s.withI z = s' := ⟨_, rfl⟩
        rw [hs'] at CW HS
        clear hl hs hok hs'
        go_wp2_with (first | (go_at_call 23; (with_reducible refine (CL.out _).mono ?_); rintro e w' ⟨rfl, rfl⟩) | (go_at_call 18; (with_reducible refine (CW.out _).mono ?_); rintro e w2 ⟨rfl, hb2⟩; have HQ2 := Lib.hid (hq.out.but hb2 (fun f => f)); have HP2 := Lib.hid (hp.out.but hb2 (fun f => f)); have HB2 := Lib.hid (hb.out.trans hb2); clear hb2; have e0 := HQ2.out.cell (o := 0) rfl; have e1 := HQ2.out.cell (o := 1) rfl; have e2 := HQ2.out.cell (o := 2) rfl; have e3 := HQ2.out.cell (o := 3) rfl; have g0 := HQ2.out.frozen 0; have g1 := HQ2.out.frozen 1; have g2 := HQ2.out.frozen 2; have g3 := HQ2.out.frozen 3))
        go_roundw
        case rel =>
          refine ⟨k + 1, by go_num, by omega, hall', ?_, ?_, ?_⟩
          · have hne : w.heap.size ≠ w.heap.size + 1 := by omega
            exact (((HP2.out.other (a := ⟨w.heap.size + 1, 0, none⟩) hne _).other (a := ⟨w.heap.size + 1, 1, none⟩) hne _).other (a := ⟨w.heap.size + 1, 2, none⟩) hne _).other (a := ⟨w.heap.size + 1, 3, none⟩) hne _
          · rw [HS.out]
            exact (((HQ2.out.set 0 _).set 1 _).set 2 _).set 3 _
          · exact (((HB2.out.setNew (p := ⟨w.heap.size + 1, _, none⟩) (Nat.le_succ _) _).setNew (p := ⟨w.heap.size + 1, _, none⟩) (Nat.le_succ _) _).setNew (p := ⟨w.heap.size + 1, _, none⟩) (Nat.le_succ _) _).setNew (p := ⟨w.heap.size + 1, _, none⟩) (Nat.le_succ _) _
        case measure => simp [intOf]; omega
      · have CL : Hid (∀ w, Calls Try.prog 23 #[.int .i64 z] w fun e w' => e = .returned (.bool false) ∧ w = w') := fun w => level_no z w (by omega)
        have HN : Hid (lvs zs = false) := lvs_not (k := k) (by rw [HL.out]; exact hlt) (by rw [← HE.out]; omega)
        clear hl
        go_wp2_with (first | (go_at_call 23; (with_reducible refine (CL.out _).mono ?_); rintro e w' ⟨rfl, rfl⟩))
        refine bodyPost_ret (v := .tuple #[.agg zeros4, .int .i64 1]) (by simp [results, Try.results21, go_sem, d0, d1, d2, d3]) rfl ⟨?_, ?_⟩
        · unfold ofAns ofErr; rw [HN.out]; rfl
        · exact (((hb.out.setNew (p := ⟨w.heap.size, _, none⟩) (Nat.le_refl _) _).setNew (p := ⟨w.heap.size, _, none⟩) (Nat.le_refl _) _).setNew (p := ⟨w.heap.size, _, none⟩) (Nat.le_refl _) _).setNew (p := ⟨w.heap.size, _, none⟩) (Nat.le_refl _) _
    · obtain rfl : k = n := by omega
      have HN : Hid (lvs zs = true) := by
        show _ = _
        unfold lvs
        rw [List.all_eq_true]
        intro z hz
        obtain ⟨j, hj, rfl⟩ := List.mem_iff_getElem.1 hz
        have := hall.out j (by rw [← HL.out]; exact hj)
        rw [isLv_iff]
        simpa [List.getD, List.getElem?_eq_getElem hj] using this
      have ht : zs.take k = zs := List.take_of_length_le (by rw [HL.out]; exact Nat.le_refl _)
      rw [ht] at c0 c1 c2 c3
      clear ht
      obtain ⟨s, hs⟩ : ∃ s, Q.of zs = s := ⟨_, rfl⟩
      rw [hs] at c0 c1 c2 c3
      have HS := Lib.hid hs
      clear hs
      go_wp2
      refine bodyPost_ret (v := .tuple #[sv s, .int .i64 0]) (by simp [results, Try.results21, go_sem, d0, d1, d2, d3]) rfl ⟨?_, ?_⟩
      · unfold ofAns ofErr; rw [HN.out, HS.out]; rfl
      · exact (((hb.out.setNew (p := ⟨w.heap.size, _, none⟩) (Nat.le_refl _) _).setNew (p := ⟨w.heap.size, _, none⟩) (Nat.le_refl _) _).setNew (p := ⟨w.heap.size, _, none⟩) (Nat.le_refl _) _).setNew (p := ⟨w.heap.size, _, none⟩) (Nat.le_refl _) _
end Go.Proofs.Ytgocjgipigjhbaa
