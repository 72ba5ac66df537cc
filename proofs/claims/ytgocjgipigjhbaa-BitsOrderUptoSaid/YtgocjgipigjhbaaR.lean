/- The document's own answers: the contracts of Levels, Words, Next and Of of the reference. -/
import Derived.Test.YtgocjgipigjhbaaL
namespace Go.Proofs.Ytgocjgipigjhbaa
open Go.ChangeShapes Go.WideShapes Go.ChangeAt Go.RowKit
theorem info4 : (Try.prog.info? 4).map (fun i => (i.zero, i.size, i.bytes)) = some (some (.bool false), 1, 1) := by kernel_rfl
theorem info_parts {e : TypeId} {z : Value} {n m : Nat} (h : (Try.prog.info? e).map (fun i => (i.zero, i.size, i.bytes)) = some (some z, n, m)) : ∃ i, Try.prog.info? e = some i ∧ i.zero = some z ∧ i.size = n ∧ i.bytes = m := by
  cases hi : Try.prog.info? e with
  | none => rw [hi] at h; cases h
  | some i =>
    rw [hi] at h
    simp at h
    exact ⟨i, rfl, h.1, h.2.1, h.2.2⟩
/-- Block b holds just these n values. -/
def Vals (w : World) (b : Nat) (e : TypeId) (n : Nat) (f : Nat → Value) : Prop := Blk w b ((List.range n).map f).toArray e
theorem Vals.set {w : World} {b n k : Nat} {e : TypeId} {f : Nat → Value} (h : Vals w b e n f) (v : Value) : Vals (w.setCell ⟨b, k, none⟩ v) b e n (fun j => if j = k then v else f j) := by
  have h1 := Blk.set h k v
  have e : ((((List.range n).map f)).toArray.setIfInBounds k v) = (((List.range n).map (fun j => if j = k then v else f j))).toArray := by
    apply Array.ext'
    apply List.ext_getElem?
    intro j
    simp only [List.setIfInBounds_toArray, List.getElem?_set, List.getElem?_map, List.length_map, List.length_range]
    by_cases hj : j < n
    · by_cases e : j = k
      · subst e; simp [hj]
      · simp [hj, e, Ne.symm e]
    · by_cases e : k = j
      · subst e; simp [hj]
      · simp [hj, e]
  show Blk _ _ _ _
  rw [← e]; exact h1
theorem Vals.congr {w : World} {b n : Nat} {e : TypeId} {f g : Nat → Value} (h : Vals w b e n f) (he : ∀ j, j < n → g j = f j) : Vals w b e n g := by
  have : (List.range n).map g = (List.range n).map f := List.map_congr_left (fun j hj => he j (List.mem_range.1 hj))
  unfold Vals; rw [this]; exact h
theorem Vals.but {w w' : World} {b n : Nat} {e : TypeId} {f : Nat → Value} {S : Nat → Prop} (h : Vals w b e n f) (hb : But S w w') (hs : ¬ S b) : Vals w' b e n f := Blk.but h hb hs
theorem Vals.cell {w : World} {b n : Nat} {e : TypeId} {f : Nat → Value} (h : Vals w b e n f) {k : Nat} (hk : k < n) : w.cell? ⟨b, k, none⟩ = some (f k) := by
  refine Blk.cell h ?_
  simp [hk]
theorem Vals.frozen {w : World} {b n : Nat} {e : TypeId} {f : Nat → Value} (h : Vals w b e n f) (k : Nat) : w.frozen? ⟨b, k, none⟩ = false := Blk.frozen h k
theorem Vals.lt {w : World} {b n : Nat} {e : TypeId} {f : Nat → Value} (h : Vals w b e n f) : b < w.heap.size := Blk.lt h
theorem bools_made {w : World} {b n : Nat} (h : w.ownsRow 0 4 1 (.slice (some ⟨b, 0, none⟩) n n) n (madeCells (Value.bool false).cells (n * 1)).toList) : Vals w b 4 n (fun _ => .bool false) := by
  obtain ⟨h1, h2⟩ := h
  rcases h2 with ⟨h2, _⟩ | ⟨g, cap, cur, hv, _, hh, hn, hc, hs, ht⟩
  · cases h2
  · cases hv
    have e : cur = (((List.range n).map (fun _ => Value.bool false))).toArray := by
      apply Array.ext'
      have e1 : cur.toList.take (n * 1) = cur.toList := List.take_of_length_le (by simp; omega)
      rw [e1] at ht
      rw [ht]
      have : (Value.bool false).cells = #[.bool false] := rfl
      rw [this, toList_madeCells_one]
      apply List.ext_getElem?
      intro j
      by_cases hj : j < n
      · simp [hj]
      · simp [hj]
    show w.heap[b]? = _
    rw [hh, e]
/-- A block of 256 answers. -/
def Bl (w : World) (b : Nat) (f : Nat → Bool) : Prop := Vals w b 4 256 (fun j => .bool (f j))
def BlEnd (w : World) (f : Nat → Bool) (e : Ending) (w' : World) : Prop := ∃ b, e = .returned (.slice (some ⟨b, 0, none⟩) 256 256) ∧ Bl w' b f ∧ But No w w' ∧ w.heap.size ≤ b
theorem shr_bit (x r : Nat) : (((x : Int) / 2 ^ r).tmod 2 == 1) = x.testBit r := by
  have e : ((2 ^ r : Nat) : Int) = 2 ^ r := by rw [Int.natCast_pow]; rfl
  rw [Nat.testBit_eq_decide_div_mod_eq, ← e]
  generalize 2 ^ r = z
  have : ((x : Int) / (z : Int)).tmod 2 = ((x / z % 2 : Nat) : Int) := by
    rw [← Int.natCast_ediv]
    generalize x / z = y
    rw [Int.tmod_eq_emod_of_nonneg (by omega)]
    omega
  rw [this]
  rcases Nat.mod_two_eq_zero_or_one (x / z) with h | h <;> rw [h] <;> rfl
theorem box23 (w : World) (s : Q) : ∃ w1, w.alloc (.cells #[.int .u64 s.a, .int .u64 s.b, .int .u64 s.c, .int .u64 s.d] 23) = w1 ∧ But No w w1 ∧ Blk w1 w.heap.size (cells4 s) 23 :=
  ⟨_, rfl, (But.refl _ _).alloc _, Blk.new w _ _⟩
theorem word_cell {w : World} {b : Nat} {e : TypeId} {s : Q} (h : Blk w b (cells4 s) e) {k : Nat} (hk : k < 4) : w.cell? ⟨b, k, none⟩ = some (.int .u64 (s.w k)) := by
  match k, hk with
  | 0, _ => exact h.cell rfl
  | 1, _ => exact h.cell rfl
  | 2, _ => exact h.cell rfl
  | 3, _ => exact h.cell rfl
set_option maxHeartbeats 4000000 in
set_option maxRecDepth 100000 in
theorem levels_any (s : Q) (w : World) (hs : s.ok) : Calls Try.prog 11 #[sv s] w (BlEnd w s.has) := by
  obtain ⟨w1, hw1, hb1, hp⟩ := box23 w s
  have HW1 := Lib.hid hw1
  have HB1 := Lib.hid hb1
  have HP := Lib.hid hp
  obtain ⟨i0, hi0, hz0, hz1, hz2⟩ := info_parts info4
  have I0 : Hid (Try.prog.info? 4 = some i0 ∧ i0.zero = some (.bool false) ∧ i0.size = 1 ∧ i0.bytes = 1) := ⟨hi0, hz0, hz1, hz2⟩
  have hsz : w.heap.size + 1 = w1.heap.size := by rw [← hw1]; simp
  have HSZ := Lib.hid hsz
  clear hi0 hz0 hz1 hz2 hw1 hb1 hp hsz
  go_enter Try.func11, Try.ntmps11
  go_wp2_with (first
    | (at_make; rw [HW1.out]; refine wpList_make_full _ rfl _ _ 27 rfl 0 4 i0 _ 1 Try.underlying27 I0.out.1 I0.out.2.1 I0.out.2.2.1 .i64 .i64 _ _ 256 rfl rfl (by omega) (by omega) (by rw [I0.out.2.2.2]; omega) (by unfold maxLen; omega) (Nat.zero_le _) ?_; intro w2 hown0 hgrow0; have hB0 : But No w1 w2 := (But.refl No w1).grown hgrow0 (fun k e => by cases e); have HB2 := Lib.hid (HB1.out.trans hB0); have HP2 := Lib.hid (HP.out.but hB0 (fun f => f)); have HI2 := Lib.hid (bools_made hown0); clear hown0 hgrow0 hB0))
  have HI3 : Hid (Bl w2 w1.heap.size (fun j => decide (j < 0) && s.has j)) := Vals.congr HI2.out (fun j _ => by simp)
  clear HI2
  go_loopw [4] (fun t wr => ∃ k : Nat, t = .int .i64 k ∧ k ≤ 256 ∧ Hid (Bl wr w1.heap.size (fun j => decide (j < k) && s.has j)) ∧ Hid (Blk wr w.heap.size (cells4 s) 23) ∧ Hid (But No w wr)) (fun t _ => 256 - (intOf t).toNat)
  case atStart => exact ⟨0, rfl, by omega, HI3, HP2, HB2⟩
  case round =>
    obtain ⟨k, rfl, hk, hi, hp, hb⟩ := hrel
    by_cases hlt : k < 256
    · have hcw := word_cell hp.out (k := k / 64) (by omega)
      have hcell := Vals.cell hi.out (k := k) hlt
      have hfz := Vals.frozen hi.out k
      have hwlt := Vals.lt hi.out
      have hxl := Q.w_lt hs (k / 64)
      have h4 : k / 64 < 4 := by omega
      obtain ⟨x, hx⟩ : ∃ x, s.w (k / 64) = x := ⟨_, rfl⟩
      rw [hx] at hcw hxl
      have HX := Lib.hid hx
      clear hx
      obtain ⟨o, ho⟩ : ∃ o, (decide (k < k) && s.has k) = o := ⟨_, rfl⟩
      dsimp only at hcell
      rw [ho] at hcell
      clear ho
      go_wp2
      refine ⟨⟨k + 1, by go_num, by omega, ?_, ?_, ?_⟩, by simp [intOf]; omega⟩
      · rw [shr_bit]
        refine Vals.congr (Vals.set hi.out (k := k) _) (fun j hj => ?_)
        by_cases e : j = k
        · subst e
          rw [if_pos rfl, ← HX.out]
          have : j < j + 1 := by omega
          simp only [this, decide_true, Bool.true_and]
          rfl
        · rw [if_neg e]
          have : decide (j < k + 1) = decide (j < k) := by simp only [decide_eq_decide]; omega
          dsimp only
          rw [this]
      · exact hp.out.other (a := ⟨w1.heap.size, k, none⟩) (by have := HSZ.out; show w.heap.size ≠ w1.heap.size; omega) _
      · exact hb.out.setNew (p := ⟨w1.heap.size, k, none⟩) (by have := HSZ.out; show w.heap.size ≤ w1.heap.size; omega) _
    · obtain rfl : k = 256 := by omega
      have HE : Hid (BlEnd w s.has (.returned (.slice (some ⟨w1.heap.size, 0, none⟩) 256 256)) wr) := by
        refine ⟨w1.heap.size, rfl, ?_, hb.out, by have := HSZ.out; omega⟩
        exact Vals.congr hi.out (fun j hj => by simp [hj])
      go_wp2
      go_ret
      exact HE.out
theorem scan_step {f : Nat → Bool} {k n : Nat} (h : f k = false) : scan f k (n + 1) = scan f (k + 1) n := by
  show (if f k then (k : Int) else _) = _
  rw [h, if_neg (by decide)]
theorem scan_hit {f : Nat → Bool} {k n : Nat} (h : f k = true) : scan f k (n + 1) = k := by
  show (if f k then (k : Int) else _) = _
  rw [if_pos h]
def refNext (f : Nat → Bool) (i : Int) : Int := if i < 0 then scan f 0 256 else scan f (i + 1).toNat (256 - (i + 1).toNat)
theorem Q.next_ref (s : Q) (i : Int) : s.next i = refNext s.has i := rfl
set_option maxHeartbeats 4000000 in
set_option maxRecDepth 100000 in
theorem rnext_any (b : Nat) (f : Nat → Bool) (i : Int) (w : World) (hf : Bl w b f) : Calls Try.prog 15 #[.slice (some ⟨b, 0, none⟩) 256 256, .int .i64 i] w fun e w' => e = .returned (.int .i64 (refNext f i)) ∧ w = w' := by
  have HF := Lib.hid hf
  clear hf
  by_cases h1 : 255 < i
  · have HE : Hid (refNext f i = -1) := by
      show _ = _
      unfold refNext
      rw [if_neg (by omega), show 256 - (i + 1).toNat = 0 by omega]; rfl
    go_enter Try.func15, Try.ntmps15
    go_wp2
    go_ret
    exact ⟨ret_int HE.out.symm, rfl⟩
  · obtain ⟨m, hm, hm2, hm3⟩ : ∃ m : Nat, max i (-1) + 1 = m ∧ m ≤ 256 ∧ refNext f i = scan f m (256 - m) := by
      unfold refNext
      by_cases h0 : i < 0
      · rw [if_pos h0]; exact ⟨0, by omega, by omega, rfl⟩
      · rw [if_neg h0]; exact ⟨(i + 1).toNat, by omega, by omega, rfl⟩
    have HM := Lib.hid hm
    have HR := Lib.hid hm3
    clear hm hm3
    by_cases hc : -1 ≤ i
    all_goals
      go_enter Try.func15, Try.ntmps15
      go_wp2_with fail
      go_loop [5] (fun t => ∃ k : Nat, t = .int .i64 k ∧ k ≤ 256 ∧ Hid (refNext f i = scan f k (256 - k))) (fun t => 256 - (intOf t).toNat)
      case atStart => exact ⟨m, congrArg _ (by have := HM.out; omega), hm2, HR⟩
      case round =>
        obtain ⟨k, rfl, hk, hr⟩ := hrel
        by_cases hlt : k < 256
        · have hcell := Vals.cell HF.out (k := k) hlt
          obtain ⟨n, hn⟩ : ∃ n, 256 - k = n + 1 := ⟨255 - k, by omega⟩
          have hn' : 256 - (k + 1) = n := by omega
          cases hfk : f k with
          | true =>
            have HE : Hid (refNext f i = k) := by
              show _ = _
              rw [hr.out, hn, scan_hit hfk]
            rw [hfk] at hcell
            clear hn hn' hfk
            go_wp2
            go_ret
            exact ⟨ret_int HE.out.symm, rfl⟩
          | false =>
            have HE : Hid (refNext f i = scan f (k + 1) (256 - (k + 1))) := by
              show _ = _
              rw [hr.out, hn, scan_step hfk, hn']
            rw [hfk] at hcell
            clear hn hn' hfk
            go_wp2
            go_round
            case rel => exact ⟨k + 1, by go_num, by omega, HE⟩
            case measure => simp [intOf]; omega
        · obtain rfl : k = 256 := by omega
          have HE : Hid (refNext f i = -1) := hr.out
          go_wp2
          go_ret
          exact ⟨ret_int HE.out.symm, rfl⟩
def wordsQ (f : Nat → Bool) : Nat → Q
  | 0 => Q.zero
  | k + 1 => if f k then (wordsQ f k).with_ k else wordsQ f k
theorem wordsQ_ok (f : Nat → Bool) : ∀ k, (wordsQ f k).ok
  | 0 => Q.zero_ok
  | k + 1 => by
    unfold wordsQ
    split
    · exact Q.with_ok (wordsQ_ok f k) k
    · exact wordsQ_ok f k
theorem wordsQ_has (f : Nat → Bool) {j : Nat} (hj : j < 256) : ∀ {k : Nat}, k ≤ 256 → (wordsQ f k).has j = (decide (j < k) && f j)
  | 0, _ => by
    have : (wordsQ f 0).has j = false := Q.has_zero j
    rw [this]; simp
  | k + 1, hk => by
    have ih := wordsQ_has f hj (k := k) (by omega)
    show (if f k then (wordsQ f k).with_ k else wordsQ f k).has j = _
    by_cases e : f k = true
    · rw [if_pos e, Q.has_with _ (by omega) hj, ih]
      by_cases c : j = k
      · subst c; simp [e]
      · have : decide (j < k + 1) = decide (j < k) := by simp only [decide_eq_decide]; omega
        rw [this]; simp [c]
    · rw [if_neg e, ih]
      by_cases c : j = k
      · subst c
        have e' : f j = false := by simpa using e
        simp [e']
      · have : decide (j < k + 1) = decide (j < k) := by simp only [decide_eq_decide]; omega
        rw [this]
theorem wordsQ_lt (f : Nat → Bool) {k : Nat} (hk : k < 256) : (wordsQ f k).w (k / 64) < 2 ^ (k % 64) := by
  apply Nat.lt_pow_two_of_testBit
  intro j hj
  by_cases c : j < 64
  · have h := has_at (wordsQ f k) (k / 64) j c
    rw [← h, wordsQ_has f (by omega) (by omega)]
    have : ¬ (k / 64 * 64 + j < k) := by omega
    simp [this]
  · exact bit_lt (Q.w_lt (wordsQ_ok f k) _) (by omega)
theorem add_or {x r : Nat} (h : x < 2 ^ r) : x + 2 ^ r = x ||| 2 ^ r := by
  have := Nat.two_pow_add_eq_or_of_lt h 1
  rw [Nat.mul_one] at this
  rw [Nat.add_comm, this, Nat.or_comm]
theorem wordsQ_step (f : Nat → Bool) {k : Nat} (hk : k < 256) (h : f k = true) : wordsQ f (k + 1) = (wordsQ f k).set (k / 64) ((wordsQ f k).w (k / 64) + 2 ^ (k % 64)) := by
  show (if f k then (wordsQ f k).with_ k else wordsQ f k) = _
  rw [if_pos h, add_or (wordsQ_lt f hk)]; rfl
theorem blk_word {w : World} {b : Nat} {e : TypeId} {s : Q} (h : Blk w b (cells4 s) e) {k : Nat} (hk : k < 4) (x : Nat) : Blk (w.setCell ⟨b, k, none⟩ (.int .u64 x)) b (cells4 (s.set k x)) e := by
  match k, hk with
  | 0, _ => exact h.set 0 _
  | 1, _ => exact h.set 1 _
  | 2, _ => exact h.set 2 _
  | 3, _ => exact h.set 3 _
set_option maxHeartbeats 4000000 in
set_option maxRecDepth 100000 in
theorem words_any (b : Nat) (f : Nat → Bool) (w : World) (hf : Bl w b f) : Calls Try.prog 20 #[.slice (some ⟨b, 0, none⟩) 256 256] w fun e w' => e = .returned (sv (wordsQ f 256)) ∧ But No w w' := by
  have HF := Lib.hid hf
  clear hf
  have HB0 : Hid (But No w ((w.alloc (.cells zeros4 23)).alloc (.cells zeros4 23))) := ((But.refl _ _).alloc _).alloc _
  have HP0 : Hid (Blk ((w.alloc (.cells zeros4 23)).alloc (.cells zeros4 23)) w.heap.size zeros4 23) := (Blk.new w _ _).but (S := No) ((But.refl _ _).alloc _) (fun f => f)
  have HQ0 : Hid (Blk ((w.alloc (.cells zeros4 23)).alloc (.cells zeros4 23)) (w.heap.size + 1) (cells4 (wordsQ f 0)) 23) := by
    have := Blk.new (w.alloc (.cells zeros4 23)) zeros4 23
    have h2 : (w.alloc (.cells zeros4 23)).heap.size = w.heap.size + 1 := by simp
    rw [h2] at this
    exact this
  go_enter Try.func20, Try.ntmps20
  go_wp2
  go_loopw [4] (fun t wr => ∃ k : Nat, t = .int .i64 k ∧ k ≤ 256 ∧ Hid (Blk wr w.heap.size zeros4 23) ∧ Hid (Blk wr (w.heap.size + 1) (cells4 (wordsQ f k)) 23) ∧ Hid (But No w wr)) (fun t _ => 256 - (intOf t).toNat)
  case atStart => exact ⟨0, rfl, by omega, HP0, HQ0, HB0⟩
  case round =>
    obtain ⟨k, rfl, hk, hp, hq, hb⟩ := hrel
    by_cases hlt : k < 256
    · have hcell := Vals.cell (HF.out.but hb.out (fun f => f)) (k := k) hlt
      cases hfk : f k with
      | false =>
        have HQ1 : Hid (Blk wr (w.heap.size + 1) (cells4 (wordsQ f (k + 1))) 23) := by
          have : wordsQ f (k + 1) = wordsQ f k := by
            show (if f k then (wordsQ f k).with_ k else wordsQ f k) = _
            rw [hfk, if_neg (by decide)]
          rw [this]; exact hq.out
        rw [hfk] at hcell
        clear hfk
        go_wp2
        go_roundw
        case rel => exact ⟨k + 1, by go_num, by omega, hp, HQ1, hb⟩
        case measure => simp [intOf]; omega
      | true =>
        have HS := Lib.hid (wordsQ_step f hlt hfk)
        have hxr := wordsQ_lt f hlt
        have h4 : k / 64 < 4 := by omega
        have hcw := word_cell hq.out h4
        have hfz := hq.out.frozen (k / 64)
        have hpl := two_pow_lt (j := k % 64) (by omega)
        rw [hfk] at hcell
        obtain ⟨x, hx⟩ : ∃ x, (wordsQ f k).w (k / 64) = x := ⟨_, rfl⟩
        rw [hx] at hcw hxr HS
        have hor : x + 2 ^ (k % 64) < 18446744073709551616 := by
          have := or_lt (x := x) (y := 2 ^ (k % 64)) (by omega) hpl
          rw [← add_or hxr] at this; exact this
        obtain ⟨q, hqe⟩ : ∃ q, k / 64 = q := ⟨_, rfl⟩
        obtain ⟨r, hre⟩ : ∃ r, k % 64 = r := ⟨_, rfl⟩
        have hr64 : r < 64 := by omega
        rw [hqe] at h4 hcw hfz HS
        rw [hre] at hxr hpl hor HS
        have e1 : IntKind.i64.wrap ((k : Int) / 64) = (q : Int) := by rw [IntKind.wrap_i64]; omega
        have e2 : (k : Int).tmod 64 = (r : Int) := by rw [Int.tmod_eq_emod_of_nonneg (by omega)]; omega
        have q0 : 0 ≤ (q : Int) := by omega
        have q4 : (q : Int) < 4 := by omega
        clear hfk hx hqe hre
        go_wp2_with fail
        go_still_tail 11, (by kernel_rfl)
        go_wp2
        have hv : IntKind.u64.wrap ((x : Int) + IntKind.u64.wrap (2 ^ r)) = ((x + 2 ^ r : Nat) : Int) := by
          rw [wrap_bit r hr64, IntKind.wrap_u64]
          generalize 2 ^ r = z at hor ⊢
          omega
        rw [hv]
        clear e1 e2 hv
        refine ⟨⟨k + 1, by go_num, by omega, ?_, ?_, ?_⟩, by simp [intOf]; omega⟩
        · exact (hp.out.other (a := ⟨w.heap.size + 1, q, none⟩) (by show w.heap.size ≠ w.heap.size + 1; omega) _).but (S := No) ((But.refl _ _).drew) (fun f => f)
        · rw [HS.out]
          exact (blk_word hq.out h4 (x + 2 ^ r)).but (S := No) ((But.refl _ _).drew) (fun f => f)
        · exact (hb.out.setNew (p := ⟨w.heap.size + 1, q, none⟩) (Nat.le_succ _) _).drew
    · obtain rfl : k = 256 := by omega
      obtain ⟨s, hs⟩ : ∃ s, wordsQ f 256 = s := ⟨_, rfl⟩
      rw [hs] at hq
      have HS := Lib.hid hs
      clear hs
      have c0 := hq.out.cell (o := 0) rfl
      have c1 := hq.out.cell (o := 1) rfl
      have c2 := hq.out.cell (o := 2) rfl
      have c3 := hq.out.cell (o := 3) rfl
      have d0 := hp.out.cell (o := 0) rfl
      have d1 := hp.out.cell (o := 1) rfl
      have d2 := hp.out.cell (o := 2) rfl
      have d3 := hp.out.cell (o := 3) rfl
      have f0 := hp.out.frozen 0
      have f1 := hp.out.frozen 1
      have f2 := hp.out.frozen 2
      have f3 := hp.out.frozen 3
      go_wp2
      refine bodyPost_ret (v := sv s) (by simp [results, Try.results20, go_sem, d0, d1, d2, d3]) rfl ⟨by rw [HS.out], ?_⟩
      exact (((hb.out.setNew (p := ⟨w.heap.size, _, none⟩) (Nat.le_refl _) _).setNew (p := ⟨w.heap.size, _, none⟩) (Nat.le_refl _) _).setNew (p := ⟨w.heap.size, _, none⟩) (Nat.le_refl _) _).setNew (p := ⟨w.heap.size, _, none⟩) (Nat.le_refl _) _
/-- The document's Of: the answers for a list of levels; nothing for another one. -/
def inL (zs : List Int) (j : Nat) : Bool := decide ((j : Int) ∈ zs)
def ROfEnd (w : World) (zs : List Int) (e : Ending) (w' : World) : Prop :=
  But No w w' ∧ ((lvs zs = false ∧ e = .returned (.tuple #[.slice none 0 0, .bool false])) ∨ (lvs zs = true ∧ ∃ b, e = .returned (.tuple #[.slice (some ⟨b, 0, none⟩) 256 256, .bool true]) ∧ Bl w' b (inL zs)))
set_option maxHeartbeats 4000000 in
set_option maxRecDepth 100000 in
theorem rof_any (A : Option Addr) (n c : Nat) (zs : List Int) (w : World) (hz : Rd w A n zs) : Calls Try.prog 22 #[.slice A n c] w (ROfEnd w zs) := by
  have hmx := hz.max
  have HZ := Lib.hid hz
  have HL := Lib.hid hz.len
  clear hz
  obtain ⟨i0, hi0, hz0, hz1, hz2⟩ := info_parts info4
  have I0 : Hid (Try.prog.info? 4 = some i0 ∧ i0.zero = some (.bool false) ∧ i0.size = 1 ∧ i0.bytes = 1) := ⟨hi0, hz0, hz1, hz2⟩
  clear hi0 hz0 hz1 hz2
  go_enter Try.func22, Try.ntmps22
  go_wp2_with (first
    | (at_make; refine wpList_make_full _ rfl _ _ 27 rfl 0 4 i0 _ 1 Try.underlying27 I0.out.1 I0.out.2.1 I0.out.2.2.1 .i64 .i64 _ _ 256 rfl rfl (by omega) (by omega) (by rw [I0.out.2.2.2]; omega) (by unfold maxLen; omega) (Nat.zero_le _) ?_; intro w2 hown0 hgrow0; have hB0 : But No w w2 := (But.refl No w).grown hgrow0 (fun k e => by cases e); have HB2 := Lib.hid hB0; have HI2 := Lib.hid (bools_made hown0); clear hown0 hgrow0 hB0))
  have HI3 : Hid (Bl w2 w.heap.size (inL (zs.take 0))) := Vals.congr HI2.out (fun j _ => by simp [inL])
  clear HI2
  go_loopw [5] (fun t wr => ∃ k : Nat, t = .int .i64 k ∧ k ≤ n ∧ Hid (∀ j, j < k → 0 ≤ zs.getD j 0 ∧ zs.getD j 0 < 256) ∧ Hid (Bl wr w.heap.size (inL (zs.take k))) ∧ Hid (But No w wr)) (fun t _ => n - (intOf t).toNat)
  case atStart => exact ⟨0, rfl, by omega, fun j hj => absurd hj (by omega), HI3, HB2⟩
  case round =>
    obtain ⟨k, rfl, hk, hall, hi, hb⟩ := hrel
    by_cases hlt : k < n
    · obtain ⟨b, off, rfl, hbl, hc⟩ := (HZ.out.no hb.out).at_ (by omega)
      have hck := hc k hlt
      clear hc
      have kn' : (k : Int) < (n : Int) := by omega
      obtain ⟨z, hze⟩ : ∃ z, z = zs.getD k 0 := ⟨_, rfl⟩
      rw [← hze] at hck
      have HE := Lib.hid hze
      clear hze
      by_cases hl0 : z < 0
      · have HN : Hid (lvs zs = false) := lvs_not (k := k) (by rw [HL.out]; exact hlt) (by rw [← HE.out]; omega)
        have HEND : Hid (ROfEnd w zs (.returned (.tuple #[.slice none 0 0, .bool false])) wr) := ⟨hb.out, .inl ⟨HN.out, rfl⟩⟩
        go_wp2
        go_ret2
        exact HEND.out
      · have hl0' : decide (z < 0) = false := by simpa using hl0
        by_cases hl1 : 255 < z
        · have HN : Hid (lvs zs = false) := lvs_not (k := k) (by rw [HL.out]; exact hlt) (by rw [← HE.out]; omega)
          have HEND : Hid (ROfEnd w zs (.returned (.tuple #[.slice none 0 0, .bool false])) wr) := ⟨hb.out, .inl ⟨HN.out, rfl⟩⟩
          go_wp2
          go_ret2
          exact HEND.out
        · obtain ⟨zn, rfl⟩ : ∃ zn : Nat, z = zn := ⟨z.toNat, by omega⟩
          have hzn : zn < 256 := by omega
          have hl1' : decide (255 < (zn : Int)) = false := by simpa using hl1
          have hcell := Vals.cell hi.out (k := zn) hzn
          have hfz := Vals.frozen hi.out zn
          have hwl := Vals.lt hi.out
          obtain ⟨o, ho⟩ : ∃ o, inL (zs.take k) zn = o := ⟨_, rfl⟩
          rw [ho] at hcell
          clear ho
          have hall' : Hid (∀ j, j < k + 1 → 0 ≤ zs.getD j 0 ∧ zs.getD j 0 < 256) := by
            intro j hj
            by_cases e : j = k
            · subst e; rw [← HE.out]; omega
            · exact hall.out j (by omega)
          clear hl0 hl1
          go_wp2
          go_roundw
          case rel =>
            refine ⟨k + 1, by go_num, by omega, hall', ?_, hb.out.setNew (p := ⟨w.heap.size, _, none⟩) (Nat.le_refl _) _⟩
            refine Vals.congr (Vals.set hi.out (k := zn) _) (fun j hj => ?_)
            have e1 : inL (zs.take (k + 1)) j = (inL (zs.take k) j || decide (j = zn)) := by
              unfold inL
              rw [take_snoc (by rw [HL.out]; exact hlt), ← HE.out]
              have : (j : Int) = (zn : Int) ↔ j = zn := by omega
              simp [this]
            rw [e1]
            by_cases e : j = zn
            · rw [if_pos e]; simp [e]
            · rw [if_neg e]; simp [e]
          case measure => simp [intOf]; omega
    · obtain rfl : k = n := by omega
      have HN : lvs zs = true := by
        unfold lvs
        rw [List.all_eq_true]
        intro z hz
        obtain ⟨j, hj, rfl⟩ := List.mem_iff_getElem.1 hz
        have := hall.out j (by rw [← HL.out]; exact hj)
        rw [isLv_iff]
        simpa [List.getD, List.getElem?_eq_getElem hj] using this
      have ht : zs.take k = zs := List.take_of_length_le (by rw [HL.out]; exact Nat.le_refl _)
      rw [ht] at hi
      have HEND : Hid (ROfEnd w zs (.returned (.tuple #[.slice (some ⟨w.heap.size, 0, none⟩) 256 256, .bool true])) wr) := ⟨hb.out, .inr ⟨HN, _, rfl, hi.out⟩⟩
      clear HN ht
      go_wp2
      go_ret2
      exact HEND.out
end Go.Proofs.Ytgocjgipigjhbaa
