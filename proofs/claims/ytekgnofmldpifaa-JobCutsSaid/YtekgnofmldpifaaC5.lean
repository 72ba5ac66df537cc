/- Contracts of New. -/
import Derived.Test.YtekgnofmldpifaaC4
namespace Go.Proofs.Ytekgnofmldpifaa
open Go.ChangeShapes Go.WideShapes Go.ChangeAt Go.RowKit Go.Deep
/-- The entry of a task that has had no job. -/
def en0 (P W : Int) : En := ⟨P, W, 0, 0, false, 0, 0, 0, false, 0⟩
def cels (e : En) : List Value := [.int .i64 e.P, .int .i64 e.W, .int .i64 e.d, .int .i64 e.f, .bool e.a, .int .i64 e.r, .int .i64 e.m, .int .i64 e.n, .bool e.c, .int .i64 e.k]
theorem cels_at (e : En) {o : Nat} (h : o < 10) : (cels e)[o]? = some (cel e o) := by
  revert o; intro o h
  exact ten (p := fun o => (cels e)[o]? = some (cel e o)) rfl rfl rfl rfl rfl rfl rfl rfl rfl rfl o h
def flatF (f : Nat → En) (k : Nat) : List Value := (List.range k).flatMap (fun j => cels (f j))
theorem flatF_next (f : Nat → En) (k : Nat) : flatF f (k + 1) = flatF f k ++ cels (f k) := by
  unfold flatF; rw [List.range_succ, List.flatMap_append]; simp
theorem flatF_len (f : Nat → En) (k : Nat) : (flatF f k).length = k * 10 := by
  induction k with
  | zero => rfl
  | succ k ih => rw [flatF_next, List.length_append, ih]; show k * 10 + 10 = _; omega
theorem flatF_at (f : Nat → En) (n : Nat) : ∀ k o, k < n → o < 10 → (flatF f n)[k * 10 + o]? = some (cel (f k) o) := by
  induction n with
  | zero => intro k o h; omega
  | succ n ih =>
    intro k o hk ho
    rw [flatF_next]
    by_cases h : k < n
    · rw [List.getElem?_append_left (by rw [flatF_len]; omega)]; exact ih k o h ho
    · obtain rfl : k = n := by omega
      rw [List.getElem?_append_right (by rw [flatF_len]; omega), flatF_len, show k * 10 + o - k * 10 = o by omega]
      exact cels_at _ ho
theorem rw_of_row {w : World} {g n c : Nat} {f : Nat → En} (h : w.ownsRow 0 48 10 (.slice (some ⟨g, 0, none⟩) n c) n (flatF f n)) : Rw w g n f ∧ n ≤ c := by
  obtain ⟨h1, h2⟩ := h
  rcases h2 with ⟨h2, _⟩ | ⟨g', cap, cur, hv, _, hh, hn, hc, hs, ht⟩
  · cases h2
  · cases hv
    refine ⟨⟨cur, hh, by have := congrArg List.length ht; rw [flatF_len, List.length_take, Array.length_toList] at this; omega, fun k o hk ho => ?_⟩, hn⟩
    have e := flatF_at f n k o hk ho
    rw [← ht, List.getElem?_take, if_pos (by omega)] at e
    simpa using e
abbrev slV (x : Option Addr × Nat × Nat) : Value := .slice x.1 x.2.1 x.2.2
/-- A row of n tasks at g, off: Period, Deadline, Wcet, Sections. -/
def Tks (w : World) (g off n : Nat) (P D W : Nat → Int) (SL : Nat → Option Addr × Nat × Nat) : Prop :=
  ∀ j, j < n → w.cell? ⟨g, off + j * 4, none⟩ = some (.int .i64 (P j)) ∧ w.cell? ⟨g, off + j * 4 + 1, none⟩ = some (.int .i64 (D j)) ∧ w.cell? ⟨g, off + j * 4 + 2, none⟩ = some (.int .i64 (W j)) ∧ w.cell? ⟨g, off + j * 4 + 3, none⟩ = some (.slice (SL j).1 (SL j).2.1 (SL j).2.2)
theorem Tks.no {w w' : World} {g off n : Nat} {P D W : Nat → Int} {SL : Nat → Option Addr × Nat × Nat} (h : Tks w g off n P D W SL) (hb : But No w w') : Tks w' g off n P D W SL :=
  fun j hj => ⟨cell_keep (h j hj).1 hb, cell_keep (h j hj).2.1 hb, cell_keep (h j hj).2.2.1 hb, cell_keep (h j hj).2.2.2 hb⟩
def NewEnd (w : World) (n : Nat) (P W : Nat → Int) (p : Nat) (w' : World) : Prop := ∃ S, JP w' S p n (fun j => en0 (P j) (W j)) ∧ But No w w' ∧ ∀ k, S k → w.heap.size ≤ k
theorem new_none (w : World) : Calls Try.prog 8 #[.slice none 0 0] w fun r w' => r = .returned (.tuple #[.pointer none, .int .i64 1]) ∧ w = w' := by
  go_enter Try.func8, Try.ntmps8
  go_wp2
  go_ret2
  exact ⟨rfl, rfl⟩
theorem info48 : (Try.prog.info? 48).map (fun i => (i.zero, i.size, i.bytes)) = some (some (.agg #[.int .i64 0, .int .i64 0, .int .i64 0, .int .i64 0, .bool false, .int .i64 0, .int .i64 0, .int .i64 0, .bool false, .int .i64 0]), 10, 80) := by kernel_rfl
/-- So many entries are made. -/
structure Mk (w wr : World) (v : Value) (k : Nat) (P W : Nat → Int) : Prop where
  but : But No w wr
  row : wr.ownsRow 0 48 10 v k (flatF (fun j => en0 (P j) (W j)) k)
  new : ∀ j, v.ownBlock = some j → w.heap.size ≤ j
theorem Mk.start (w : World) (P W : Nat → Int) : Mk w w (.slice none 0 0) 0 P W := ⟨But.refl _ _, World.ownsRow_nil _ _ _ _, own_none⟩
theorem reads_blk {w : World} {b : Nat} {xs : List Value} {e : TypeId} {size : Nat} (h : Blk w b xs.toArray e) (hn : xs.length = 1 * size) : Reads w (b + 1) size (some ⟨b, 0, none⟩) 1 xs :=
  ⟨hn, fun _ => ⟨_, rfl, Nat.lt_succ_self _, fun j u hu => by rw [add_plain, Nat.zero_add]; exact h.cell (by simpa using hu)⟩⟩
theorem cels_one (e : En) : ∀ u ∈ cels e, u.oneCell' = true := by simp [cels, Value.oneCell']
theorem Mk.next {w wr w2 : World} {v : Value} {k : Nat} {P W : Nat → Int} (h : Mk w wr v k P W) {A : Option Addr} {c : Nat} (o : Obj) (ho : w2.ownsRow 0 48 10 (.slice A (k + 1) c) (k + 1) (flatF (fun j => en0 (P j) (W j)) k ++ cels (en0 (P k) (W k))))
    (hg : ((wr.alloc o).alloc (.cells (cels (en0 (P k) (W k))).toArray 48)).grownBy w2 v.ownBlock) (hat : (Value.slice A (k + 1) c).ownBlock = v.ownBlock ∨ (Value.slice A (k + 1) c).ownBlock = some ((wr.alloc o).alloc (.cells (cels (en0 (P k) (W k))).toArray 48)).heap.size) : Mk w w2 (.slice A (k + 1) c) (k + 1) P W := by
  refine ⟨((h.but.alloc _).alloc _).grown hg (fun j e => .inr (h.new j e)), by rw [flatF_next]; exact ho, own_new h.new hat ?_⟩
  have := h.but.size
  rw [size_alloc1, size_alloc1]; omega
set_option maxHeartbeats 1000000 in
theorem new_ok (g off n c : Nat) (P D W : Nat → Int) (SL : Nat → Option Addr × Nat × Nat) (w : World) (hT : Tks w g off n P D W SL) (h0 : 1 ≤ n) (h1 : n ≤ 24) (hP : ∀ j, j < n → 1 ≤ P j ∧ P j ≤ 1099511627776) (hW : ∀ j, j < n → 1 ≤ W j ∧ W j ≤ 1099511627776) :
    Calls Try.prog 8 #[.slice (some ⟨g, off, none⟩) n c] w fun r w' => ∃ p, r = .returned (.tuple #[.pointer (some ⟨p, 0, none⟩), .int .i64 0]) ∧ NewEnd w n P W p w' := by
  obtain ⟨i0, hi0, hz0, hz1, hz2⟩ := info_parts info48
  have I0 : Hid (Try.prog.info? 48 = some i0 ∧ i0.zero = some (.agg #[.int .i64 0, .int .i64 0, .int .i64 0, .int .i64 0, .bool false, .int .i64 0, .int .i64 0, .int .i64 0, .bool false, .int .i64 0]) ∧ i0.size = 10 ∧ i0.bytes = 80) := ⟨hi0, hz0, hz1, hz2⟩
  have CT := Lib.hid (fun x W => isTime_any x W)
  have HP := Lib.hid hP
  have HW := Lib.hid hW
  have HT := Lib.hid hT
  have b0 : decide ((n : Int) < 1) = false := by simp; omega
  have b1 : decide (24 < (n : Int)) = false := by simp; omega
  have HM0 := Lib.hid (Mk.start w P W)
  clear hi0 hz0 hz1 hz2 hT hP hW
  go_enter Try.func8, Try.ntmps8
  go_wp2_with fail
  go_loopw [17, 4] (fun s t wr => ∃ (k : Nat) (v : Value), s = .int .i64 k ∧ t = v ∧ k ≤ n ∧ Hid (Mk w wr v k P W)) (fun s _ _ => n - (intOf s).toNat)
  case atStart => exact ⟨0, _, rfl, rfl, by omega, HM0⟩
  case round =>
    obtain ⟨k, v, rfl, hsv, hk, hm⟩ := hrel
    have h := hsv.symm
    subst h
    by_cases hlt : k < n
    · have kn' : (k : Int) < (n : Int) := by omega
      obtain ⟨c0, c1, c2, c3⟩ := HT.out.no hm.out.but k hlt
      have CP := CT
      have p0 : decide (1 ≤ P k ∧ P k ≤ 1099511627776) = true := by rw [decide_eq_true_iff]; exact HP.out k hlt
      have p1 : decide (1 ≤ W k ∧ W k ≤ 1099511627776) = true := by rw [decide_eq_true_iff]; exact HW.out k hlt
      have C1 : Hid (∀ X, Calls Try.prog 15 #[.int .i64 (P k)] X fun r w' => r = .returned (.bool true) ∧ X = w') := fun X => by have := CT.out (P k) X; rw [p0] at this; exact this
      have C2 : Hid (∀ X, Calls Try.prog 15 #[.int .i64 (W k)] X fun r w' => r = .returned (.bool true) ∧ X = w') := fun X => by have := CT.out (W k) X; rw [p1] at this; exact this
      have HNX : Hid (∀ A c w2, w2.ownsRow 0 48 10 (.slice A (k + 1) c) (k + 1) (flatF (fun j => en0 (P j) (W j)) k ++ cels (en0 (P k) (W k))) →
        ((wr.alloc (.cells #[.int .i64 (P k), .int .i64 (D k), .int .i64 (W k), slV (SL k)] 27)).alloc (.cells (cels (en0 (P k) (W k))).toArray 48)).grownBy w2 v.ownBlock → ((Value.slice A (k + 1) c).ownBlock = v.ownBlock ∨ (Value.slice A (k + 1) c).ownBlock = some ((wr.alloc (.cells #[.int .i64 (P k), .int .i64 (D k), .int .i64 (W k), slV (SL k)] 27)).alloc (.cells (cels (en0 (P k) (W k))).toArray 48)).heap.size) →
        Mk w w2 (.slice A (k + 1) c) (k + 1) P W) := fun A c w2 h1 h2 h3 => hm.out.next _ h1 h2 h3
      have HRD : Hid (Reads ((wr.alloc (.cells #[.int .i64 (P k), .int .i64 (D k), .int .i64 (W k), slV (SL k)] 27)).alloc (.cells (cels (en0 (P k) (W k))).toArray 48)) (wr.heap.size + 1 + 1) 10 (some ⟨wr.heap.size + 1, 0, none⟩) 1 (cels (en0 (P k) (W k)))) := reads_blk (blk2 wr _ _ _) rfl
      have HRW : Hid (((wr.alloc (.cells #[.int .i64 (P k), .int .i64 (D k), .int .i64 (W k), slV (SL k)] 27)).alloc (.cells (cels (en0 (P k) (W k))).toArray 48)).ownsRow 0 48 10 v k (flatF (fun j => en0 (P j) (W j)) k)) :=
        owns_but hm.out.row (((But.refl No wr).alloc _).alloc _) (fun _ _ x => x)
      unfold cels en0 at HRD
      generalize SL k = Sk at c3 HNX HRD HRW
      have HSZ := Lib.hid (cels_one (en0 (P k) (W k)))
      clear p0 p1
      generalize P k = Pk at c0 C1 HNX HRD HRW HSZ
      generalize D k = Dk at c1 HNX HRD HRW
      generalize W k = Wk at c2 C2 HNX HRD HRW HSZ
      obtain ⟨Sa, Sn, Sc⟩ := Sk
      simp only at c3
      go_wp2_with (first | (go_at_call 15; ((with_reducible refine (C1.out _).mono ?_); rintro e w1 ⟨rfl, rfl⟩)) | (go_at_call 15; ((with_reducible refine (C2.out _).mono ?_); rintro e w1 ⟨rfl, rfl⟩)) | (at_builtin; refine wpList_append_sh _ rfl _ _ 44 rfl 48 i0 _ 10 80 Try.underlying44 I0.out.1 I0.out.2.1 I0.out.2.2.1 I0.out.2.2.2 rfl (by omega) v k _ rfl HRW.out (wr.heap.size + 1 + 1) (some ⟨wr.heap.size + 1, 0, none⟩) 1 1 (cels (en0 Pk Wk)) rfl HRD.out HSZ.out (by unfold maxLen; omega) (by omega) ?_; intro A3 c3 w3 hown hgrow hat; have HF := Lib.hid (HNX.out _ _ w3 hown hgrow hat); clear hown hgrow hat))
      go_roundw
      case rel => exact ⟨k + 1, _, by go_num, rfl, by omega, HF⟩
      case measure => simp [intOf]; omega
    · have b1 : decide ((k : Int) < (n : Int)) = false := by simp; omega
      obtain rfl : k = n := by omega
      obtain ⟨g', cap, hv, _, hlt'⟩ := hm.out.row.form (by omega)
      subst hv
      obtain ⟨hr, hc⟩ := rw_of_row hm.out.row
      have HR := Lib.hid hr
      have HG : Hid (w.heap.size ≤ g') := hm.out.new g' rfl
      clear hr
      go_wp2
      go_ret2
      refine ⟨wr.heap.size, rfl, fun j => j = wr.heap.size ∨ j = g', ⟨⟨g', cap, by omega, Blk.new _ _ _, HR.out.no ((But.refl _ _).alloc _), hc, fun _ => Iff.rfl⟩, h1, fun j hj => ?_⟩, hm.out.but.alloc _, ?_⟩
      · have a := HP.out j hj
        have b := HW.out j hj
        exact ⟨a.1, a.2, b.1, b.2, Int.le_refl _, Int.le_refl _, Int.le_refl _, by show 0 ≤ W j; omega⟩
      · rintro j (rfl | rfl)
        · exact hm.out.but.size
        · exact HG.out
end Go.Proofs.Ytekgnofmldpifaa
