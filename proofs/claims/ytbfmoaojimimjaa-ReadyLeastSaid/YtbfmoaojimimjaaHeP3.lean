/- Contracts of New, Push and Change over a heap's list. -/
import Derived.Test.YtbfmoaojimimjaaHeP2
namespace Go.Proofs.Ytbfmoaojimimjaa.hea
open Go.ChangeShapes Go.WideShapes Go.ChangeAt Go.RowKit
theorem MapIs.turn {n : Nat} {f : Nat → It} {D : DataW Unit} (h : MapIs n f D) {i : Nat} {x : It} (e : (f i).id = x.id) : MapIs n (upd f i x) D := by
  have key : ∀ k, (hea.upd f i x k).id = (f k).id := fun k => by
    by_cases ek : k = i
    · subst ek; rw [upd_same]; exact e.symm
    · rw [upd_other f x ek]
  refine ⟨h.tidy, h.sz, fun k hk => by rw [key]; exact h.at_ k hk, fun a ha => h.no a (fun k hk => by have := ha k hk; rwa [key] at this), fun k l hk hl ee => ?_, fun k hk => by rw [key]; exact h.rng k hk⟩
  rw [key, key] at ee; exact h.inj k l hk hl ee
theorem MapIs.push {n : Nat} {f : Nat → It} {D : DataW Unit} (h : MapIs n f D) {x : It} (hx : ∀ i, i < n → (f i).id ≠ x.id) (hr : inR x.id) : MapIs (n + 1) (upd f n x) (D.put (ky x.id) (vl n)) := by
  have hno := h.no x.id hx
  have key : ∀ k, k < n → hea.upd f n x k = f k := fun k hk => upd_other f x (by omega)
  refine ⟨h.tidy.put (isKey _) _, ?_, fun k hk => ?_, fun a ha => ?_, fun k l hk hl ee => ?_, fun k hk => ?_⟩
  · rw [Maps.size_put h.tidy, hno, h.sz]; rfl
  · by_cases e : k = n
    · subst e; rw [upd_same]
      exact ⟨Maps.has_put_same h.tidy.isMap (isKey _) _, fun z => Maps.atKey_put_same h.tidy.isMap (isKey _) _ _⟩
    · rw [key k (by omega)]
      have hne : ky (f k).id ≠ ky x.id := ky_ne (hx k (by omega))
      rw [Maps.has_put_other hne]
      exact ⟨(h.at_ k (by omega)).1, fun z => by rw [Maps.atKey_put_other hne]; exact (h.at_ k (by omega)).2 z⟩
  · have h0 := ha n (by omega)
    rw [upd_same] at h0
    rw [Maps.has_put_other (ky_ne (fun e => h0 e.symm))]
    exact h.no a fun k hk => by have := ha k (by omega); rwa [key k hk] at this
  · by_cases e1 : k = n
    · subst e1
      rw [upd_same] at ee
      by_cases e2 : l = k
      · exact e2.symm
      · rw [key l (by omega)] at ee; exact absurd ee.symm (hx l (by omega))
    · rw [key k (by omega)] at ee
      by_cases e2 : l = n
      · subst e2; rw [upd_same] at ee; exact absurd ee (hx k (by omega))
      · rw [key l (by omega)] at ee; exact h.inj k l (by omega) (by omega) ee
  · by_cases e : k = n
    · subst e; rw [upd_same]; exact hr
    · rw [key k (by omega)]; exact h.rng k (by omega)
theorem HeapOK.turn {n i : Nat} {f : Nat → It} (h : HeapOK n f) (hi : i < n) (x : It) : Almost n (upd f i x) i := by
  refine ⟨fun k k0 kn ki kp => ?_, fun k k0 kn kp i0 => ?_⟩
  · rw [upd_other f x ki, upd_other f x kp]; exact h k k0 kn
  · have p1 := par_lt k0
    have p2 := par_lt i0
    rw [upd_other f x (by omega), upd_other f x (by omega)]
    have a := h k k0 kn
    rw [kp] at a
    exact nah_trans (h i i0 hi) a
theorem HeapOK.push {n : Nat} {f : Nat → It} (h : HeapOK n f) (x : It) : Up (n + 1) (upd f n x) n := by
  refine ⟨fun k k0 kn ki => ?_, fun k k0 kn kp i0 => ?_⟩
  · have p1 := par_lt k0
    rw [upd_other f x ki, upd_other f x (by omega)]; exact h k k0 (by omega)
  · have p1 := par_lt k0
    omega
theorem Inv.change {n i : Nat} {f : Nat → It} {L : List It} {x : It} (h : Inv n f L) (hi : i < n) (e : (f i).id = x.id) (ht : ∀ y ∈ L, y.turn < x.turn) (hinj : ∀ k, k < n → (f k).id = x.id → k = i) : Inv n (upd f i x) (ins x (rmv x.id L)) := by
  have hm : ∃ y ∈ L, y.id = x.id := ⟨f i, (h.mem _).2 ⟨i, hi, rfl⟩, e⟩
  have hsub := rmv_sub x.id L
  refine ⟨by rw [length_ins, length_rmv hm, h.len], fun y => ?_, ins_srt (h.srt.sublist hsub) (fun y hy => ht y (hsub.subset hy)), ins_nd (h.nd.sublist hsub) (fun y hy => ((mem_rmv h.nd hm y).1 hy).2)⟩
  rw [mem_ins, mem_rmv h.nd hm, h.mem]
  constructor
  · rintro (rfl | ⟨⟨k, hk, rfl⟩, hne⟩)
    · exact ⟨i, hi, upd_same _ _ _⟩
    · exact ⟨k, hk, upd_other _ _ (fun ek => hne (by rw [ek]; exact e))⟩
  · rintro ⟨k, hk, rfl⟩
    by_cases ek : k = i
    · subst ek; exact .inl (upd_same _ _ _)
    · rw [upd_other _ _ ek]; exact .inr ⟨⟨k, hk, rfl⟩, fun ee => ek (hinj k hk ee)⟩
theorem Hm.turn {w : World} {p q m c n : Nat} {R T : Int} {f : Nat → It} {D : DataW Unit} (h : Hm w p q m c n R T f D) (T' : Int) : Hm (w.setCell ⟨p, 1, none⟩ (.int .i64 T')) p q m c n R T' f D :=
  have hb : But (Just p) w (w.setCell ⟨p, 1, none⟩ (.int .i64 T')) := (But.refl _ w).setCell (p := ⟨p, 1, none⟩) (just p) _
  ⟨h.pq, h.pm, h.qm, h.hp.set 1 _, h.hq.but hb (fun e => h.pq e.symm), h.own.but hb (fun e => h.pm e.symm)⟩
def NewEnd (w : World) (R : Int) (w' : World) : Prop := ∃ S, HP w' S (w.heap.size + 1) R 0 [] ∧ But No w w' ∧ ∀ k, S k → w.heap.size ≤ k
theorem new_ok (R : Int) (w : World) (h0 : 0 ≤ R) (h1 : R ≤ 256) :
    Calls Try.prog 26 #[.int .i64 R] w fun r w' => r = .returned (.tuple #[.pointer (some ⟨w.heap.size + 1, 0, none⟩), .int .i64 0]) ∧ NewEnd w R w' := by
  have hmm := @run_makeMap Try.prog
  have b1 : decide (R < 0) = false := by simp; omega
  have b2 : decide ((256 : Int) < R) = false := by simp; omega
  go_enter Try.func26, Try.ntmps26
  go_wp2
  go_ret2
  refine ⟨rfl, ?_⟩
  have hm := World.ownsMap_made (H := Unit) w Try.prog 3 (plainElem Try.prog 3)
  have hb := Blk.new (w.alloc (.map #[] 0)) #[.int .i64 R, .int .i64 0, .slice none 0 0, .map (some w.heap.size)] 65
  have hsz : (w.alloc (.map #[] 0)).heap.size = w.heap.size + 1 := by simp
  rw [hsz] at hb
  have hB : But No w ((w.alloc (.map #[] 0)).alloc (.cells #[.int .i64 R, .int .i64 0, .slice none 0 0, .map (some w.heap.size)] 65)) := ((But.refl No w).alloc _).alloc _
  refine ⟨OwnV (w.heap.size + 1) w.heap.size (.slice none 0 0), ⟨⟨w.heap.size, .slice none 0 0, 0, fun _ => ⟨0, 0, 0⟩, .map [], ⟨by omega, by simp [Value.ownBlock], by simp [Value.ownBlock], hb, ⟨[], World.ownsRow_nil _ _ _ _, fun i hi => absurd hi (by omega)⟩, ?_⟩, ?_, ?_, Inv.nil _, fun _ => Iff.rfl⟩, by simp, by simp, by omega, h0, h1, by simpa using h0⟩, hB, ?_⟩
  · exact (hm.alloc _)
  · exact ⟨Maps.tidy_empty, rfl, fun i hi => absurd hi (by omega), fun a _ => rfl, fun i j hi => absurd hi (by omega), fun i hi => absurd hi (by omega)⟩
  · intro k k0 kn; omega
  · rintro k (rfl | h | rfl)
    · omega
    · simp [Value.ownBlock] at h
    · omega
theorem new_bad (R : Int) (w : World) (h : R < 0 ∨ 256 < R) :
    Calls Try.prog 26 #[.int .i64 R] w fun r w' => r = .returned (.tuple #[.pointer none, .int .i64 1]) ∧ w = w' := by
  rcases h with h | h
  · have b1 : decide (R < 0) = true := by simp; omega
    go_enter Try.func26, Try.ntmps26
    go_wp2
    go_ret2
    exact ⟨rfl, rfl⟩
  · have b1 : decide (R < 0) = false := by simp; omega
    have b2 : decide ((256 : Int) < R) = true := by simp; omega
    go_enter Try.func26, Try.ntmps26
    go_wp2
    go_ret2
    exact ⟨rfl, rfl⟩
theorem push_neg (p : Nat) (a b : Int) (w : World) (ha : a < 0) :
    Calls Try.prog 29 #[.pointer (some ⟨p, 0, none⟩), .int .i64 a, .int .i64 b] w fun r w' => r = .returned (.int .i64 1) ∧ w = w' := by
  have b1 : decide (a < 0) = true := by simp; omega
  go_enter Try.func29, Try.ntmps29
  go_wp2
  go_ret
  exact ⟨rfl, rfl⟩
theorem push_exists (p : Nat) (R T : Int) (L : List It) (S : Nat → Prop) (w : World) (x : It) (b : Int) (h : HP w S p R T L) (hxL : x ∈ L) (h0 : 0 ≤ x.id) :
    Calls Try.prog 29 #[.pointer (some ⟨p, 0, none⟩), .int .i64 x.id, .int .i64 b] w fun r w' => r = .returned (.int .i64 4) ∧ But No w w' := by
  have HR : Hid (inR x.id) := h.rng x hxL
  obtain ⟨m, v, n, f, D, hx, mi, ho, inv, hS⟩ := h.ex
  obtain ⟨i, hi, hfi, hhas, hat⟩ := look_in mi inv hxL
  have OWN := Lib.hid hx.own
  have h3 : w.cell? ⟨p, 3, none⟩ = some (.map (some m)) := hx.hp.cell (o := 3) rfl
  obtain ⟨xa, xb, xc⟩ := x
  clear hx mi ho inv hS h hat hfi hxL
  dsimp only at *
  have b1 : decide (xa < 0) = false := by simp; omega
  go_enter Try.func29, Try.ntmps29
  go_wp2_with (at_lookup; refine wpList_lookup_own_ok_int (H := Unit) _ rfl _ _ 49 rfl 3 3 .i64 keyed Try.underlying49 Try.underlying3 (zero3 _) m (Maps.size D) D rfl OWN.out _ (ky xa) rfl (Maps.keyOf_int_mk Try.underlying3 (wf_of HR.out)) ?_; intro cc hcc hwc; clear hcc hwc)
  go_ret
  exact ⟨rfl, But.refl _ _⟩
set_option maxHeartbeats 1000000 in
theorem push_full (p : Nat) (R T : Int) (L : List It) (S : Nat → Prop) (w : World) (a b : Int) (ha : inR a) (h0 : 0 ≤ a) (h : HP w S p R T L) (hxL : ∀ y ∈ L, y.id ≠ a) (hf : R ≤ L.length) :
    Calls Try.prog 29 #[.pointer (some ⟨p, 0, none⟩), .int .i64 a, .int .i64 b] w fun r w' => r = .returned (.int .i64 3) ∧ But No w w' := by
  have HR := Lib.hid ha
  obtain ⟨m, v, n, f, D, hx, mi, ho, inv, hS⟩ := h.ex
  have hhas := look_out mi inv hxL
  obtain ⟨A, c, rfl, hc⟩ := hx.row.slice
  have OWN := Lib.hid hx.own
  have h3 : w.cell? ⟨p, 3, none⟩ = some (.map (some m)) := hx.hp.cell (o := 3) rfl
  have h2 : w.cell? ⟨p, 2, none⟩ = some (.slice A n c) := hx.hp.cell (o := 2) rfl
  have h1 : w.cell? ⟨p, 0, none⟩ = some (.int .i64 R) := hx.hp.cell (o := 0) rfl
  have b1 : decide (a < 0) = false := by simp; omega
  have b2 : decide (R ≤ (n : Int)) = true := by have := inv.len; simp; omega
  have b3 : R ≤ (n : Int) := by have := inv.len; omega
  clear hx mi ho inv hS h hxL ha hf
  go_enter Try.func29, Try.ntmps29
  go_wp2_with (at_lookup; refine wpList_lookup_own_ok_int (H := Unit) _ rfl _ _ 49 rfl 3 3 .i64 keyed Try.underlying49 Try.underlying3 (zero3 _) m (Maps.size D) D rfl OWN.out _ (ky a) rfl (Maps.keyOf_int_mk Try.underlying3 (wf_of HR.out)) ?_; intro cc hcc hwc; clear hcc hwc)
  go_quiet (fail)
  go_wp2
  go_ret
  exact ⟨rfl, (But.refl No w).drewN _⟩
end Go.Proofs.Ytbfmoaojimimjaa.hea
