/- Locks in memory. -/
import Derived.Test.YtimkdcpghhkloaaLkM
import Derived.Test.YtimkdcpghhkloaaV0
import Derived.Test.YtimkdcpghhkloaaRiA
import Derived.Maps.OwnSet
namespace Go.Proofs.Ytimkdcpghhkloaa.lok
open Go.ChangeShapes Go.WideShapes Go.ChangeAt Go.RowKit
theorem _root_.Go.Proofs.Ytimkdcpghhkloaa.But.turnedL {S : Nat → Prop} {a b c : World} {m : Nat} (h : But S a b) (ht : b.mapTurned c m) (hm : S m) : But S a c :=
  h.grown ht.grown (fun k e => .inl (by cases e; exact hm))
abbrev OM (w : World) (m N : Nat) (D : DataW Unit) : Prop := w.ownsMap Try.prog 3 (plainElem Try.prog 3) m N D
theorem OM.norm {w : World} {m N : Nat} {D : DataW Unit} (h : OM w m N D) : OM w m (Maps.size D) D := by
  obtain ⟨es, clock, h1, h2, h3, h4⟩ := h
  refine ⟨es, clock, h1, h2, ?_, h4⟩
  rw [h4]
  show es.size ≤ _
  rw [Maps.size_eq, length_read]; exact Nat.le_refl _
theorem OM.but {w w' : World} {m N : Nat} {D : DataW Unit} {S : Nat → Prop} (h : OM w m N D) (hb : But S w w') (hs : ¬ S m) : OM w' m N D := by
  have hl := World.ownsMap.lt h
  obtain ⟨es, clock, h1, h2⟩ := h
  exact ⟨es, clock, by rw [hb.block m hl hs]; exact h1, h2⟩
theorem keyed : Maps.Keyed Try.prog 3 := Maps.int_keyed Try.underlying3
theorem zero3 (w : World) : (zeroValue 3).run Try.prog w = .ok (.int .i64 0) w := by kernel_rfl
def ky (a : Int) : Lit := .int .i64 a
def vl (a : Int) : DataW Unit := .lit (.int .i64 a)
theorem ky_ne {a b : Int} (h : a ≠ b) : ky a ≠ ky b := by unfold ky; intro e; cases e; exact h rfl
theorem isKey (a : Int) : WideAt.IsKeyLit (ky a) := trivial
theorem at_eq {D : DataW Unit} {k : Lit} {z : DataW Unit} {c i : Int} (h : D.atKey k z = .lit (.int .i64 c)) (h' : ∀ z, D.atKey k z = vl i) : c = i := by
  have := h.symm.trans (h' z)
  unfold vl at this
  cases this; rfl
theorem ret2b {a c : Int} {x y : Bool} (h : a = c) (l : x = y) : Ending.returned (.tuple #[.int .i64 a, .bool x]) = .returned (.tuple #[.int .i64 c, .bool y]) := by rw [h, l]
theorem ret2i {a c x y : Int} (h : a = c) (l : x = y) : Ending.returned (.tuple #[.int .i64 a, .int .i64 x]) = .returned (.tuple #[.int .i64 c, .int .i64 y]) := by rw [h, l]
/-- What the map tells: of each task in a queue its resource. -/
structure WantIs (D : DataW Unit) (n : Nat) (q : Nat → List Int) : Prop where
  tidy : Maps.Tidy D
  has : ∀ t, Maps.has D (ky t) = decide (0 ≤ wantV n q t)
  at_ : ∀ t, 0 ≤ wantV n q t → ∀ z, D.atKey (ky t) z = vl (wantV n q t)
/-- The struct at p, the row of pointers at b, the map at m, a ring of each resource. -/
structure LX (w : World) (p b m n : Nat) (P : Nat → Nat) (Sr : Nat → Nat → Prop) (T : Nat → Int) (L : Nat → List rin.It) (D : DataW Unit) (q : Nat → List Int) (N : Int) : Prop where
  blk : Blk w p #[.slice (some ⟨b, 0, none⟩) n n, .map (some m)] 52
  row : Vals w b 47 n (fun r => .pointer (some ⟨P r, 0, none⟩))
  rg : ∀ r, r < n → rin.RP w (Sr r) (P r) 24 (T r) (L r)
  ids : ∀ r, r < n → (L r).map rin.It.id = q r
  tb : ∀ r, r < n → T r ≤ N
  om : OM w m (Maps.size D) D
  sz : (Maps.size D : Int) ≤ N
  wants : WantIs D n q
  pb : p ≠ b
  pm : p ≠ m
  bm : b ≠ m
  ps : ∀ r, r < n → ¬ Sr r p ∧ ¬ Sr r b ∧ ¬ Sr r m
  dis : ∀ r s k, r < n → s < n → Sr r k → Sr s k → r = s
  n8 : n ≤ 8
  ok : LK n q
def Lo (p b m n : Nat) (Sr : Nat → Nat → Prop) (k : Nat) : Prop := k = p ∨ k = b ∨ k = m ∨ ∃ r, r < n ∧ Sr r k
/-- Locks at p, with n resources and the queues q; its blocks are S; N calls of Ask at most. -/
def LP (w : World) (S : Nat → Prop) (p n : Nat) (N : Int) (q : Nat → List Int) : Prop :=
  ∃ b m P Sr T L D, LX w p b m n P Sr T L D q N ∧ ∀ k, S k ↔ Lo p b m n Sr k
def LMv (w : World) (S : Nat → Prop) (p n : Nat) (N : Int) (q : Nat → List Int) (w' : World) : Prop := LP w' S p n N q ∧ But S w w'
section
variable {w w' : World} {p b m n : Nat} {P : Nat → Nat} {Sr : Nat → Nat → Prop} {T : Nat → Int} {L : Nat → List rin.It} {D : DataW Unit} {q : Nat → List Int} {N : Int} {S S' : Nat → Prop}
theorem LX.but (x : LX w p b m n P Sr T L D q N) (hb : But S' w w') (hs : ∀ k, Lo p b m n Sr k → ¬ S' k) : LX w' p b m n P Sr T L D q N :=
  ⟨x.blk.but hb (hs p (.inl rfl)), x.row.but hb (hs b (.inr (.inl rfl))), fun r hr => (x.rg r hr).but hb (fun k hk => hs k (.inr (.inr (.inr ⟨r, hr, hk⟩)))), x.ids, x.tb, x.om.but hb (hs m (.inr (.inr (.inl rfl)))), x.sz, x.wants, x.pb, x.pm, x.bm, x.ps, x.dis, x.n8, x.ok⟩
theorem LX.no (x : LX w p b m n P Sr T L D q N) (hb : But No w w') : LX w' p b m n P Sr T L D q N := x.but hb (fun _ _ f => f)
theorem LX.lt (x : LX w p b m n P Sr T L D q N) : ∀ k, Lo p b m n Sr k → k < w.heap.size := by
  rintro k (rfl | rfl | rfl | ⟨r, hr, hk⟩)
  · exact x.blk.lt
  · exact x.row.lt
  · exact World.ownsMap.lt x.om
  · exact (x.rg r hr).lt k hk
theorem LX.more {N' : Int} (x : LX w p b m n P Sr T L D q N) (h : N ≤ N') : LX w p b m n P Sr T L D q N' :=
  ⟨x.blk, x.row, x.rg, x.ids, fun r hr => Int.le_trans (x.tb r hr) h, x.om, Int.le_trans x.sz h, x.wants, x.pb, x.pm, x.bm, x.ps, x.dis, x.n8, x.ok⟩
theorem LX.queues (x : LX w p b m n P Sr T L D q N) : w.cell? ⟨p, 0, none⟩ = some (.slice (some ⟨b, 0, none⟩) n n) := x.blk.cell (o := 0) rfl
theorem LX.map_ (x : LX w p b m n P Sr T L D q N) : w.cell? ⟨p, 1, none⟩ = some (.map (some m)) := x.blk.cell (o := 1) rfl
theorem LX.ptr (x : LX w p b m n P Sr T L D q N) {r : Nat} (hr : r < n) : w.cell? ⟨b, r, none⟩ = some (.pointer (some ⟨P r, 0, none⟩)) := x.row.cell hr
theorem LP.but (x : LP w S p n N q) (hb : But S' w w') (hs : ∀ k, S k → ¬ S' k) : LP w' S p n N q := by
  obtain ⟨b, m, P, Sr, T, L, D, hx, hS⟩ := x
  exact ⟨b, m, P, Sr, T, L, D, hx.but hb (fun k hk => hs k ((hS k).2 hk)), hS⟩
theorem LP.no (x : LP w S p n N q) (hb : But No w w') : LP w' S p n N q := x.but hb (fun _ _ f => f)
theorem LP.lt (x : LP w S p n N q) : ∀ k, S k → k < w.heap.size := by
  obtain ⟨b, m, P, Sr, T, L, D, hx, hS⟩ := x
  exact fun k hk => hx.lt k ((hS k).1 hk)
theorem LP.more {N' : Int} (x : LP w S p n N q) (h : N ≤ N') : LP w S p n N' q := by
  obtain ⟨b, m, P, Sr, T, L, D, hx, hS⟩ := x
  exact ⟨b, m, P, Sr, T, L, D, hx.more h, hS⟩
theorem LP.ok (x : LP w S p n N q) : LK n q := by
  obtain ⟨b, m, P, Sr, T, L, D, hx, hS⟩ := x
  exact hx.ok
theorem LP.n8 (x : LP w S p n N q) : n ≤ 8 := by
  obtain ⟨b, m, P, Sr, T, L, D, hx, hS⟩ := x
  exact hx.n8
theorem LP.stay {N' : Int} (x : LP w S p n N q) (hb : But No w w') (h : N ≤ N') : LMv w S p n N' q w' := ⟨(x.no hb).more h, hb.no⟩
theorem ids_len {l : List rin.It} {zs : List Int} (h : l.map rin.It.id = zs) : l.length = zs.length := by rw [← h, List.length_map]
theorem ids_fst {l : List rin.It} {zs : List Int} (h : l.map rin.It.id = zs) : rin.fst3 l = decide (0 < zs.length) ∧ (0 < zs.length → rin.fst1 l = hd zs) := by
  subst h
  cases l with
  | nil => exact ⟨rfl, fun h => absurd h (by simp)⟩
  | cons x t => exact ⟨by simp [rin.fst3], fun _ => rfl⟩
theorem ids_idx {l : List rin.It} {zs : List Int} (h : l.map rin.It.id = zs) {t : Int} (ht : t ∉ zs) : ¬ 0 ≤ rin.idx l t := by
  rcases rin.idx_cases l t with ⟨k, _, hk, e, _⟩ | ⟨e, _⟩
  · exfalso
    refine ht ?_
    rw [← h, ← e]
    exact List.mem_map_of_mem (rin.getD_mem hk)
  · omega
/-- A step of one ring, then of the map. -/
theorem LX.turn {w1 w2 w3 : World} (x : LX w1 p b m n P Sr T L D q N) {r : Nat} (hr : r < n) {T' N' : Int} {L' : List rin.It} {D' : DataW Unit} {M : Nat} {q' : Nat → List Int} (hS : ∀ k, S k ↔ Lo p b m n Sr k)
    (hm : rin.Mv w1 (Sr r) (P r) 24 T' L' w2) (hb : But (Just m) w2 w3) (ho : OM w3 m M D') (hw : WantIs D' n q') (hi : L'.map rin.It.id = q' r) (hq : ∀ s, s ≠ r → q' s = q s) (hT : T' ≤ N') (hN : N ≤ N') (hD : (Maps.size D' : Int) ≤ N') (hk : LK n q') :
    LP w3 S p n N' q' ∧ But S w1 w3 := by
  obtain ⟨k1, k2⟩ := hm
  have hp := x.ps r hr
  refine ⟨⟨b, m, P, Sr, fun s => if s = r then T' else T s, fun s => if s = r then L' else L s, D', ⟨(x.blk.but k2 hp.1).but hb x.pm, (x.row.but k2 hp.2.1).but hb x.bm, ?_, ?_, ?_, ho.norm, hD, hw, x.pb, x.pm, x.bm, x.ps, x.dis, x.n8, hk⟩, hS⟩, ?_⟩
  · intro s hs
    have hnm : ∀ k, Sr s k → ¬ Just m k := fun k hk e => by cases e; exact (x.ps s hs).2.2 hk
    by_cases e : s = r
    · subst e
      rw [if_pos rfl, if_pos rfl]
      exact k1.but hb hnm
    · rw [if_neg e, if_neg e]
      exact ((x.rg s hs).but k2 (fun k h1 h2 => e (x.dis s r k hs hr h1 h2))).but hb hnm
  · intro s hs
    by_cases e : s = r
    · subst e; show (if _ then _ else _ : List rin.It).map _ = _; rw [if_pos rfl]; exact hi
    · show (if _ then _ else _ : List rin.It).map _ = _; rw [if_neg e, hq s e]; exact x.ids s hs
  · intro s hs
    show (if _ then _ else _ : Int) ≤ _
    by_cases e : s = r
    · rw [if_pos e]; exact hT
    · rw [if_neg e]; exact Int.le_trans (x.tb s hs) hN
  · have a1 : But S w1 w2 := k2.mono (fun k _ hk => (hS k).2 (.inr (.inr (.inr ⟨r, hr, hk⟩))))
    exact a1.andThen hb (fun k hk => .inl ((hS k).2 (.inr (.inr (.inl hk)))))
end
end Go.Proofs.Ytimkdcpghhkloaa.lok
