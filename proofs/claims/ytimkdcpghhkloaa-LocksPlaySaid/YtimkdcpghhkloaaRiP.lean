/- A ring as a list of ids with tickets; Place, Len, Head, removeAt. -/
import Derived.Test.YtimkdcpghhkloaaRiC1
namespace Go.Proofs.Ytimkdcpghhkloaa.rin
open Go.ChangeShapes Go.WideShapes Go.ChangeAt Go.RowKit Go.Deep
/-- The blocks of a ring. -/
structure Rg (w : World) (p q sz : Nat) (R T : Int) (F n : Nat) (g : Nat → It) : Prop where
  pq : p ≠ q
  hp : Blk w p #[.int .i64 R, .int .i64 T, .slice (some ⟨q, 0, none⟩) sz sz, .int .i64 ((sz - 1 : Nat) : Int), .int .i64 F, .int .i64 n] 61
  hq : Itm w q sz g
  pow : Pow sz
  hF : F < sz
  hn : (n : Int) ≤ R
  hR : R ≤ sz
def Own (p q : Nat) : Nat → Prop := fun k => k = p ∨ k = q
theorem Rg.but {w w' : World} {p q sz : Nat} {R T : Int} {F n : Nat} {g : Nat → It} {S : Nat → Prop} (h : Rg w p q sz R T F n g) (hb : But S w w') (hs : ∀ k, Own p q k → ¬ S k) : Rg w' p q sz R T F n g :=
  ⟨h.pq, h.hp.but hb (hs p (.inl rfl)), h.hq.but hb (hs q (.inr rfl)), h.pow, h.hF, h.hn, h.hR⟩
/-- At p there is a ring for R ids that has given T tickets, and holds L; its blocks are S. -/
structure RP (w : World) (S : Nat → Prop) (p : Nat) (R T : Int) (L : List It) : Prop where
  ex : ∃ q sz F n g, Rg w p q sz R T F n g ∧ lst F sz n g = L ∧ ∀ k, S k ↔ Own p q k
  nd : L.Pairwise (fun a b => a.id ≠ b.id)
  srt : L.Pairwise (fun a b => a.tk < b.tk)
  tb : ∀ x ∈ L, 0 < x.tk ∧ x.tk ≤ T
  rng : ∀ x ∈ L, inR x.id
  t0 : 0 ≤ T
  r0 : 0 ≤ R
  r1 : R ≤ 256
theorem RP.len {w : World} {S : Nat → Prop} {p : Nat} {R T : Int} {L : List It} (h : RP w S p R T L) : (L.length : Int) ≤ R := by
  obtain ⟨q, sz, F, n, g, h1, h2, h3⟩ := h.ex
  rw [← h2, lst_length]; exact h1.hn
theorem RP.but {w w' : World} {S S' : Nat → Prop} {p : Nat} {R T : Int} {L : List It} (h : RP w S p R T L) (hb : But S' w w') (hs : ∀ k, S k → ¬ S' k) : RP w' S p R T L := by
  obtain ⟨q, sz, F, n, g, h1, h2, h3⟩ := h.ex
  exact ⟨⟨q, sz, F, n, g, h1.but hb (fun k hk => hs k ((h3 k).2 hk)), h2, h3⟩, h.nd, h.srt, h.tb, h.rng, h.t0, h.r0, h.r1⟩
theorem RP.no {w w' : World} {S : Nat → Prop} {p : Nat} {R T : Int} {L : List It} (h : RP w S p R T L) (hb : But No w w') : RP w' S p R T L := h.but hb (fun _ _ f => f)
theorem RP.drewN {w : World} {S : Nat → Prop} {p : Nat} {R T : Int} {L : List It} (h : RP w S p R T L) (m : Nat) : RP (w.drewN m) S p R T L := h.no ((But.refl No w).drewN m)
theorem RP.lt {w : World} {S : Nat → Prop} {p : Nat} {R T : Int} {L : List It} (h : RP w S p R T L) : ∀ k, S k → k < w.heap.size := by
  obtain ⟨q, sz, F, n, g, h1, h2, h3⟩ := h.ex
  intro k hk
  rcases (h3 k).1 hk with rfl | rfl
  · exact h1.hp.lt
  · exact h1.hq.lt
/-- From one state of the ring to another one. -/
def Mv (w : World) (S : Nat → Prop) (p : Nat) (R T : Int) (L : List It) (w' : World) : Prop := RP w' S p R T L ∧ But S w w'
theorem RP.stay {w w' : World} {S : Nat → Prop} {p : Nat} {R T : Int} {L : List It} (h : RP w S p R T L) (hb : But No w w') : Mv w S p R T L w' := ⟨h.no hb, hb.no⟩
theorem drewN_but {w w' : World} (h : ∃ m, w' = w.drewN m) : But No w w' := by obtain ⟨m, rfl⟩ := h; exact (But.refl No w).drewN m
theorem drew_on {w w' : World} (h : ∃ m, w' = w.drewN m) (n : Nat) : ∃ m, w'.drewN n = w.drewN m := by obtain ⟨m, rfl⟩ := h; exact ⟨_, World.drewN_drewN _ _ _⟩
theorem len_any (p : Nat) (R T : Int) (L : List It) (S : Nat → Prop) (w : World) (h : RP w S p R T L) :
    Calls Try.prog 25 #[.pointer (some ⟨p, 0, none⟩)] w fun r w' => r = .returned (.int .i64 L.length) ∧ w' = w := by
  obtain ⟨q, sz, F, n, g, h1, h2, h3⟩ := h.ex
  have h5 : w.cell? ⟨p, 5, none⟩ = some (.int .i64 n) := h1.hp.cell (o := 5) rfl
  have e : L.length = n := by rw [← h2, lst_length]
  rw [e]
  clear h h1 h2 h3 e
  go_enter Try.func25, Try.ntmps25
  go_wp2
  go_ret
  exact ⟨rfl, rfl⟩
set_option maxHeartbeats 1000000 in
set_option maxRecDepth 100000 in
theorem place_any (p : Nat) (R T : Int) (L : List It) (S : Nat → Prop) (w : World) (a : Int) (h : RP w S p R T L) :
    Calls Try.prog 31 #[.pointer (some ⟨p, 0, none⟩), .int .i64 a] w fun r w' => r = .returned (.int .i64 (idx L a)) ∧ ∃ m, w' = w.drewN m := by
  obtain ⟨q, sz, F, n, g, h1, h2, h3⟩ := h.ex
  have hr := h.r1
  have hn : n ≤ sz := by have := h1.hn; have := h1.hR; omega
  have hs := h1.pow.le
  have HL := Lib.hid h2
  have HR := Lib.hid h1
  have c2 : w.cell? ⟨p, 2, none⟩ = some (.slice (some ⟨q, 0, none⟩) sz sz) := h1.hp.cell (o := 2) rfl
  have c5 : w.cell? ⟨p, 5, none⟩ = some (.int .i64 n) := h1.hp.cell (o := 5) rfl
  clear h h1 h2 h3 hr
  go_enter Try.func31, Try.ntmps31
  go_wp2_with fail
  go_loopw [10] (fun s wr => ∃ k : Nat, s = .int .i64 k ∧ k ≤ n ∧ Hid (∀ j, j < k → (L.getD j it0).id ≠ a) ∧ Hid (∃ m, wr = w.drewN m)) (fun s _ => n - (intOf s).toNat)
  case atStart => exact ⟨0, rfl, by omega, fun j hj => absurd hj (by omega), 0, rfl⟩
  case round =>
    obtain ⟨k, rfl, hk, hno, hw⟩ := hrel
    have HRW := Lib.hid (HR.out.but (drewN_but hw.out) (fun _ _ f => f))
    have c2' : wr.cell? ⟨p, 2, none⟩ = some (.slice (some ⟨q, 0, none⟩) sz sz) := HRW.out.hp.cell (o := 2) rfl
    by_cases hlt : k < n
    · have kn' : (k : Int) < (n : Int) := by omega
      have hps := ps_lt HR.out.hF (show k < sz by omega)
      obtain ⟨d0, d1⟩ := HRW.out.hq.cells hps
      have hget : Hid ((L.getD k it0).id = (g (ps F sz k)).id) := by show _ = _; rw [← HL.out, lst_get g hlt]
      have CP : Hid (∀ m, Calls Try.prog 32 #[.pointer (some ⟨p, 0, none⟩), .int .i64 k] (wr.drewN m) fun r w' => r = .returned (.int .i64 (ps F sz k)) ∧ ∃ m', w' = (wr.drewN m).drewN m') := fun m =>
        position_any p F sz k (wr.drewN m) (HRW.out.hp.cell (o := 3) rfl) (HRW.out.hp.cell (o := 4) rfl) HR.out.pow HR.out.hF (by omega)
      generalize ps F sz k = j at hps d0 d1 CP hget
      generalize (g j).id = x at d0 hget
      have hj' : (j : Int) < (sz : Int) := by omega
      clear d1
      by_cases hx : x = a
      · have HE : Hid (idx L a = k) := idx_in (by rw [← HL.out, lst_length]; exact hlt) (by rw [hget.out]; exact hx) hno.out
        have b1 : (x == a) = true := by simpa using hx
        clear hx
        go_wp2_with fail
        go_quiet ((go_at_call 32; exact Calls.quiet_of (CP.out _)))
        go_wp2
        go_ret
        refine ⟨by rw [HE.out]; rfl, ?_⟩
        exact drew_on hw.out _
      · have b1 : (x == a) = false := by simpa using hx
        have HNO : Hid (∀ j, j < k + 1 → (L.getD j it0).id ≠ a) := by
          intro j hj
          by_cases e : j = k
          · rw [e, hget.out]; exact hx
          · exact hno.out j (by omega)
        clear hx
        go_wp2_with fail
        go_quiet ((go_at_call 32; exact Calls.quiet_of (CP.out _)))
        go_wp2
        go_roundw
        case rel =>
          refine ⟨k + 1, by go_num, by omega, HNO, ?_⟩
          exact drew_on hw.out _
        case measure => simp [intOf]; omega
    · have HE : Hid (idx L a = -1) := idx_out (fun j hj => hno.out j (by rw [← HL.out, lst_length] at hj; omega))
      have b1 : decide ((k : Int) < (n : Int)) = false := by simp; omega
      go_wp2
      go_ret
      exact ⟨by rw [HE.out]; rfl, hw.out⟩
end Go.Proofs.Ytimkdcpghhkloaa.rin
