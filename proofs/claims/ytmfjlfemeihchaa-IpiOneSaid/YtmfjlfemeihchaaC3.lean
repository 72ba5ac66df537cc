/- The contract of dueBy. -/
import Derived.Test.YtmfjlfemeihchaaC2
namespace Go.Proofs.Ytmfjlfemeihchaa
open Go.ChangeShapes Go.WideShapes Go.ChangeAt Go.RowKit Go.Deep
/-- A slice of notes that a call has made since w. -/
structure Nw (w wx : World) (v : Value) (K : List Nt) : Prop where
  o : OvP wx v K
  but : But No w wx
  new : ∀ k, v.ownBlock = some k → w.heap.size ≤ k
theorem Nw.no {w wx wy : World} {v : Value} {K : List Nt} (h : Nw w wx v K) (hb : But No wx wy) : Nw w wy v K := ⟨h.o.no hb, h.but.trans hb, h.new⟩
theorem Nw.ins {w wx wy : World} {v v' : Value} {K : List Nt} {x : Nt} (h : Nw w wx v K) (e : InsEnd wx v K x v' wy) : Nw w wy v' (ins x K) :=
  ⟨e.1, h.but.andThen e.2.1 (fun k hk => .inr (h.new k hk)), fun k hk => by
    rcases e.2.2 k hk with h1 | h1
    · exact h.new k h1
    · have := h.but.size; omega⟩
set_option maxHeartbeats 4000000 in
set_option maxRecDepth 100000 in
theorem dueBy_any (p m : Nat) (C : Int) (T : Nat) (L : List Nt) (c now : Int) (w : World) (h : BP w p m C T L) (hc : inR c) :
    Calls Try.prog 21 #[.pointer (some ⟨p, 0, none⟩), .int .i64 c, .int .i64 now] w fun r w' => ∃ v, r = .returned v ∧ Nw w w' v (tk c now L) := by
  have H := Lib.hid h
  have HC := Lib.hid hc
  have HE : Hid (byT c now L 24 = tk c now L) := byT_tk h.gd c now
  have HS : Hid (∀ k, Srt (byT c now L k)) := byT_sorted h.gd c now
  have H0 : Hid (Nw w w (.slice none 0 0) (byT c now L 0)) := ⟨Ov3.nil _, But.refl _ _, own_none⟩
  clear h hc
  go_enter Try.func21, Try.ntmps21
  go_wp2_with fail
  go_loopw [7, 11] (fun s i wx => ∃ (v : Value) (j : Nat), s = v ∧ i = .int .i64 j ∧ j ≤ 24 ∧ Hid (Nw w wx v (byT c now L j))) (fun _ i _ => 24 - (intOf i).toNat)
  case atStart => exact ⟨_, 0, rfl, rfl, by omega, H0⟩
  case round =>
    obtain ⟨v, j, hs, rfl, hj, hn⟩ := hrel
    have hs' := hs.symm
    subst hs'
    clear H0
    have HR := Lib.hid (H.out.no hn.out.but)
    by_cases hlt : j < 24
    · have jn : (j : Int) < 24 := by omega
      have d2 : wr.cell? ⟨p, 2, none⟩ = some (.map (some m)) := HR.out.hp.cell (o := 2) rfl
      have hr := HR.out.look HC.out (inR_nat (a := j) (by omega))
      cases e : fnd L c j with
      | none =>
        rw [e] at hr
        simp only [ov, Option.isSome_none] at hr
        have HN : Hid (byT c now L (j + 1) = byT c now L j) := by show _ = _; rw [byT, e]
        clear e
        go_wp2
        go_roundw
        case rel => exact ⟨_, j + 1, rfl, by go_num, by omega, by rw [HN.out]; exact hn.out.no ((But.refl No _).alloc _)⟩
        case measure => simp [intOf]; omega
      | some n =>
        rw [e] at hr
        simp only [ov, Option.isSome_some] at hr
        obtain ⟨nc, nt, nd, nn⟩ := n
        dsimp only at hr
        by_cases hd : nd ≤ now
        · have HN : Hid (byT c now L (j + 1) = ins ⟨nc, nt, nd, nn⟩ (byT c now L j)) := by show _ = _; rw [byT, e]; exact if_pos hd
          have b1 : decide (nd ≤ now) = true := by simpa using hd
          have CI : Hid (∀ o, Calls Try.prog 22 #[v, noteV nt nd nn] (wr.alloc o) fun r w' => ∃ v', r = .returned v' ∧ Nw w w' v' (byT c now L (j + 1))) := by
            intro o
            have hn' := hn.out.no ((But.refl No wr).alloc o)
            refine (inserted_any v (byT c now L j) ⟨nc, nt, nd, nn⟩ (wr.alloc o) hn'.o (HS.out j) (by have := byT_len c now L j; omega)).mono ?_
            rintro r w' ⟨v', e1, e2⟩
            exact ⟨v', e1, by rw [HN.out]; exact hn'.ins e2⟩
          clear e hd
          go_wp2_with (go_at_call 22; ((with_reducible refine (CI.out _).mono ?_); rintro e w2 ⟨v', rfl, hn2⟩; have HN2 := Lib.hid hn2; clear hn2))
          go_roundw
          case rel => exact ⟨_, j + 1, rfl, by go_num, by omega, HN2⟩
          case measure => simp [intOf]; omega
        · have HN : Hid (byT c now L (j + 1) = byT c now L j) := by show _ = _; rw [byT, e]; exact if_neg hd
          have b1 : decide (nd ≤ now) = false := by simpa using hd
          clear e hd
          go_wp2
          go_roundw
          case rel => exact ⟨_, j + 1, rfl, by go_num, by omega, by rw [HN.out]; exact hn.out.no ((But.refl No _).alloc _)⟩
          case measure => simp [intOf]; omega
    · obtain rfl : j = 24 := by omega
      have HF : Hid (Nw w wr v (tk c now L)) := by have := hn.out; rw [HE.out] at this; exact this
      clear hn
      go_wp2
      go_ret
      exact ⟨_, rfl, HF.out⟩
end Go.Proofs.Ytmfjlfemeihchaa
