/- Those that are taken come in the order in which they were put, and tickets rise: RingFirst returns true. (The walk.) -/
import Derived.Test.YthakginneapdeaaN
namespace Go.Proofs.Ythakginneapdeaa
open Go.ChangeShapes Go.WideShapes Go.ChangeAt Go.RowKit Go.Deep
theorem nd_get {L : List It} (h : L.Pairwise (fun a b => a.id ≠ b.id)) {i j : Nat} (hi : i < j) (hj : j < L.length) : (L.getD i it0).id ≠ (L.getD j it0).id := by
  have := List.pairwise_iff_getElem.1 h i j (by omega) hj hi
  simpa [List.getD, List.getElem?_eq_getElem hj, List.getElem?_eq_getElem (show i < L.length by omega)] using this
theorem srt_get {L : List It} (h : L.Pairwise (fun a b => a.tk < b.tk)) {i j : Nat} (hi : i < j) (hj : j < L.length) : (L.getD i it0).tk < (L.getD j it0).tk := by
  have := List.pairwise_iff_getElem.1 h i j (by omega) hj hi
  simpa [List.getD, List.getElem?_eq_getElem hj, List.getElem?_eq_getElem (show i < L.length by omega)] using this
theorem idx_get {L : List It} (h : L.Pairwise (fun a b => a.id ≠ b.id)) {j : Nat} (hj : j < L.length) : idx L (L.getD j it0).id = j :=
  idx_in hj rfl (fun i hi => nd_get h hi hj)
theorem tkt_get {L : List It} (h : L.Pairwise (fun a b => a.id ≠ b.id)) {j : Nat} (hj : j < L.length) : tkt L (L.getD j it0).id = (L.getD j it0).tk := by
  unfold tkt; rw [idx_get h hj, if_pos (by omega)]; rfl
theorem ids_cell {w : World} {b j : Nat} {L : List It} (h : Ints w b (L.map It.id)) (hj : j < L.length) : w.cell? ⟨b, j, none⟩ = some (.int .i64 (L.getD j it0).id) := by
  rw [h.cell (k := j) (by simpa using hj)]
  simp [List.getD, List.getElem?_eq_getElem hj]
namespace ringFirst
def Rel (w wr : World) (p : Nat) (T tk : Int) : Prop := ∃ S L, Hw w wr S p 256 T L ∧ 0 ≤ tk ∧ tk ≤ T ∧ ∀ x ∈ L, tk < x.tk
set_option maxHeartbeats 8000000 in
set_option maxRecDepth 100000 in
theorem walk (A : Option Addr) (n c : Nat) (kd di : Nat → Int) (w : World) (hd : RdD w A n kd di) :
    Calls Try.prog 4 #[.slice A n c] w fun e w' => e = .returned (.bool true) ∧ But No w w' := by
  have HD := Lib.hid hd
  have hmax := hd.max
  clear hd
  go_enter Try.func4, Try.ntmps4
  go_wp2_with (first
    | (go_at_call 7; refine (examples_any _).mono ?_; rintro e we ⟨rfl, hbe⟩; have HE := Lib.hid hbe; clear hbe)
    | (go_at_call 8; refine (new_ok 256 _ (by omega) (by omega)).mono ?_; rintro e w1 ⟨p, rfl, hne⟩; have HN1 := Lib.hid hne; clear hne))
  have H1 : Hid (Rel w w1 p 0 0) := by
    obtain ⟨S, hp, hb, hs⟩ := HN1.out
    exact ⟨S, [], ⟨hp, HE.out.trans hb, fun k hk => Nat.le_trans HE.out.size (hs k hk)⟩, by omega, by omega, by simp⟩
  clear HN1 HE
  go_loopw [6, 7, 8] (fun s t i wr => ∃ (T tk : Int) (k : Nat), s = .int .i64 T ∧ t = .int .i64 tk ∧ i = .int .i64 k ∧ k ≤ n ∧ k ≤ 200 ∧ T ≤ k ∧ Hid (Rel w wr p T tk)) (fun _ _ i _ => n - (intOf i).toNat)
  case atStart => exact ⟨0, 0, 0, rfl, rfl, rfl, by omega, by omega, by omega, H1⟩
  case round =>
    obtain ⟨T, tk, k, rfl, rfl, rfl, hk, hk3, htk, hrel⟩ := hrel
    clear H1
    obtain ⟨S, L, hs, hz⟩ := hrel.out
    have HS := Lib.hid hs
    have HZ := Lib.hid hz
    have HTK := Lib.hid htk
    have hT0 := hs.rp.t0
    have hT : T < 1000000 := by omega
    have htk0 : 0 ≤ tk := hz.1
    have htk1 : tk ≤ 1000000 := by have := hz.2.1; omega
    clear hs htk hz hrel
    by_cases hgo : k < n ∧ k < 200
    · obtain ⟨hlt, hl3⟩ := hgo
      obtain ⟨eb, eoff, rfl, hbl, hc⟩ := (HD.out.no HS.out.but).at_ (by omega)
      obtain ⟨c0, c1⟩ := hc k hlt
      obtain ⟨f0, f1⟩ := HD.out.fit k hlt
      have q0 := pk_lt (kd k) 3 (by omega)
      generalize kd k = x0 at c0 f0 q0
      generalize di k = x1 at c1 f1
      have F0 := Lib.hid f0
      have F1 := Lib.hid f1
      have kn' : (k : Int) < (n : Int) := by omega
      have k3' : (k : Int) < 200 := by omega
      have HPD : Hid (Hw w (wr.alloc (.cells #[.int .i64 x0, .int .i64 x1] 31)) S p 256 T L) := HS.out.no ((But.refl No wr).alloc _)
      clear hc hbl f0 f1
      by_cases hc0 : pk x0 3 = 0
      · have CK : Hid (∀ w, Calls Try.prog 10 #[.int .i64 x0, .int .i64 3] w fun e w' => e = .returned (.int .i64 0) ∧ w = w') := fun w => by rw [← hc0]; exact pick_any x0 3 w F0.out (by omega) (by omega)
        have CPU : Hid (∀ w', Hw w w' S p 256 T L → Calls Try.prog 11 #[.pointer (some ⟨p, 0, none⟩), .int .i64 x1] w' fun e w'' => e = .returned (.tuple #[.int .i64 (putK 256 T L x1), .int .i64 (putE 256 L x1)]) ∧ Mv w' S p 256 (putT 256 T L x1) (putL 256 T L x1) w'') := fun w' h' => put_any p 256 T L S w' x1 h'.rp F1.out hT
        clear hc0 q0
        unfold putK putT putL at CPU
        by_cases he : putE 256 L x1 = 0
        · rw [he, if_pos rfl, if_pos rfl, if_pos rfl] at CPU
          have HI2 : Hid (0 ≤ tk ∧ tk ≤ T + 1 ∧ ∀ x ∈ L ++ [⟨x1, T + 1⟩], tk < x.tk) := by
            obtain ⟨z0, z1, z2⟩ := HZ.out
            refine ⟨z0, by omega, fun x hx => ?_⟩
            rcases List.mem_append.1 hx with hx | hx
            · exact z2 x hx
            · rw [List.mem_singleton] at hx; rw [hx]; show tk < T + 1; omega
          have bn : ((T + 1) != (T + 1)) = false := by simp
          clear he
          obtain ⟨L2, hL2⟩ : ∃ l, l = (L ++ [⟨x1, T + 1⟩]) := ⟨_, rfl⟩
          obtain ⟨T2, hT2⟩ : ∃ t, t = (T + 1) := ⟨_, rfl⟩
          obtain ⟨n8, hn8⟩ : ∃ n8, n8 = L2.length := ⟨_, rfl⟩
          have HN8 := Lib.hid hn8
          have HL2 : Hid (L2 = (L ++ [⟨x1, T + 1⟩]) ∧ T2 = (T + 1)) := ⟨hL2, hT2⟩
          have CA : Hid (∀ w', Hw w w' S p 256 (T + 1) (L ++ [⟨x1, T + 1⟩]) → Calls Try.prog 17 #[.pointer (some ⟨p, 0, none⟩)] w' fun e w'' => ∃ b, e = .returned (.slice (some ⟨b, 0, none⟩) n8 n8) ∧ Ints w'' b (L2.map It.id) ∧ But No w' w'' ∧ w'.heap.size ≤ b) := fun w' h' => by
            rw [hn8, hL2]; exact all_any p 256 _ _ S w' h'.rp
          have hn8l : n8 ≤ 256 ∨ 256 < n8 := by omega
          clear hn8 hL2 hT2
          go_wp2_with (first | (go_at_call 10; ((with_reducible refine (CK.out _).mono ?_); rintro e w2 ⟨rfl, rfl⟩)) | (go_at_call 11; refine (CPU.out _ HPD.out).mono ?_; rintro e w3 ⟨rfl, hm⟩; have H3 := Lib.hid (HPD.out.step hm); clear hm) | (go_at_call 17; refine (CA.out _ H3.out).mono ?_; rintro e w6 ⟨b, rfl, hI, hb6, hbl⟩; have H6 : Hid (Hw w w6 S p 256 T2 L2) := (by rw [HL2.out.1, HL2.out.2]; exact H3.out.no hb6); have HI6 := Lib.hid hI; clear hI hb6 hbl))
          have hn8m : n8 ≤ 256 := by have := H6.out.rp.len; have := H6.out.rp.r1; have := HN8.out; omega
          clear hn8l
          go_loopw [18] (fun s wx => ∃ j : Nat, s = .int .i64 j ∧ 1 ≤ j ∧ j ≤ 257 ∧ Hid (Hw w wx S p 256 T2 L2) ∧ Hid (Ints wx b (L2.map It.id))) (fun s _ => n8 - (intOf s).toNat)
          case atStart => exact ⟨1, rfl, by omega, by omega, H6, HI6⟩
          case round =>
            obtain ⟨j, rfl, hj1, hj2, h7, hi7⟩ := hrel
            clear H6 HI6
            by_cases hjl : j < n8
            · obtain ⟨i, hi⟩ : ∃ i, i = j - 1 := ⟨_, rfl⟩
              have hjL : j < L2.length := by rw [← HN8.out]; exact hjl
              have hiL : i < L2.length := by rw [← HN8.out]; omega
              have cj := ids_cell hi7.out hjL
              have ci := ids_cell hi7.out hiL
              obtain ⟨tj, htj⟩ : ∃ x, x = (L2.getD j it0).tk := ⟨_, rfl⟩
              obtain ⟨ti, hti⟩ : ∃ x, x = (L2.getD i it0).tk := ⟨_, rfl⟩
              have hlt' : ti < tj := by rw [hti, htj]; exact srt_get h7.out.rp.srt (by omega) hjL
              have C1 : Hid (∀ m, Calls Try.prog 23 #[.pointer (some ⟨p, 0, none⟩), .int .i64 (L2.getD j it0).id] (wr.drewN m) fun r w' => r = .returned (.int .i64 tj) ∧ ∃ m', w' = (wr.drewN m).drewN m') := fun m => by
                have := ticket_any p 256 T2 L2 S _ (L2.getD j it0).id (h7.out.rp.drewN m)
                rw [tkt_get h7.out.rp.nd hjL, ← htj] at this; exact this
              have C2 : Hid (∀ m, Calls Try.prog 23 #[.pointer (some ⟨p, 0, none⟩), .int .i64 (L2.getD i it0).id] (wr.drewN m) fun r w' => r = .returned (.int .i64 ti) ∧ ∃ m', w' = (wr.drewN m).drewN m') := fun m => by
                have := ticket_any p 256 T2 L2 S _ (L2.getD i it0).id (h7.out.rp.drewN m)
                rw [tkt_get h7.out.rp.nd hiL, ← hti] at this; exact this
              have C3 : Hid (∀ m, Calls Try.prog 21 #[.pointer (some ⟨p, 0, none⟩), .int .i64 (L2.getD j it0).id] (wr.drewN m) fun r w' => r = .returned (.int .i64 j) ∧ ∃ m', w' = (wr.drewN m).drewN m') := fun m => by
                have := place_any p 256 T2 L2 S _ (L2.getD j it0).id (h7.out.rp.drewN m)
                rw [idx_get h7.out.rp.nd hjL] at this; exact this
              have ei : (j : Int) - 1 = (i : Int) := by omega
              have ei1 : IntKind.i64.wrap ((j : Int) - 1) = (i : Int) := by rw [IntWalk.i64_in ((j : Int) - 1) (by omega)]; exact ei
              have ei2 : IntKind.i64.wrap (i : Int) = (i : Int) := IntWalk.i64_in (i : Int) (by omega)
              have bi : (i : Int) < (n8 : Int) := by omega
              have bj : (j : Int) < (n8 : Int) := by omega
              have bt : decide (tj ≤ ti) = false := by simp; omega
              have bs : ((j : Int) != (j : Int)) = false := by simp
              generalize (L2.getD j it0).id = yj at cj C1 C3
              generalize (L2.getD i it0).id = yi at ci C2
              clear hi htj hti hjL hiL hlt'
              go_wp2_with fail
              go_quiet (first | (go_at_call 23; with_reducible exact Calls.quiet_of (C1.out _)) | (go_at_call 23; with_reducible exact Calls.quiet_of (C2.out _)) | (go_at_call 21; with_reducible exact Calls.quiet_of (C3.out _)))
              go_wp2
              go_roundw
              case rel => exact ⟨j + 1, by go_num, by omega, by omega, h7.out.no ((But.refl No wr).drewN _), hi7.out.but (S := No) ((But.refl No wr).drewN _) (fun f => f)⟩
              case measure => simp [intOf]; omega
            · have bj : decide ((j : Int) < (n8 : Int)) = false := by simp; omega
              have HF : Hid (Rel w wr p T2 tk) := ⟨S, L2, h7.out, by have := HI2.out; rw [HL2.out.1, HL2.out.2]; exact this⟩
              have HTT : Hid (T2 ≤ ((k + 1 : Nat) : Int)) := by show _ ≤ _; rw [HL2.out.2]; have := HTK.out; omega
              clear h7 hi7
              go_wp2
              go_roundw
              case rel => exact ⟨T2, tk, k + 1, by rw [HL2.out.2], rfl, by go_num, by omega, by omega, HTT.out, HF⟩
              case measure => simp [intOf]; omega
        · rw [if_neg he, if_neg he, if_neg he] at CPU
          generalize putE 256 L x1 = E at CPU he
          have be : (E == 0) = false := by simpa using he
          clear he
          obtain ⟨L2, hL2⟩ : ∃ l, l = L := ⟨_, rfl⟩
          obtain ⟨T2, hT2⟩ : ∃ t, t = T := ⟨_, rfl⟩
          obtain ⟨n8, hn8⟩ : ∃ n8, n8 = L2.length := ⟨_, rfl⟩
          have HN8 := Lib.hid hn8
          have HL2 : Hid (L2 = L ∧ T2 = T) := ⟨hL2, hT2⟩
          have CA : Hid (∀ w', Hw w w' S p 256 T L → Calls Try.prog 17 #[.pointer (some ⟨p, 0, none⟩)] w' fun e w'' => ∃ b, e = .returned (.slice (some ⟨b, 0, none⟩) n8 n8) ∧ Ints w'' b (L2.map It.id) ∧ But No w' w'' ∧ w'.heap.size ≤ b) := fun w' h' => by
            rw [hn8, hL2]; exact all_any p 256 _ _ S w' h'.rp
          have hn8l : n8 ≤ 256 ∨ 256 < n8 := by omega
          clear hn8 hL2 hT2
          go_wp2_with (first | (go_at_call 10; ((with_reducible refine (CK.out _).mono ?_); rintro e w2 ⟨rfl, rfl⟩)) | (go_at_call 11; refine (CPU.out _ HPD.out).mono ?_; rintro e w3 ⟨rfl, hm⟩; have H3 := Lib.hid (HPD.out.step hm); clear hm) | (go_at_call 17; refine (CA.out _ H3.out).mono ?_; rintro e w6 ⟨b, rfl, hI, hb6, hbl⟩; have H6 : Hid (Hw w w6 S p 256 T2 L2) := (by rw [HL2.out.1, HL2.out.2]; exact H3.out.no hb6); have HI6 := Lib.hid hI; clear hI hb6 hbl))
          have hn8m : n8 ≤ 256 := by have := H6.out.rp.len; have := H6.out.rp.r1; have := HN8.out; omega
          clear hn8l
          go_loopw [18] (fun s wx => ∃ j : Nat, s = .int .i64 j ∧ 1 ≤ j ∧ j ≤ 257 ∧ Hid (Hw w wx S p 256 T2 L2) ∧ Hid (Ints wx b (L2.map It.id))) (fun s _ => n8 - (intOf s).toNat)
          case atStart => exact ⟨1, rfl, by omega, by omega, H6, HI6⟩
          case round =>
            obtain ⟨j, rfl, hj1, hj2, h7, hi7⟩ := hrel
            clear H6 HI6
            by_cases hjl : j < n8
            · obtain ⟨i, hi⟩ : ∃ i, i = j - 1 := ⟨_, rfl⟩
              have hjL : j < L2.length := by rw [← HN8.out]; exact hjl
              have hiL : i < L2.length := by rw [← HN8.out]; omega
              have cj := ids_cell hi7.out hjL
              have ci := ids_cell hi7.out hiL
              obtain ⟨tj, htj⟩ : ∃ x, x = (L2.getD j it0).tk := ⟨_, rfl⟩
              obtain ⟨ti, hti⟩ : ∃ x, x = (L2.getD i it0).tk := ⟨_, rfl⟩
              have hlt' : ti < tj := by rw [hti, htj]; exact srt_get h7.out.rp.srt (by omega) hjL
              have C1 : Hid (∀ m, Calls Try.prog 23 #[.pointer (some ⟨p, 0, none⟩), .int .i64 (L2.getD j it0).id] (wr.drewN m) fun r w' => r = .returned (.int .i64 tj) ∧ ∃ m', w' = (wr.drewN m).drewN m') := fun m => by
                have := ticket_any p 256 T2 L2 S _ (L2.getD j it0).id (h7.out.rp.drewN m)
                rw [tkt_get h7.out.rp.nd hjL, ← htj] at this; exact this
              have C2 : Hid (∀ m, Calls Try.prog 23 #[.pointer (some ⟨p, 0, none⟩), .int .i64 (L2.getD i it0).id] (wr.drewN m) fun r w' => r = .returned (.int .i64 ti) ∧ ∃ m', w' = (wr.drewN m).drewN m') := fun m => by
                have := ticket_any p 256 T2 L2 S _ (L2.getD i it0).id (h7.out.rp.drewN m)
                rw [tkt_get h7.out.rp.nd hiL, ← hti] at this; exact this
              have C3 : Hid (∀ m, Calls Try.prog 21 #[.pointer (some ⟨p, 0, none⟩), .int .i64 (L2.getD j it0).id] (wr.drewN m) fun r w' => r = .returned (.int .i64 j) ∧ ∃ m', w' = (wr.drewN m).drewN m') := fun m => by
                have := place_any p 256 T2 L2 S _ (L2.getD j it0).id (h7.out.rp.drewN m)
                rw [idx_get h7.out.rp.nd hjL] at this; exact this
              have ei : (j : Int) - 1 = (i : Int) := by omega
              have ei1 : IntKind.i64.wrap ((j : Int) - 1) = (i : Int) := by rw [IntWalk.i64_in ((j : Int) - 1) (by omega)]; exact ei
              have ei2 : IntKind.i64.wrap (i : Int) = (i : Int) := IntWalk.i64_in (i : Int) (by omega)
              have bi : (i : Int) < (n8 : Int) := by omega
              have bj : (j : Int) < (n8 : Int) := by omega
              have bt : decide (tj ≤ ti) = false := by simp; omega
              have bs : ((j : Int) != (j : Int)) = false := by simp
              generalize (L2.getD j it0).id = yj at cj C1 C3
              generalize (L2.getD i it0).id = yi at ci C2
              clear hi htj hti hjL hiL hlt'
              go_wp2_with fail
              go_quiet (first | (go_at_call 23; with_reducible exact Calls.quiet_of (C1.out _)) | (go_at_call 23; with_reducible exact Calls.quiet_of (C2.out _)) | (go_at_call 21; with_reducible exact Calls.quiet_of (C3.out _)))
              go_wp2
              go_roundw
              case rel => exact ⟨j + 1, by go_num, by omega, by omega, h7.out.no ((But.refl No wr).drewN _), hi7.out.but (S := No) ((But.refl No wr).drewN _) (fun f => f)⟩
              case measure => simp [intOf]; omega
            · have bj : decide ((j : Int) < (n8 : Int)) = false := by simp; omega
              have HF : Hid (Rel w wr p T2 tk) := ⟨S, L2, h7.out, by have := HZ.out; rw [HL2.out.1, HL2.out.2]; exact this⟩
              have HTT : Hid (T2 ≤ ((k + 1 : Nat) : Int)) := by show _ ≤ _; rw [HL2.out.2]; have := HTK.out; omega
              clear h7 hi7
              go_wp2
              go_roundw
              case rel => exact ⟨T2, tk, k + 1, by rw [HL2.out.2], rfl, by go_num, by omega, by omega, HTT.out, HF⟩
              case measure => simp [intOf]; omega
      · by_cases hc1 : pk x0 3 = 1
        · have CK : Hid (∀ w, Calls Try.prog 10 #[.int .i64 x0, .int .i64 3] w fun e w' => e = .returned (.int .i64 1) ∧ w = w') := fun w => by rw [← hc1]; exact pick_any x0 3 w F0.out (by omega) (by omega)
          clear hc0 hc1 q0
          have CH : Hid (∀ w', Hw w w' S p 256 T L → Calls Try.prog 19 #[.pointer (some ⟨p, 0, none⟩)] w' fun r w'' => r = .returned (.tuple #[.int .i64 (fst1 L), .bool (fst3 L)]) ∧ ∃ m, w'' = w'.drewN m) := fun w' h' => head_any p 256 T L S w' h'.rp
          have CX : Hid (∀ w', Hw w w' S p 256 T L → Calls Try.prog 23 #[.pointer (some ⟨p, 0, none⟩), .int .i64 (fst1 L)] w' fun r w'' => r = .returned (.int .i64 (tkt L (fst1 L))) ∧ ∃ m, w'' = w'.drewN m) := fun w' h' => ticket_any p 256 T L S w' _ h'.rp
          have CT : Hid (∀ w', Hw w w' S p 256 T L → Calls Try.prog 13 #[.pointer (some ⟨p, 0, none⟩)] w' fun r w'' => r = .returned (.tuple #[.int .i64 (fst1 L), .bool (fst3 L)]) ∧ Mv w' S p 256 T L.tail w'') := fun w' h' => take_any p 256 T L S w' h'.rp
          by_cases hL : L = []
          · have e1 : fst1 L = 0 := by rw [hL]; rfl
            have e3 : fst3 L = false := by rw [hL]; rfl
            rw [e1, e3] at CH CT
            rw [e1] at CX
            generalize tkt L 0 = ty at CX
            have HI2 : Hid (0 ≤ tk ∧ tk ≤ T ∧ ∀ x ∈ L.tail, tk < x.tk) := ⟨HZ.out.1, HZ.out.2.1, fun x hx => HZ.out.2.2 x (List.mem_of_mem_tail hx)⟩
            clear hL e1 e3
            obtain ⟨L2, hL2⟩ : ∃ l, l = L.tail := ⟨_, rfl⟩
            obtain ⟨T2, hT2⟩ : ∃ t, t = T := ⟨_, rfl⟩
            obtain ⟨n8, hn8⟩ : ∃ n8, n8 = L2.length := ⟨_, rfl⟩
            have HN8 := Lib.hid hn8
            have HL2 : Hid (L2 = L.tail ∧ T2 = T) := ⟨hL2, hT2⟩
            have CA : Hid (∀ w', Hw w w' S p 256 T L.tail → Calls Try.prog 17 #[.pointer (some ⟨p, 0, none⟩)] w' fun e w'' => ∃ b, e = .returned (.slice (some ⟨b, 0, none⟩) n8 n8) ∧ Ints w'' b (L2.map It.id) ∧ But No w' w'' ∧ w'.heap.size ≤ b) := fun w' h' => by
              rw [hn8, hL2]; exact all_any p 256 _ _ S w' h'.rp
            have hn8l : n8 ≤ 256 ∨ 256 < n8 := by omega
            clear hn8 hL2 hT2
            go_wp2_with (first | (go_at_call 10; ((with_reducible refine (CK.out _).mono ?_); rintro e w2 ⟨rfl, rfl⟩)) | (go_at_call 19; refine (CH.out _ HPD.out).mono ?_; rintro e w3 ⟨rfl, hw⟩; have H3 := Lib.hid (HPD.out.no (drewN_but hw)); clear hw) | (go_at_call 23; refine (CX.out _ H3.out).mono ?_; rintro e w4 ⟨rfl, hw⟩; have H4 := Lib.hid (H3.out.no (drewN_but hw)); clear hw) | (go_at_call 13; refine (CT.out _ H4.out).mono ?_; rintro e w5 ⟨rfl, hm⟩; have H5 := Lib.hid (H4.out.step hm); clear hm) | (go_at_call 17; refine (CA.out _ H5.out).mono ?_; rintro e w6 ⟨b, rfl, hI, hb6, hbl⟩; have H6 : Hid (Hw w w6 S p 256 T2 L2) := (by rw [HL2.out.1, HL2.out.2]; exact H5.out.no hb6); have HI6 := Lib.hid hI; clear hI hb6 hbl))
            have hn8m : n8 ≤ 256 := by have := H6.out.rp.len; have := H6.out.rp.r1; have := HN8.out; omega
            clear hn8l
            go_loopw [18] (fun s wx => ∃ j : Nat, s = .int .i64 j ∧ 1 ≤ j ∧ j ≤ 257 ∧ Hid (Hw w wx S p 256 T2 L2) ∧ Hid (Ints wx b (L2.map It.id))) (fun s _ => n8 - (intOf s).toNat)
            case atStart => exact ⟨1, rfl, by omega, by omega, H6, HI6⟩
            case round =>
              obtain ⟨j, rfl, hj1, hj2, h7, hi7⟩ := hrel
              clear H6 HI6
              by_cases hjl : j < n8
              · obtain ⟨i, hi⟩ : ∃ i, i = j - 1 := ⟨_, rfl⟩
                have hjL : j < L2.length := by rw [← HN8.out]; exact hjl
                have hiL : i < L2.length := by rw [← HN8.out]; omega
                have cj := ids_cell hi7.out hjL
                have ci := ids_cell hi7.out hiL
                obtain ⟨tj, htj⟩ : ∃ x, x = (L2.getD j it0).tk := ⟨_, rfl⟩
                obtain ⟨ti, hti⟩ : ∃ x, x = (L2.getD i it0).tk := ⟨_, rfl⟩
                have hlt' : ti < tj := by rw [hti, htj]; exact srt_get h7.out.rp.srt (by omega) hjL
                have C1 : Hid (∀ m, Calls Try.prog 23 #[.pointer (some ⟨p, 0, none⟩), .int .i64 (L2.getD j it0).id] (wr.drewN m) fun r w' => r = .returned (.int .i64 tj) ∧ ∃ m', w' = (wr.drewN m).drewN m') := fun m => by
                  have := ticket_any p 256 T2 L2 S _ (L2.getD j it0).id (h7.out.rp.drewN m)
                  rw [tkt_get h7.out.rp.nd hjL, ← htj] at this; exact this
                have C2 : Hid (∀ m, Calls Try.prog 23 #[.pointer (some ⟨p, 0, none⟩), .int .i64 (L2.getD i it0).id] (wr.drewN m) fun r w' => r = .returned (.int .i64 ti) ∧ ∃ m', w' = (wr.drewN m).drewN m') := fun m => by
                  have := ticket_any p 256 T2 L2 S _ (L2.getD i it0).id (h7.out.rp.drewN m)
                  rw [tkt_get h7.out.rp.nd hiL, ← hti] at this; exact this
                have C3 : Hid (∀ m, Calls Try.prog 21 #[.pointer (some ⟨p, 0, none⟩), .int .i64 (L2.getD j it0).id] (wr.drewN m) fun r w' => r = .returned (.int .i64 j) ∧ ∃ m', w' = (wr.drewN m).drewN m') := fun m => by
                  have := place_any p 256 T2 L2 S _ (L2.getD j it0).id (h7.out.rp.drewN m)
                  rw [idx_get h7.out.rp.nd hjL] at this; exact this
                have ei : (j : Int) - 1 = (i : Int) := by omega
                have ei1 : IntKind.i64.wrap ((j : Int) - 1) = (i : Int) := by rw [IntWalk.i64_in ((j : Int) - 1) (by omega)]; exact ei
                have ei2 : IntKind.i64.wrap (i : Int) = (i : Int) := IntWalk.i64_in (i : Int) (by omega)
                have bi : (i : Int) < (n8 : Int) := by omega
                have bj : (j : Int) < (n8 : Int) := by omega
                have bt : decide (tj ≤ ti) = false := by simp; omega
                have bs : ((j : Int) != (j : Int)) = false := by simp
                generalize (L2.getD j it0).id = yj at cj C1 C3
                generalize (L2.getD i it0).id = yi at ci C2
                clear hi htj hti hjL hiL hlt'
                go_wp2_with fail
                go_quiet (first | (go_at_call 23; with_reducible exact Calls.quiet_of (C1.out _)) | (go_at_call 23; with_reducible exact Calls.quiet_of (C2.out _)) | (go_at_call 21; with_reducible exact Calls.quiet_of (C3.out _)))
                go_wp2
                go_roundw
                case rel => exact ⟨j + 1, by go_num, by omega, by omega, h7.out.no ((But.refl No wr).drewN _), hi7.out.but (S := No) ((But.refl No wr).drewN _) (fun f => f)⟩
                case measure => simp [intOf]; omega
              · have bj : decide ((j : Int) < (n8 : Int)) = false := by simp; omega
                have HF : Hid (Rel w wr p T2 tk) := ⟨S, L2, h7.out, by have := HI2.out; rw [HL2.out.1, HL2.out.2]; exact this⟩
                have HTT : Hid (T2 ≤ ((k + 1 : Nat) : Int)) := by show _ ≤ _; rw [HL2.out.2]; have := HTK.out; omega
                clear h7 hi7
                go_wp2
                go_roundw
                case rel => exact ⟨T2, tk, k + 1, by rw [HL2.out.2], rfl, by go_num, by omega, by omega, HTT.out, HF⟩
                case measure => simp [intOf]; omega
          · have hpos : 0 < L.length := List.length_pos_iff.2 hL
            have e1 : fst1 L = (L.getD 0 it0).id := fst1_get L
            have e3 : fst3 L = true := by rw [fst3_len]; simpa using hpos
            have et : tkt L (fst1 L) = (L.getD 0 it0).tk := by rw [e1]; exact tkt_get HS.out.rp.nd hpos
            have hgt : tk < (L.getD 0 it0).tk := HZ.out.2.2 _ (getD_mem hpos)
            have htb := HS.out.rp.tb _ (getD_mem hpos)
            have HI2 : Hid (0 ≤ (L.getD 0 it0).tk ∧ (L.getD 0 it0).tk ≤ T ∧ ∀ x ∈ L.tail, (L.getD 0 it0).tk < x.tk) := by
              refine ⟨by omega, htb.2, fun x hx => ?_⟩
              cases L with
              | nil => cases hx
              | cons y t => exact (List.pairwise_cons.1 HS.out.rp.srt).1 x hx
            rw [et] at CX
            rw [e3] at CH CT
            generalize fst1 L = ya at CH CT CX
            generalize (L.getD 0 it0).tk = ty at CX HI2 hgt
            have bt : decide (ty ≤ tk) = false := by simp; omega
            have bs : (ya != ya) = false := by simp
            clear hL e1 e3 et hpos htb
            obtain ⟨L2, hL2⟩ : ∃ l, l = L.tail := ⟨_, rfl⟩
            obtain ⟨T2, hT2⟩ : ∃ t, t = T := ⟨_, rfl⟩
            obtain ⟨n8, hn8⟩ : ∃ n8, n8 = L2.length := ⟨_, rfl⟩
            have HN8 := Lib.hid hn8
            have HL2 : Hid (L2 = L.tail ∧ T2 = T) := ⟨hL2, hT2⟩
            have CA : Hid (∀ w', Hw w w' S p 256 T L.tail → Calls Try.prog 17 #[.pointer (some ⟨p, 0, none⟩)] w' fun e w'' => ∃ b, e = .returned (.slice (some ⟨b, 0, none⟩) n8 n8) ∧ Ints w'' b (L2.map It.id) ∧ But No w' w'' ∧ w'.heap.size ≤ b) := fun w' h' => by
              rw [hn8, hL2]; exact all_any p 256 _ _ S w' h'.rp
            have hn8l : n8 ≤ 256 ∨ 256 < n8 := by omega
            clear hn8 hL2 hT2
            go_wp2_with (first | (go_at_call 10; ((with_reducible refine (CK.out _).mono ?_); rintro e w2 ⟨rfl, rfl⟩)) | (go_at_call 19; refine (CH.out _ HPD.out).mono ?_; rintro e w3 ⟨rfl, hw⟩; have H3 := Lib.hid (HPD.out.no (drewN_but hw)); clear hw) | (go_at_call 23; refine (CX.out _ H3.out).mono ?_; rintro e w4 ⟨rfl, hw⟩; have H4 := Lib.hid (H3.out.no (drewN_but hw)); clear hw) | (go_at_call 13; refine (CT.out _ H4.out).mono ?_; rintro e w5 ⟨rfl, hm⟩; have H5 := Lib.hid (H4.out.step hm); clear hm) | (go_at_call 17; refine (CA.out _ H5.out).mono ?_; rintro e w6 ⟨b, rfl, hI, hb6, hbl⟩; have H6 : Hid (Hw w w6 S p 256 T2 L2) := (by rw [HL2.out.1, HL2.out.2]; exact H5.out.no hb6); have HI6 := Lib.hid hI; clear hI hb6 hbl))
            have hn8m : n8 ≤ 256 := by have := H6.out.rp.len; have := H6.out.rp.r1; have := HN8.out; omega
            clear hn8l
            go_loopw [18] (fun s wx => ∃ j : Nat, s = .int .i64 j ∧ 1 ≤ j ∧ j ≤ 257 ∧ Hid (Hw w wx S p 256 T2 L2) ∧ Hid (Ints wx b (L2.map It.id))) (fun s _ => n8 - (intOf s).toNat)
            case atStart => exact ⟨1, rfl, by omega, by omega, H6, HI6⟩
            case round =>
              obtain ⟨j, rfl, hj1, hj2, h7, hi7⟩ := hrel
              clear H6 HI6
              by_cases hjl : j < n8
              · obtain ⟨i, hi⟩ : ∃ i, i = j - 1 := ⟨_, rfl⟩
                have hjL : j < L2.length := by rw [← HN8.out]; exact hjl
                have hiL : i < L2.length := by rw [← HN8.out]; omega
                have cj := ids_cell hi7.out hjL
                have ci := ids_cell hi7.out hiL
                obtain ⟨tj, htj⟩ : ∃ x, x = (L2.getD j it0).tk := ⟨_, rfl⟩
                obtain ⟨ti, hti⟩ : ∃ x, x = (L2.getD i it0).tk := ⟨_, rfl⟩
                have hlt' : ti < tj := by rw [hti, htj]; exact srt_get h7.out.rp.srt (by omega) hjL
                have C1 : Hid (∀ m, Calls Try.prog 23 #[.pointer (some ⟨p, 0, none⟩), .int .i64 (L2.getD j it0).id] (wr.drewN m) fun r w' => r = .returned (.int .i64 tj) ∧ ∃ m', w' = (wr.drewN m).drewN m') := fun m => by
                  have := ticket_any p 256 T2 L2 S _ (L2.getD j it0).id (h7.out.rp.drewN m)
                  rw [tkt_get h7.out.rp.nd hjL, ← htj] at this; exact this
                have C2 : Hid (∀ m, Calls Try.prog 23 #[.pointer (some ⟨p, 0, none⟩), .int .i64 (L2.getD i it0).id] (wr.drewN m) fun r w' => r = .returned (.int .i64 ti) ∧ ∃ m', w' = (wr.drewN m).drewN m') := fun m => by
                  have := ticket_any p 256 T2 L2 S _ (L2.getD i it0).id (h7.out.rp.drewN m)
                  rw [tkt_get h7.out.rp.nd hiL, ← hti] at this; exact this
                have C3 : Hid (∀ m, Calls Try.prog 21 #[.pointer (some ⟨p, 0, none⟩), .int .i64 (L2.getD j it0).id] (wr.drewN m) fun r w' => r = .returned (.int .i64 j) ∧ ∃ m', w' = (wr.drewN m).drewN m') := fun m => by
                  have := place_any p 256 T2 L2 S _ (L2.getD j it0).id (h7.out.rp.drewN m)
                  rw [idx_get h7.out.rp.nd hjL] at this; exact this
                have ei : (j : Int) - 1 = (i : Int) := by omega
                have ei1 : IntKind.i64.wrap ((j : Int) - 1) = (i : Int) := by rw [IntWalk.i64_in ((j : Int) - 1) (by omega)]; exact ei
                have ei2 : IntKind.i64.wrap (i : Int) = (i : Int) := IntWalk.i64_in (i : Int) (by omega)
                have bi : (i : Int) < (n8 : Int) := by omega
                have bj : (j : Int) < (n8 : Int) := by omega
                have bt : decide (tj ≤ ti) = false := by simp; omega
                have bs : ((j : Int) != (j : Int)) = false := by simp
                generalize (L2.getD j it0).id = yj at cj C1 C3
                generalize (L2.getD i it0).id = yi at ci C2
                clear hi htj hti hjL hiL hlt'
                go_wp2_with fail
                go_quiet (first | (go_at_call 23; with_reducible exact Calls.quiet_of (C1.out _)) | (go_at_call 23; with_reducible exact Calls.quiet_of (C2.out _)) | (go_at_call 21; with_reducible exact Calls.quiet_of (C3.out _)))
                go_wp2
                go_roundw
                case rel => exact ⟨j + 1, by go_num, by omega, by omega, h7.out.no ((But.refl No wr).drewN _), hi7.out.but (S := No) ((But.refl No wr).drewN _) (fun f => f)⟩
                case measure => simp [intOf]; omega
              · have bj : decide ((j : Int) < (n8 : Int)) = false := by simp; omega
                have HF : Hid (Rel w wr p T2 ty) := ⟨S, L2, h7.out, by have := HI2.out; rw [HL2.out.1, HL2.out.2]; exact this⟩
                have HTT : Hid (T2 ≤ ((k + 1 : Nat) : Int)) := by show _ ≤ _; rw [HL2.out.2]; have := HTK.out; omega
                clear h7 hi7
                go_wp2
                go_roundw
                case rel => exact ⟨T2, ty, k + 1, by rw [HL2.out.2], rfl, by go_num, by omega, by omega, HTT.out, HF⟩
                case measure => simp [intOf]; omega
        · have hc2 : pk x0 3 = 2 := by omega
          have CK : Hid (∀ w, Calls Try.prog 10 #[.int .i64 x0, .int .i64 3] w fun e w' => e = .returned (.int .i64 2) ∧ w = w') := fun w => by rw [← hc2]; exact pick_any x0 3 w F0.out (by omega) (by omega)
          have CPU : Hid (∀ w', Hw w w' S p 256 T L → Calls Try.prog 15 #[.pointer (some ⟨p, 0, none⟩), .int .i64 x1] w' fun e w'' => e = .returned (.bool (hasI L x1)) ∧ Mv w' S p 256 T (rmv L x1) w'') := fun w' h' => drop_any p 256 T L S w' x1 h'.rp
          clear hc0 hc1 hc2 q0
          have HI2 : Hid (0 ≤ tk ∧ tk ≤ T ∧ ∀ x ∈ rmv L x1, tk < x.tk) := by
            refine ⟨HZ.out.1, HZ.out.2.1, fun x hx => HZ.out.2.2 x ?_⟩
            unfold rmv at hx
            split at hx
            · exact eraseIdx_mem hx
            · exact hx
          generalize hasI L x1 = hb at CPU
          obtain ⟨L2, hL2⟩ : ∃ l, l = (rmv L x1) := ⟨_, rfl⟩
          obtain ⟨T2, hT2⟩ : ∃ t, t = T := ⟨_, rfl⟩
          obtain ⟨n8, hn8⟩ : ∃ n8, n8 = L2.length := ⟨_, rfl⟩
          have HN8 := Lib.hid hn8
          have HL2 : Hid (L2 = (rmv L x1) ∧ T2 = T) := ⟨hL2, hT2⟩
          have CA : Hid (∀ w', Hw w w' S p 256 T (rmv L x1) → Calls Try.prog 17 #[.pointer (some ⟨p, 0, none⟩)] w' fun e w'' => ∃ b, e = .returned (.slice (some ⟨b, 0, none⟩) n8 n8) ∧ Ints w'' b (L2.map It.id) ∧ But No w' w'' ∧ w'.heap.size ≤ b) := fun w' h' => by
            rw [hn8, hL2]; exact all_any p 256 _ _ S w' h'.rp
          have hn8l : n8 ≤ 256 ∨ 256 < n8 := by omega
          clear hn8 hL2 hT2
          go_wp2_with (first | (go_at_call 10; ((with_reducible refine (CK.out _).mono ?_); rintro e w2 ⟨rfl, rfl⟩)) | (go_at_call 15; refine (CPU.out _ HPD.out).mono ?_; rintro e w3 ⟨rfl, hm⟩; have H3 := Lib.hid (HPD.out.step hm); clear hm) | (go_at_call 17; refine (CA.out _ H3.out).mono ?_; rintro e w6 ⟨b, rfl, hI, hb6, hbl⟩; have H6 : Hid (Hw w w6 S p 256 T2 L2) := (by rw [HL2.out.1, HL2.out.2]; exact H3.out.no hb6); have HI6 := Lib.hid hI; clear hI hb6 hbl))
          have hn8m : n8 ≤ 256 := by have := H6.out.rp.len; have := H6.out.rp.r1; have := HN8.out; omega
          clear hn8l
          go_loopw [18] (fun s wx => ∃ j : Nat, s = .int .i64 j ∧ 1 ≤ j ∧ j ≤ 257 ∧ Hid (Hw w wx S p 256 T2 L2) ∧ Hid (Ints wx b (L2.map It.id))) (fun s _ => n8 - (intOf s).toNat)
          case atStart => exact ⟨1, rfl, by omega, by omega, H6, HI6⟩
          case round =>
            obtain ⟨j, rfl, hj1, hj2, h7, hi7⟩ := hrel
            clear H6 HI6
            by_cases hjl : j < n8
            · obtain ⟨i, hi⟩ : ∃ i, i = j - 1 := ⟨_, rfl⟩
              have hjL : j < L2.length := by rw [← HN8.out]; exact hjl
              have hiL : i < L2.length := by rw [← HN8.out]; omega
              have cj := ids_cell hi7.out hjL
              have ci := ids_cell hi7.out hiL
              obtain ⟨tj, htj⟩ : ∃ x, x = (L2.getD j it0).tk := ⟨_, rfl⟩
              obtain ⟨ti, hti⟩ : ∃ x, x = (L2.getD i it0).tk := ⟨_, rfl⟩
              have hlt' : ti < tj := by rw [hti, htj]; exact srt_get h7.out.rp.srt (by omega) hjL
              have C1 : Hid (∀ m, Calls Try.prog 23 #[.pointer (some ⟨p, 0, none⟩), .int .i64 (L2.getD j it0).id] (wr.drewN m) fun r w' => r = .returned (.int .i64 tj) ∧ ∃ m', w' = (wr.drewN m).drewN m') := fun m => by
                have := ticket_any p 256 T2 L2 S _ (L2.getD j it0).id (h7.out.rp.drewN m)
                rw [tkt_get h7.out.rp.nd hjL, ← htj] at this; exact this
              have C2 : Hid (∀ m, Calls Try.prog 23 #[.pointer (some ⟨p, 0, none⟩), .int .i64 (L2.getD i it0).id] (wr.drewN m) fun r w' => r = .returned (.int .i64 ti) ∧ ∃ m', w' = (wr.drewN m).drewN m') := fun m => by
                have := ticket_any p 256 T2 L2 S _ (L2.getD i it0).id (h7.out.rp.drewN m)
                rw [tkt_get h7.out.rp.nd hiL, ← hti] at this; exact this
              have C3 : Hid (∀ m, Calls Try.prog 21 #[.pointer (some ⟨p, 0, none⟩), .int .i64 (L2.getD j it0).id] (wr.drewN m) fun r w' => r = .returned (.int .i64 j) ∧ ∃ m', w' = (wr.drewN m).drewN m') := fun m => by
                have := place_any p 256 T2 L2 S _ (L2.getD j it0).id (h7.out.rp.drewN m)
                rw [idx_get h7.out.rp.nd hjL] at this; exact this
              have ei : (j : Int) - 1 = (i : Int) := by omega
              have ei1 : IntKind.i64.wrap ((j : Int) - 1) = (i : Int) := by rw [IntWalk.i64_in ((j : Int) - 1) (by omega)]; exact ei
              have ei2 : IntKind.i64.wrap (i : Int) = (i : Int) := IntWalk.i64_in (i : Int) (by omega)
              have bi : (i : Int) < (n8 : Int) := by omega
              have bj : (j : Int) < (n8 : Int) := by omega
              have bt : decide (tj ≤ ti) = false := by simp; omega
              have bs : ((j : Int) != (j : Int)) = false := by simp
              generalize (L2.getD j it0).id = yj at cj C1 C3
              generalize (L2.getD i it0).id = yi at ci C2
              clear hi htj hti hjL hiL hlt'
              go_wp2_with fail
              go_quiet (first | (go_at_call 23; with_reducible exact Calls.quiet_of (C1.out _)) | (go_at_call 23; with_reducible exact Calls.quiet_of (C2.out _)) | (go_at_call 21; with_reducible exact Calls.quiet_of (C3.out _)))
              go_wp2
              go_roundw
              case rel => exact ⟨j + 1, by go_num, by omega, by omega, h7.out.no ((But.refl No wr).drewN _), hi7.out.but (S := No) ((But.refl No wr).drewN _) (fun f => f)⟩
              case measure => simp [intOf]; omega
            · have bj : decide ((j : Int) < (n8 : Int)) = false := by simp; omega
              have HF : Hid (Rel w wr p T2 tk) := ⟨S, L2, h7.out, by have := HI2.out; rw [HL2.out.1, HL2.out.2]; exact this⟩
              have HTT : Hid (T2 ≤ ((k + 1 : Nat) : Int)) := by show _ ≤ _; rw [HL2.out.2]; have := HTK.out; omega
              clear h7 hi7
              go_wp2
              go_roundw
              case rel => exact ⟨T2, tk, k + 1, by rw [HL2.out.2], rfl, by go_num, by omega, by omega, HTT.out, HF⟩
              case measure => simp [intOf]; omega
    · by_cases hlt : k < n
      · have b1 : (k : Int) < (n : Int) := by omega
        have b2 : decide ((k : Int) < 200) = false := by simp; omega
        go_wp2
        go_ret
        exact ⟨rfl, HS.out.but⟩
      · have b1 : decide ((k : Int) < (n : Int)) = false := by simp; omega
        go_wp2
        go_ret
        exact ⟨rfl, HS.out.but⟩
end ringFirst
end Go.Proofs.Ythakginneapdeaa
