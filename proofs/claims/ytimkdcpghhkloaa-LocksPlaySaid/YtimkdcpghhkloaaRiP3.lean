/- Contracts of New and Put over a ring's list. -/
import Derived.Test.YtimkdcpghhkloaaRiP2
namespace Go.Proofs.Ytimkdcpghhkloaa.rin
open Go.ChangeShapes Go.WideShapes Go.ChangeAt Go.RowKit Go.Deep
theorem infoT55' : (Try.prog.info? 63).map (fun i => (i.zero, i.size, i.bytes)) = some (some (.agg #[.int .i64 0, .int .i64 0]), 2, 16) := by kernel_rfl
theorem itm_made {w : World} {b n : Nat} (h : w.ownsRow 0 63 2 (.slice (some ⟨b, 0, none⟩) n n) n (madeCells (Value.agg #[.int .i64 0, .int .i64 0]).cells (n * 2)).toList) : Itm w b n (fun _ => it0) := by
  obtain ⟨h1, h2⟩ := h
  rcases h2 with ⟨h2, _⟩ | ⟨g, cap, cur, hv, _, hh, hn, hc, hs, ht⟩
  · cases h2
  · cases hv
    have e : cur = ((List.range (n * 2)).map (cl (fun _ => it0))).toArray := by
      apply Array.ext'
      have e1 : cur.toList.take (n * 2) = cur.toList := List.take_of_length_le (by simp; omega)
      rw [e1] at ht
      rw [ht]
      apply List.ext_getElem?
      intro j
      by_cases hj : j < n * 2
      · have hsz : (Value.agg #[.int .i64 0, .int .i64 0]).cells = #[.int .i64 0, .int .i64 0] := rfl
        rcases Nat.mod_two_eq_zero_or_one j with hm | hm
        · simp [madeCells, hj, cl, it0, hsz, hm]
        · simp [madeCells, hj, cl, it0, hsz, hm]
      · simp [madeCells, hj]
    show w.heap[b]? = _
    rw [hh, e]
def NewEnd (w : World) (R : Int) (p : Nat) (w' : World) : Prop := ∃ S, RP w' S p R 0 [] ∧ But No w w' ∧ ∀ k, S k → w.heap.size ≤ k
set_option maxHeartbeats 1000000 in
theorem new_ok (R : Int) (w : World) (h0 : 0 ≤ R) (h1 : R ≤ 256) :
    Calls Try.prog 22 #[.int .i64 R] w fun r w' => ∃ p, r = .returned (.tuple #[.pointer (some ⟨p, 0, none⟩), .int .i64 0]) ∧ NewEnd w R p w' := by
  have b1 : decide (R < 0) = false := by simp; omega
  have b2 : decide ((256 : Int) < R) = false := by simp; omega
  have CM := Lib.hid (maskFor_any R w h0 h1)
  obtain ⟨i0, hi0, hz0, hz1, hz2⟩ := info_parts infoT55'
  have I0 : Hid (Try.prog.info? 63 = some i0 ∧ i0.zero = some (.agg #[.int .i64 0, .int .i64 0]) ∧ i0.size = 2 ∧ i0.bytes = 16) := ⟨hi0, hz0, hz1, hz2⟩
  clear hi0 hz0 hz1 hz2
  go_enter Try.func22, Try.ntmps22
  go_wp2_with (first
    | (go_at_call 30; refine CM.out.mono ?_; rintro e w1 ⟨sz, rfl, hp, hR, rfl⟩; have HP := Lib.hid hp; have HR := Lib.hid hR; have hs := hp.le; have hs1 : ((sz - 1 : Nat) : Int) + 1 = (sz : Int) := (by have := hp.pos; omega); obtain ⟨m, hm⟩ : ∃ m, m = sz - 1 := ⟨_, rfl⟩; rw [← hm] at hs1 ⊢; have HM := Lib.hid hm; have hm9 : m ≤ 256 := (by omega); clear hp hR hm)
    | (at_make; refine wpList_make_full _ rfl _ _ 59 rfl 0 63 i0 _ 2 Try.underlying59 I0.out.1 I0.out.2.1 I0.out.2.2.1 .i64 .i64 _ _ sz rfl rfl (by omega) (by omega) (by rw [I0.out.2.2.2]; omega) (by unfold maxLen; omega) (Nat.zero_le _) ?_; intro w0 hown0 hgrow0; have HB0 : Hid (But No w w0) := (But.refl No w).grown hgrow0 (fun k e => by cases e); have HI0 := Lib.hid (itm_made hown0); clear hown0 hgrow0))
  go_ret2
  refine ⟨w0.heap.size, rfl, Own w0.heap.size w.heap.size, ⟨⟨w.heap.size, sz, 0, 0, fun _ => it0, ⟨?_, ?_, HI0.out.but (S := No) ((But.refl No w0).alloc _) (fun f => f), HP.out, HP.out.pos, by simpa using h0, HR.out⟩, rfl, fun _ => Iff.rfl⟩, by simp, by simp, by simp, by simp, by omega, h0, h1⟩, HB0.out.alloc _, ?_⟩
  · have := HI0.out.lt; omega
  · rw [← HM.out]; exact Blk.new w0 _ _
  · rintro k (rfl | rfl)
    · exact HB0.out.size
    · omega
theorem new_bad (R : Int) (w : World) (h : R < 0 ∨ 256 < R) :
    Calls Try.prog 22 #[.int .i64 R] w fun r w' => r = .returned (.tuple #[.pointer none, .int .i64 1]) ∧ w = w' := by
  rcases h with h | h
  · have b1 : decide (R < 0) = true := by simp; omega
    go_enter Try.func22, Try.ntmps22
    go_wp2
    go_ret2
    exact ⟨rfl, rfl⟩
  · have b1 : decide (R < 0) = false := by simp; omega
    have b2 : decide ((256 : Int) < R) = true := by simp; omega
    go_enter Try.func22, Try.ntmps22
    go_wp2
    go_ret2
    exact ⟨rfl, rfl⟩
theorem put_fail (p : Nat) (R T : Int) (L : List It) (S : Nat → Prop) (w : World) (a : Int) (h : RP w S p R T L) (he : putE R L a ≠ 0) :
    Calls Try.prog 26 #[.pointer (some ⟨p, 0, none⟩), .int .i64 a] w fun r w' => r = .returned (.tuple #[.int .i64 0, .int .i64 (putE R L a)]) ∧ Mv w S p R T L w' := by
  have CP := Lib.hid (place_any p R T L S w a h)
  have H := Lib.hid h
  by_cases hi : 0 ≤ idx L a
  · have e : putE R L a = 4 := by unfold putE; rw [if_pos hi]
    rw [e]
    generalize idx L a = k at CP hi
    have b1 : decide (0 ≤ k) = true := by simpa using hi
    clear h he e
    go_enter Try.func26, Try.ntmps26
    go_wp2_with (go_at_call 31; refine CP.out.mono ?_; rintro e w2 ⟨rfl, hw⟩; have HW := Lib.hid (drewN_but hw); clear hw)
    go_ret2
    exact ⟨rfl, H.out.stay HW.out⟩
  · have hf : R ≤ L.length := by
      unfold putE at he; rw [if_neg hi] at he
      by_cases hf : R ≤ L.length
      · exact hf
      · rw [if_neg hf] at he; exact absurd rfl he
    have e : putE R L a = 3 := by unfold putE; rw [if_neg hi, if_pos hf]
    rw [e]
    generalize idx L a = k at CP hi
    have b1 : decide (0 ≤ k) = false := by simpa using hi
    obtain ⟨q, sz, F, n, g, h1, h2, h3⟩ := h.ex
    rw [← h2, lst_length] at hf
    have HR := Lib.hid h1
    have hs := h1.pow.le
    have hn := h1.hn
    have hR := h1.hR
    have b2 : decide (R ≤ (n : Int)) = true := by simpa using hf
    clear h he e h1 h2 h3
    go_enter Try.func26, Try.ntmps26
    go_wp2_with (go_at_call 31; refine CP.out.mono ?_; rintro e w2 ⟨rfl, hw⟩; have HW := Lib.hid (drewN_but hw); have HRW := Lib.hid (HR.out.but (drewN_but hw) (fun _ _ f => f)); have c0 : w2.cell? ⟨p, 0, none⟩ = some (.int .i64 R) := HRW.out.hp.cell (o := 0) rfl; have c5 : w2.cell? ⟨p, 5, none⟩ = some (.int .i64 n) := HRW.out.hp.cell (o := 5) rfl; clear hw)
    go_quiet (fail)
    go_wp2
    go_ret2
    exact ⟨rfl, H.out.stay (HW.out.drewN _)⟩
theorem getD_mem {L : List It} {k : Nat} (hk : k < L.length) : L.getD k it0 ∈ L := by
  have : L.getD k it0 = L[k] := by simp [List.getD, List.getElem?_eq_getElem hk]
  rw [this]; exact List.getElem_mem hk
theorem mem_getD {L : List It} {x : It} (h : x ∈ L) : ∃ k, k < L.length ∧ L.getD k it0 = x := by
  obtain ⟨k, hk, e⟩ := List.getElem_of_mem h
  exact ⟨k, hk, by simp [List.getD, List.getElem?_eq_getElem hk, e]⟩
theorem idx_neg {L : List It} {a : Int} (h : ¬ 0 ≤ idx L a) : ∀ y ∈ L, y.id ≠ a := by
  rcases idx_cases L a with ⟨k, hk, _⟩ | ⟨hk, h2⟩
  · omega
  · intro y hy
    obtain ⟨k, hk, e⟩ := mem_getD hy
    have := h2 k hk
    rwa [e] at this
theorem RP.put {w w' : World} {S : Nat → Prop} {p q sz : Nat} {R T : Int} {F n : Nat} {g : Nat → It} {L : List It} {a : Int} (h : RP w S p R T L) (hL : lst F sz n g = L) (hS : ∀ k, S k ↔ Own p q k) (ha : inR a) (hi : ¬ 0 ≤ idx L a) (hn : n < sz)
    (hr : Rg w' p q sz R (T + 1) F (n + 1) (upd g (ps F sz n) ⟨a, T + 1⟩)) : RP w' S p R (T + 1) (L ++ [⟨a, T + 1⟩]) := by
  have hno := idx_neg hi
  have ht := h.t0
  refine ⟨⟨q, sz, F, n + 1, _, hr, by rw [lst_put _ hn, hL], hS⟩, ?_, ?_, ?_, ?_, by omega, h.r0, h.r1⟩
  · rw [List.pairwise_append]
    exact ⟨h.nd, by simp, fun x hx y hy => by rw [List.mem_singleton] at hy; rw [hy]; exact hno x hx⟩
  · rw [List.pairwise_append]
    exact ⟨h.srt, by simp, fun x hx y hy => by rw [List.mem_singleton] at hy; rw [hy]; have := (h.tb x hx).2; show x.tk < T + 1; omega⟩
  · intro x hx
    rcases List.mem_append.1 hx with hx | hx
    · have := h.tb x hx; omega
    · rw [List.mem_singleton] at hx; rw [hx]; show 0 < T + 1 ∧ T + 1 ≤ T + 1; omega
  · intro x hx
    rcases List.mem_append.1 hx with hx | hx
    · exact h.rng x hx
    · rw [List.mem_singleton] at hx; rw [hx]; exact ha
theorem Rg.put {w : World} {p q sz : Nat} {R T : Int} {F n : Nat} {g : Nat → It} (h : Rg w p q sz R T F n g) {x : It} {j n' : Nat} (hn : (n' : Int) ≤ R) :
    Rg (((w.setCell ⟨q, j * 2, none⟩ (.int .i64 x.id)).setCell ⟨q, j * 2 + 1, none⟩ (.int .i64 x.tk)).setCell ⟨p, 5, none⟩ (.int .i64 n')) p q sz R T F n' (upd g j x) :=
  have hb : But (Just q) w ((w.setCell ⟨q, j * 2, none⟩ (.int .i64 x.id)).setCell ⟨q, j * 2 + 1, none⟩ (.int .i64 x.tk)) := (((But.refl _ w).setCell (p := ⟨q, j * 2, none⟩) (just q) _).setCell (p := ⟨q, j * 2 + 1, none⟩) (just q) _)
  have h1 : Rg ((w.setCell ⟨q, j * 2, none⟩ (.int .i64 x.id)).setCell ⟨q, j * 2 + 1, none⟩ (.int .i64 x.tk)) p q sz R T F n (upd g j x) := ⟨h.pq, h.hp.but hb h.pq, h.hq.put x, h.pow, h.hF, h.hn, h.hR⟩
  h1.setN hn
theorem Rg.aside {w : World} {p q sz : Nat} {R T : Int} {F n : Nat} {g : Nat → It} (h : Rg w p q sz R T F n g) (j : Nat) (x y : Value) :
    ((w.setCell ⟨q, j * 2, none⟩ x).setCell ⟨q, j * 2 + 1, none⟩ y).cell? ⟨p, 2, none⟩ = some (.slice (some ⟨q, 0, none⟩) sz sz) ∧ ((w.setCell ⟨q, j * 2, none⟩ x).setCell ⟨q, j * 2 + 1, none⟩ y).cell? ⟨p, 5, none⟩ = some (.int .i64 n) ∧ ((w.setCell ⟨q, j * 2, none⟩ x).setCell ⟨q, j * 2 + 1, none⟩ y).cell? ⟨p, 1, none⟩ = some (.int .i64 T) :=
  have hb : But (Just q) w ((w.setCell ⟨q, j * 2, none⟩ x).setCell ⟨q, j * 2 + 1, none⟩ y) := (((But.refl _ w).setCell (p := ⟨q, j * 2, none⟩) (just q) _).setCell (p := ⟨q, j * 2 + 1, none⟩) (just q) _)
  have h' := h.hp.but hb h.pq
  ⟨h'.cell (o := 2) rfl, h'.cell (o := 5) rfl, h'.cell (o := 1) rfl⟩
theorem Rg.setT {w : World} {p q sz : Nat} {R T : Int} {F n : Nat} {g : Nat → It} (h : Rg w p q sz R T F n g) (T' : Int) :
    Rg (w.setCell ⟨p, 1, none⟩ (.int .i64 T')) p q sz R T' F n g :=
  have hb : But (Just p) w (w.setCell ⟨p, 1, none⟩ (.int .i64 T')) := ((But.refl _ w).setCell (p := ⟨p, 1, none⟩) (just p) _)
  ⟨h.pq, h.hp.set 1 _, h.hq.but hb (fun e => h.pq e.symm), h.pow, h.hF, h.hn, h.hR⟩
set_option maxHeartbeats 2000000 in
set_option maxRecDepth 100000 in
theorem put_ok (p : Nat) (R T : Int) (L : List It) (S : Nat → Prop) (w : World) (a : Int) (h : RP w S p R T L) (ha : inR a) (hT : T < 1000000) (he : putE R L a = 0) :
    Calls Try.prog 26 #[.pointer (some ⟨p, 0, none⟩), .int .i64 a] w fun r w' => r = .returned (.tuple #[.int .i64 (T + 1), .int .i64 0]) ∧ Mv w S p R (T + 1) (L ++ [⟨a, T + 1⟩]) w' := by
  have CP := Lib.hid (place_any p R T L S w a h)
  have H := Lib.hid h
  have hT0 := h.t0
  have hi : ¬ 0 ≤ idx L a := fun hi => by unfold putE at he; rw [if_pos hi] at he; omega
  have hf : ¬ R ≤ L.length := fun hf => by unfold putE at he; rw [if_neg hi, if_pos hf] at he; omega
  obtain ⟨q, sz, F, n, g, h1, h2, h3⟩ := h.ex
  rw [← h2, lst_length] at hf
  have HR := Lib.hid h1
  have hs := h1.pow.le
  have hn := h1.hn
  have hR := h1.hR
  have hns : n < sz := by omega
  have hps := ps_lt h1.hF hns
  have HE : Hid (∀ w', Rg w' p q sz R (T + 1) F (n + 1) (upd g (ps F sz n) ⟨a, T + 1⟩) → But S w w' → Mv w S p R (T + 1) (L ++ [⟨a, T + 1⟩]) w') := fun w' r b => ⟨RP.put H.out h2 h3 ha hi hns r, b⟩
  have HS : Hid (S p ∧ S q) := ⟨(h3 p).2 (.inl rfl), (h3 q).2 (.inr rfl)⟩
  have CQ : Hid (∀ w', Rg w' p q sz R (T + 1) F n g → Calls Try.prog 32 #[.pointer (some ⟨p, 0, none⟩), .int .i64 n] w' fun r w'' => r = .returned (.int .i64 (ps F sz n)) ∧ But No w' w'') := fun w' h' =>
    (position_any p F sz n w' (h'.hp.cell (o := 3) rfl) (h'.hp.cell (o := 4) rfl) h'.pow h'.hF (by omega)).mono fun _ _ ⟨a, b⟩ => ⟨a, drewN_but b⟩
  obtain ⟨n1, hn1⟩ : ∃ n1, n1 = n + 1 := ⟨_, rfl⟩
  have hn1' : (n : Int) + 1 = (n1 : Int) := by omega
  have hn1R : Hid ((n1 : Int) ≤ R) := by show _ ≤ _; omega
  rw [← hn1] at HE
  generalize idx L a = k at CP hi
  have b1 : decide (0 ≤ k) = false := by simpa using hi
  have b2 : decide (R ≤ (n : Int)) = false := by simpa using hf
  generalize ps F sz n = j at hps HE CQ
  have hj : (j : Int) < (sz : Int) := by omega
  clear h he h1 h2 h3 ha hi hn1
  go_enter Try.func26, Try.ntmps26
  go_wp2_with (go_at_call 31; refine CP.out.mono ?_; rintro e w2 ⟨rfl, hw⟩; have HW := Lib.hid (drewN_but hw); have HRW := Lib.hid (HR.out.but (drewN_but hw) (fun _ _ f => f)); have c0 : w2.cell? ⟨p, 0, none⟩ = some (.int .i64 R) := HRW.out.hp.cell (o := 0) rfl; have c5 : w2.cell? ⟨p, 5, none⟩ = some (.int .i64 n) := HRW.out.hp.cell (o := 5) rfl; have c1 : w2.cell? ⟨p, 1, none⟩ = some (.int .i64 T) := HRW.out.hp.cell (o := 1) rfl; have f1 := HRW.out.hp.frozen 1; clear hw)
  go_quiet (fail)
  go_wp2_with fail
  generalize hw3 : World.setCell _ _ _ = w3
  have H3 : Hid (Rg w3.drew p q sz R (T + 1) F n g) := by rw [← hw3]; exact ((HRW.out.but (S := No) ((But.refl No w2).drewN _) (fun _ _ f => f)).setT (T + 1)).but (S := No) (But.refl No _).drew (fun _ _ f => f)
  have HB3 : Hid (But S w w3.drew) := by rw [← hw3]; exact ((HW.out.no.drewN _).setCell (p := ⟨p, 1, none⟩) HS.out.1 _).drew
  clear hw3 c0 c5 c1 f1 HRW HW
  go_region_held3 (fun w' => w'.cell? ⟨p, 2, none⟩ = some (.slice (some ⟨q, 0, none⟩) sz sz) ∧ w'.cell? ⟨p, 5, none⟩ = some (.int .i64 n) ∧ w'.cell? ⟨p, 1, none⟩ = some (.int .i64 (T + 1)))
    (first | exact ⟨(H3.out).hp.cell (o := 2) rfl, (H3.out).hp.cell (o := 5) rfl, (H3.out).hp.cell (o := 1) rfl⟩ | exact ⟨H4.out.hp.cell (o := 2) rfl, H4.out.hp.cell (o := 5) rfl, H4.out.hp.cell (o := 1) rfl⟩ | exact H4.out.aside j _ _)
    (first | (go_at_call 32; ((with_reducible refine (CQ.out _ H3.out).mono ?_); rintro e w4 ⟨rfl, hb4⟩; have H4 := Lib.hid (H3.out.but hb4 (fun _ _ f => f)); have HB4 := Lib.hid (HB3.out.trans hb4.no); obtain ⟨d0, d1⟩ := H4.out.hq.cells hps; have f0 := H4.out.hq.frozen (j * 2); have f1 := H4.out.hq.frozen (j * 2 + 1); clear hb4)))
  rename_i hHeld
  obtain ⟨_, c5, c1⟩ := hHeld
  have H5 : Hid (Rg (((w4.setCell ⟨q, j * 2, none⟩ (.int .i64 a)).setCell ⟨q, j * 2 + 1, none⟩ (.int .i64 (T + 1))).setCell ⟨p, 5, none⟩ (.int .i64 n1)) p q sz R (T + 1) F n1 (upd g j ⟨a, T + 1⟩)) := H4.out.put (x := ⟨a, T + 1⟩) hn1R.out
  have HB5 : Hid (But S w (((w4.setCell ⟨q, j * 2, none⟩ (.int .i64 a)).setCell ⟨q, j * 2 + 1, none⟩ (.int .i64 (T + 1))).setCell ⟨p, 5, none⟩ (.int .i64 n1))) := ((HB4.out.setCell (p := ⟨q, j * 2, none⟩) HS.out.2 _).setCell (p := ⟨q, j * 2 + 1, none⟩) HS.out.2 _).setCell (p := ⟨p, 5, none⟩) HS.out.1 _
  have F5 := H4.out.hp.frozen 5
  have hf5 : ((w4.setCell ⟨q, j * 2, none⟩ (.int .i64 a)).setCell ⟨q, j * 2 + 1, none⟩ (.int .i64 (T + 1))).frozen? ⟨p, 5, none⟩ = false := by simp [F5]
  clear F5
  generalize (w4.setCell ⟨q, j * 2, none⟩ (.int .i64 a)).setCell ⟨q, j * 2 + 1, none⟩ (.int .i64 (T + 1)) = w5 at c5 c1 H5 HB5 hf5 ⊢
  clear d0 d1 f0 f1 H3 HB3 H4 HB4
  go_wp2
  go_ret2
  exact ⟨rfl, HE.out _ H5.out HB5.out⟩
theorem put_any (p : Nat) (R T : Int) (L : List It) (S : Nat → Prop) (w : World) (a : Int) (h : RP w S p R T L) (ha : inR a) (hT : T < 1000000) :
    Calls Try.prog 26 #[.pointer (some ⟨p, 0, none⟩), .int .i64 a] w fun r w' => r = .returned (.tuple #[.int .i64 (putK R T L a), .int .i64 (putE R L a)]) ∧ Mv w S p R (putT R T L a) (putL R T L a) w' := by
  unfold putK putT putL
  by_cases he : putE R L a = 0
  · rw [he]; exact put_ok p R T L S w a h ha hT he
  · rw [if_neg he, if_neg he, if_neg he]; exact put_fail p R T L S w a h he
end Go.Proofs.Ytimkdcpghhkloaa.rin
