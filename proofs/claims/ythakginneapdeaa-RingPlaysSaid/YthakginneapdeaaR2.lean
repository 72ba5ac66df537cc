/- The document's own ring: Put, Drop, Take. -/
import Derived.Test.YthakginneapdeaaR
namespace Go.Proofs.Ythakginneapdeaa
open Go.ChangeShapes Go.WideShapes Go.ChangeAt Go.RowKit Go.Deep
theorem RX.setT {w : World} {x : Nat} {R T : Int} {v1 v2 : Value} {is ts : List Int} (h : RX w x R T v1 v2 is ts) (T' : Int) : RX (w.setCell ⟨x, 3, none⟩ (.int .i64 T')) x R T' v1 v2 is ts :=
  have hb : But (Just x) w (w.setCell ⟨x, 3, none⟩ (.int .i64 T')) := (But.refl _ w).setCell (p := ⟨x, 3, none⟩) (just x) _
  ⟨h.hx.set 3 _, h.o1.but hb (fun k e e' => h.n1 (e' ▸ e)), h.o2.but hb (fun k e e' => h.n2 (e' ▸ e)), h.n1, h.n2, h.d⟩
theorem RX.app1 {w w3 : World} {x : Nat} {R T a : Int} {v1 v2 v3 : Value} {is ts : List Int} {n : Nat} (h : RX w x R T v1 v2 is ts) (hn : is.length = n)
    (ho : w3.ownsRow 0 3 1 v3 (n + 1) (is.map (Value.int .i64) ++ [.int .i64 a])) (hg : (w.alloc (.cells #[.int .i64 a] 3)).grownBy w3 v1.ownBlock) (hat : v3.ownBlock = v1.ownBlock ∨ v3.ownBlock = some (w.heap.size + 1)) :
    RX (w3.setCell ⟨x, 1, none⟩ v3) x R T v3 v2 (is ++ [a]) ts ∧ But (OwnX x v1 v2) w (w3.setCell ⟨x, 1, none⟩ v3) ∧ (∀ k, OwnX x v3 v2 k → OwnX x v1 v2 k ∨ w.heap.size ≤ k) ∧ Blk w3 x #[.int .i64 R, v1, v2, .int .i64 T] 44 := by
  have hb3 : But (fun k => v1.ownBlock = some k) w w3 := ((But.refl _ w).alloc _).grown hg (fun k e => .inl e)
  have hx3 := h.hx.but hb3 h.n1
  have hbx : But (Just x) w3 (w3.setCell ⟨x, 1, none⟩ v3) := (But.refl _ w3).setCell (p := ⟨x, 1, none⟩) (just x) _
  have hxl := h.hx.lt
  have hv3 : ∀ k, v3.ownBlock = some k → v1.ownBlock = some k ∨ k = w.heap.size + 1 := fun k e => by
    rcases hat with h | h
    · exact .inl (h ▸ e)
    · rw [h] at e; exact .inr (by simpa using e.symm)
  have n3 : v3.ownBlock ≠ some x := fun e => (hv3 x e).elim h.n1 (fun e => by omega)
  refine ⟨⟨hx3.set 1 _, ?_, (h.o2.but hb3 (fun k e e' => h.d k e' e)).but hbx (fun k e e' => h.n2 (e' ▸ e)), n3, h.n2, fun k e e2 => ?_⟩, ?_, ?_, hx3⟩
  · have : Ov w3 v3 (is ++ [a]) := by unfold Ov; rw [List.length_append, List.map_append, hn]; exact ho
    exact this.but hbx (fun k e e' => n3 (e' ▸ e))
  · rcases hv3 k e with h1 | h1
    · exact h.d k h1 e2
    · have := (World.ownsRow.lt h.o2 k e2).2; omega
  · exact (hb3.mono (fun k _ e => .inr (.inl e))).setCell (p := ⟨x, 1, none⟩) (.inl rfl) _
  · rintro k (e | e | e)
    · exact .inl (.inl e)
    · exact (hv3 k e).elim (fun h => .inl (.inr (.inl h))) (fun h => .inr (by omega))
    · exact .inl (.inr (.inr e))
theorem RX.app2 {w w3 : World} {x : Nat} {R T a : Int} {v1 v2 v3 : Value} {is ts : List Int} {n : Nat} (h : RX w x R T v1 v2 is ts) (hn : ts.length = n)
    (ho : w3.ownsRow 0 3 1 v3 (n + 1) (ts.map (Value.int .i64) ++ [.int .i64 a])) (hg : (w.alloc (.cells #[.int .i64 a] 3)).grownBy w3 v2.ownBlock) (hat : v3.ownBlock = v2.ownBlock ∨ v3.ownBlock = some (w.heap.size + 1)) :
    RX (w3.setCell ⟨x, 2, none⟩ v3) x R T v1 v3 is (ts ++ [a]) ∧ But (OwnX x v1 v2) w (w3.setCell ⟨x, 2, none⟩ v3) ∧ (∀ k, OwnX x v1 v3 k → OwnX x v1 v2 k ∨ w.heap.size ≤ k) ∧ Blk w3 x #[.int .i64 R, v1, v2, .int .i64 T] 44 := by
  have hb3 : But (fun k => v2.ownBlock = some k) w w3 := ((But.refl _ w).alloc _).grown hg (fun k e => .inl e)
  have hx3 := h.hx.but hb3 h.n2
  have hbx : But (Just x) w3 (w3.setCell ⟨x, 2, none⟩ v3) := (But.refl _ w3).setCell (p := ⟨x, 2, none⟩) (just x) _
  have hxl := h.hx.lt
  have hv3 : ∀ k, v3.ownBlock = some k → v2.ownBlock = some k ∨ k = w.heap.size + 1 := fun k e => by
    rcases hat with h | h
    · exact .inl (h ▸ e)
    · rw [h] at e; exact .inr (by simpa using e.symm)
  have n3 : v3.ownBlock ≠ some x := fun e => (hv3 x e).elim h.n2 (fun e => by omega)
  refine ⟨⟨hx3.set 2 _, (h.o1.but hb3 (fun k e e' => h.d k e e')).but hbx (fun k e e' => h.n1 (e' ▸ e)), ?_, h.n1, n3, fun k e e2 => ?_⟩, ?_, ?_, hx3⟩
  · have : Ov w3 v3 (ts ++ [a]) := by unfold Ov; rw [List.length_append, List.map_append, hn]; exact ho
    exact this.but hbx (fun k e e' => n3 (e' ▸ e))
  · rcases hv3 k e2 with h1 | h1
    · exact h.d k e h1
    · have := (World.ownsRow.lt h.o1 k e).2; omega
  · exact (hb3.mono (fun k _ e => .inr (.inr e))).setCell (p := ⟨x, 2, none⟩) (.inl rfl) _
  · rintro k (e | e | e)
    · exact .inl (.inl e)
    · exact .inl (.inr (.inl e))
    · exact (hv3 k e).elim (fun h => .inl (.inr (.inr h))) (fun h => .inr (by omega))
theorem rput_fail (x : Nat) (R T : Int) (L : List It) (S : Nat → Prop) (w : World) (a : Int) (h : RF w S x R T L) (he : putE R L a ≠ 0) :
    Calls Try.prog 12 #[.pointer (some ⟨x, 0, none⟩), .int .i64 a] w fun r w' => r = .returned (.tuple #[.int .i64 0, .int .i64 (putE R L a)]) ∧ Rm w S x R T L w' := by
  have hl := h.len
  have CP := Lib.hid (rplace_any x R T L S w a h)
  have H := Lib.hid h
  by_cases hi : 0 ≤ idx L a
  · have e : putE R L a = 4 := by unfold putE; rw [if_pos hi]
    rw [e]
    generalize idx L a = k at CP hi
    have b1 : decide (0 ≤ k) = true := by simpa using hi
    clear h he e
    go_enter Try.func12, Try.ntmps12
    go_wp2_with (go_at_call 22; refine CP.out.mono ?_; rintro e w2 ⟨rfl, rfl⟩)
    go_ret2
    exact ⟨rfl, H.out.stay (But.refl _ _)⟩
  · have hf : R ≤ L.length := by
      unfold putE at he; rw [if_neg hi] at he
      by_cases hf : R ≤ L.length
      · exact hf
      · rw [if_neg hf] at he; exact absurd rfl he
    have e : putE R L a = 3 := by unfold putE; rw [if_neg hi, if_pos hf]
    rw [e]
    generalize idx L a = k at CP hi
    have b1 : decide (0 ≤ k) = false := by simpa using hi
    obtain ⟨v1, v2, h1, h2⟩ := h.ex
    obtain ⟨A1, c1, A2, c2, rfl, rfl, l1, l2⟩ := h1.head
    have d0 : w.cell? ⟨x, 0, none⟩ = some (.int .i64 R) := h1.hx.cell (o := 0) rfl
    have d1 : w.cell? ⟨x, 1, none⟩ = some (.slice A1 L.length c1) := by have := h1.hx.cell (o := 1) rfl; rwa [List.length_map] at this
    generalize L.length = n at hl hf d1
    have b2 : decide (R ≤ (n : Int)) = true := by simpa using hf
    clear h he e h1 h2 l1 l2
    go_enter Try.func12, Try.ntmps12
    go_wp2_with (go_at_call 22; refine CP.out.mono ?_; rintro e w2 ⟨rfl, rfl⟩)
    go_quiet (fail)
    go_wp2
    go_ret2
    exact ⟨rfl, H.out.stay ((But.refl No _).drewN _)⟩
theorem one_reads (w : World) (a : Int) : Reads (w.alloc (.cells #[.int .i64 a] 3)) (w.heap.size + 1) 1 (some ⟨w.heap.size, 0, none⟩) 1 [.int .i64 a] :=
  ⟨rfl, fun _ => ⟨_, rfl, Nat.lt_succ_self _, one_news w a⟩⟩
theorem one_cell (a : Int) : ∀ u ∈ [Value.int .i64 a], u.oneCell' = true := by simp [Value.oneCell']
theorem size_alloc1 (w : World) (o : Obj) : (w.alloc o).heap.size = w.heap.size + 1 := by simp
set_option maxHeartbeats 4000000 in
set_option maxRecDepth 100000 in
theorem rput_ok (x : Nat) (R T : Int) (L : List It) (S : Nat → Prop) (w : World) (a : Int) (h : RF w S x R T L) (hR : R ≤ 256) (hT0 : 0 ≤ T) (hT : T < 1000000) (he : putE R L a = 0) :
    Calls Try.prog 12 #[.pointer (some ⟨x, 0, none⟩), .int .i64 a] w fun r w' => r = .returned (.tuple #[.int .i64 (T + 1), .int .i64 0]) ∧ Rm w S x R (T + 1) (L ++ [⟨a, T + 1⟩]) w' := by
  have hl := h.len
  have CP := Lib.hid (rplace_any x R T L S w a h)
  have hi : ¬ 0 ≤ idx L a := fun hi => by unfold putE at he; rw [if_pos hi] at he; omega
  have hf : ¬ R ≤ L.length := fun hf => by unfold putE at he; rw [if_neg hi, if_pos hf] at he; omega
  obtain ⟨v1, v2, h1, h2⟩ := h.ex
  obtain ⟨A1, c1, A2, c2, rfl, rfl, l1, l2⟩ := h1.head
  rw [List.length_map] at h1 h2 l1 l2
  rw [List.length_map] at h1 h2
  obtain ⟨n, hn⟩ : ∃ n, n = L.length := ⟨_, rfl⟩
  have HN := Lib.hid hn
  rw [← hn] at h1 h2 hl hf l1 l2
  have HX := Lib.hid h1
  have HS := Lib.hid h2
  have d0 : w.cell? ⟨x, 0, none⟩ = some (.int .i64 R) := h1.hx.cell (o := 0) rfl
  have d1 : w.cell? ⟨x, 1, none⟩ = some (.slice A1 n c1) := h1.hx.cell (o := 1) rfl
  have d3 : w.cell? ⟨x, 3, none⟩ = some (.int .i64 T) := h1.hx.cell (o := 3) rfl
  have f3 := h1.hx.frozen 3
  generalize idx L a = k at CP hi
  have b1 : decide (0 ≤ k) = false := by simpa using hi
  have b2 : decide (R ≤ (n : Int)) = false := by simpa using hf
  obtain ⟨i0, hi0, hz0, hz1, hz2⟩ := info_parts info3
  have I0 : Hid (Try.prog.info? 3 = some i0 ∧ i0.zero = some (.int .i64 0) ∧ i0.size = 1 ∧ i0.bytes = 8) := ⟨hi0, hz0, hz1, hz2⟩
  have hn1 : n < 256 := by omega
  clear h he h1 h2 hi hn hi0 hz0 hz1 hz2
  go_enter Try.func12, Try.ntmps12
  go_wp2_with (go_at_call 22; refine CP.out.mono ?_; rintro e w2 ⟨rfl, rfl⟩)
  go_quiet (fail)
  have HL : Hid ((L.map It.id).length = n ∧ (L.map It.tk).length = n) := by rw [List.length_map, List.length_map]; exact ⟨HN.out.symm, HN.out.symm⟩
  have HXq : Hid (RX ((w2.drewN nq).setCell ⟨x, 3, none⟩ (.int .i64 (T + 1))) x R (T + 1) (.slice A1 n c1) (.slice A2 n c2) (L.map It.id) (L.map It.tk)) := (HX.out.but (S := No) ((But.refl No w2).drewN nq) (fun _ _ f => f)).setT (T + 1)
  have HBq : Hid (But S w2 ((w2.drewN nq).setCell ⟨x, 3, none⟩ (.int .i64 (T + 1)))) := ((But.refl S w2).drewN nq).setCell (p := ⟨x, 3, none⟩) ((HS.out x).2 (.inl rfl)) _
  have HSZ : Hid (((w2.drewN nq).setCell ⟨x, 3, none⟩ (.int .i64 (T + 1))).heap.size = w2.heap.size) := by show _ = _; simp [World.setCell]
  have O1 : Hid ((((w2.drewN nq).setCell ⟨x, 3, none⟩ (.int .i64 (T + 1))).alloc (.cells #[.int .i64 a] 3)).ownsRow 0 3 1 (.slice A1 n c1) n ((L.map It.id).map (Value.int .i64))) := by
    have := owns_but (S := No) HXq.out.o1 ((But.refl No _).alloc (.cells #[.int .i64 a] 3)) (fun _ _ f => f)
    rw [HL.out.1] at this; exact this
  have R1 : Hid (Reads (((w2.drewN nq).setCell ⟨x, 3, none⟩ (.int .i64 (T + 1))).alloc (.cells #[.int .i64 a] 3)) (w2.heap.size + 1) 1 (some ⟨w2.heap.size, 0, none⟩) 1 [.int .i64 a]) := by
    have := one_reads ((w2.drewN nq).setCell ⟨x, 3, none⟩ (.int .i64 (T + 1))) a
    rw [HSZ.out] at this; exact this
  have HAP : Hid (∀ A3 c3 w3, w3.ownsRow 0 3 1 (.slice A3 (n + 1) c3) (n + 1) ((L.map It.id).map (Value.int .i64) ++ [.int .i64 a]) → (((w2.drewN nq).setCell ⟨x, 3, none⟩ (.int .i64 (T + 1))).alloc (.cells #[.int .i64 a] 3)).grownBy w3 (Value.slice A1 n c1).ownBlock → ((Value.slice A3 (n + 1) c3).ownBlock = (Value.slice A1 n c1).ownBlock ∨ (Value.slice A3 (n + 1) c3).ownBlock = some (((w2.drewN nq).setCell ⟨x, 3, none⟩ (.int .i64 (T + 1))).alloc (.cells #[.int .i64 a] 3)).heap.size) → ∃ S' : Nat → Prop, RX (w3.setCell ⟨x, 1, none⟩ (.slice A3 (n + 1) c3)) x R (T + 1) (.slice A3 (n + 1) c3) (.slice A2 n c2) (L.map It.id ++ [a]) (L.map It.tk) ∧ (∀ k, S' k ↔ OwnX x (.slice A3 (n + 1) c3) (.slice A2 n c2) k) ∧ But S w2 (w3.setCell ⟨x, 1, none⟩ (.slice A3 (n + 1) c3)) ∧ (∀ k, S' k → S k ∨ w2.heap.size ≤ k) ∧ w3.cell? ⟨x, 1, none⟩ = some (.slice A1 n c1) ∧ w3.frozen? ⟨x, 1, none⟩ = false) := by
    intro A3 c3 w3 ho hg hat
    rw [size_alloc1] at hat
    obtain ⟨q1, q2, q3, q4⟩ := RX.app1 HXq.out HL.out.1 ho hg hat
    refine ⟨_, q1, fun _ => Iff.rfl, HBq.out.trans (q2.mono (fun k _ hk => (HS.out k).2 hk)), fun k hk => ?_, q4.cell (o := 1) rfl, q4.frozen 1⟩
    rcases q3 k hk with h | h
    · exact .inl ((HS.out k).2 h)
    · rw [HSZ.out] at h; exact .inr h
  go_wp2_with (at_builtin; refine wpList_append_sh _ rfl _ _ 40 rfl 3 i0 _ 1 8 Try.underlying40 I0.out.1 I0.out.2.1 I0.out.2.2.1 I0.out.2.2.2 rfl (by omega) (.slice A1 n c1) n _ rfl O1.out (w2.heap.size + 1) (some ⟨w2.heap.size, 0, none⟩) 1 1 [.int .i64 a] rfl R1.out (one_cell a) (by unfold maxLen; omega) (by omega) ?_; intro A3 c3 w3 hown hgrow hat; obtain ⟨S3, hx3, hs3, hb3, hn3, hc3, hf3⟩ := HAP.out A3 c3 w3 hown hgrow hat; have HX3 := Lib.hid hx3; have HS3 := Lib.hid hs3; have HB3 := Lib.hid hb3; have HN3 := Lib.hid hn3; clear hown hgrow hat hx3 hs3 hb3 hn3)
  generalize hw4 : w3.setCell ⟨x, 1, none⟩ (.slice A3 (n + 1) c3) = w4 at HX3 HB3 ⊢
  clear hw4 hc3 hf3 HXq HBq HSZ O1 R1 HAP HX d0 d1 d3 f3
  have g2 : w4.cell? ⟨x, 2, none⟩ = some (.slice A2 n c2) := HX3.out.hx.cell (o := 2) rfl
  have g3 : w4.cell? ⟨x, 3, none⟩ = some (.int .i64 (T + 1)) := HX3.out.hx.cell (o := 3) rfl
  have HXd : Hid (RX w4.drew x R (T + 1) (.slice A3 (n + 1) c3) (.slice A2 n c2) (L.map It.id ++ [a]) (L.map It.tk)) := HX3.out.but (S := No) (But.refl No w4).drew (fun _ _ f => f)
  have O2 : Hid ((w4.drew.alloc (.cells #[.int .i64 (T + 1)] 3)).ownsRow 0 3 1 (.slice A2 n c2) n ((L.map It.tk).map (Value.int .i64))) := by
    have := owns_but (S := No) HXd.out.o2 ((But.refl No _).alloc (.cells #[.int .i64 (T + 1)] 3)) (fun _ _ f => f)
    rw [HL.out.2] at this; exact this
  have R2 : Hid (Reads (w4.drew.alloc (.cells #[.int .i64 (T + 1)] 3)) (w4.heap.size + 1) 1 (some ⟨w4.heap.size, 0, none⟩) 1 [.int .i64 (T + 1)]) := one_reads w4.drew (T + 1)
  have HAP : Hid (∀ A5 c5 w5, w5.ownsRow 0 3 1 (.slice A5 (n + 1) c5) (n + 1) ((L.map It.tk).map (Value.int .i64) ++ [.int .i64 (T + 1)]) → (w4.drew.alloc (.cells #[.int .i64 (T + 1)] 3)).grownBy w5 (Value.slice A2 n c2).ownBlock → ((Value.slice A5 (n + 1) c5).ownBlock = (Value.slice A2 n c2).ownBlock ∨ (Value.slice A5 (n + 1) c5).ownBlock = some (w4.drew.alloc (.cells #[.int .i64 (T + 1)] 3)).heap.size) → Rm w2 S x R (T + 1) (L ++ [⟨a, T + 1⟩]) (w5.setCell ⟨x, 2, none⟩ (.slice A5 (n + 1) c5)) ∧ w5.cell? ⟨x, 2, none⟩ = some (.slice A2 n c2) ∧ w5.frozen? ⟨x, 2, none⟩ = false ∧ w5.cell? ⟨x, 3, none⟩ = some (.int .i64 (T + 1))) := by
    intro A5 c5 w5 ho hg hat
    rw [size_alloc1] at hat
    obtain ⟨q1, q2, q3, q4⟩ := RX.app2 HXd.out HL.out.2 ho hg hat
    refine ⟨⟨OwnX x (.slice A3 (n + 1) c3) (.slice A5 (n + 1) c5), ⟨⟨_, _, ?_, fun _ => Iff.rfl⟩, ?_⟩, ?_, fun k hk => ?_⟩, q4.cell (o := 2) rfl, q4.frozen 2, q4.cell (o := 3) rfl⟩
    · rw [List.map_append, List.map_append]; exact q1
    · rw [List.length_append, ← HN.out]; show n + 1 ≤ 256; omega
    · refine HB3.out.drew.andThen q2 (fun k hk => HN3.out k ((HS3.out k).2 hk))
    · rcases q3 k hk with h | h
      · exact HN3.out k ((HS3.out k).2 h)
      · have hsz : w2.heap.size ≤ w4.heap.size := HB3.out.size
        have : w4.drew.heap.size = w4.heap.size := rfl
        exact .inr (by omega)
  have g2' : (w4.drew.alloc (.cells #[.int .i64 (T + 1)] 3)).cell? ⟨x, 2, none⟩ = some (.slice A2 n c2) := (HXd.out.hx.alloc _).cell (o := 2) rfl
  have hxl : x < w4.heap.size := HX3.out.hx.lt
  go_region_law (refine step_append_sh rfl _ _ 40 rfl 3 i0 _ 1 8 Try.underlying40 I0.out.1 I0.out.2.1 I0.out.2.2.1 I0.out.2.2.2 rfl (by omega) (.slice A2 n c2) n _ (by simp [Act.eval, Act.put]) O2.out (w4.heap.size + 1) (some ⟨w4.heap.size, 0, none⟩) 1 1 [.int .i64 (T + 1)] (by simp [Act.eval, Act.put]) R2.out (one_cell _) (by unfold maxLen; omega) (by omega) ?_; intro A5 c5 w5 hown hgrow hat; obtain ⟨hrm, hc5, hf5, hc53⟩ := HAP.out A5 c5 w5 hown.out hgrow.out hat.out; have HRM := Lib.hid hrm; clear hown hgrow hat hrm)
  all_goals
    have hc6 : (w5.setCell ⟨x, 2, none⟩ (.slice A5 (n + 1) c5)).cell? ⟨x, 3, none⟩ = some (.int .i64 (T + 1)) := by rw [World.cell?_setCell_other _ _ _ _ (by simp)]; exact hc53
    generalize w5.setCell ⟨x, 2, none⟩ (.slice A5 (n + 1) c5) = w6 at HRM hc6 ⊢
    clear hc5 hf5 hc53 g2 g3 g2' hxl
    go_wp2
    go_ret2
    exact ⟨rfl, HRM.out⟩
theorem rput_any (x : Nat) (R T : Int) (L : List It) (S : Nat → Prop) (w : World) (a : Int) (h : RF w S x R T L) (hR : R ≤ 256) (hT0 : 0 ≤ T) (hT : T < 1000000) :
    Calls Try.prog 12 #[.pointer (some ⟨x, 0, none⟩), .int .i64 a] w fun r w' => r = .returned (.tuple #[.int .i64 (putK R T L a), .int .i64 (putE R L a)]) ∧ Rm w S x R (putT R T L a) (putL R T L a) w' := by
  unfold putK putT putL
  by_cases he : putE R L a = 0
  · rw [he]; exact rput_ok x R T L S w a h hR hT0 hT he
  · rw [if_neg he, if_neg he, if_neg he]; exact rput_fail x R T L S w a h he
end Go.Proofs.Ythakginneapdeaa
