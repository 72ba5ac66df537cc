/- With one level more there is one more, or as many, if it was taken already; the first one is no greater: BitsCounts returns true. (The walk.) -/
import Derived.Test.YtgocjgipigjhbaaK
import Derived.Deep.RegionWith
namespace Go.Proofs.Ytgocjgipigjhbaa.bitsCounts
open Go.ChangeShapes Go.WideShapes Go.ChangeAt Go.RowKit
attribute [local go_sem] eq_in23
set_option maxHeartbeats 4000000 in
set_option maxRecDepth 100000 in
theorem walk_no (s : Q) (i : Int) (hi : i < 0 ∨ 256 ≤ i) (w : World) : Calls Try.prog 8 #[sv s, .int .i64 i] w fun e w' => e = .returned (.bool true) ∧ But No w w' := by
  have CE : Hid (∀ w, Calls Try.prog 10 #[] w fun e w' => e = .returned (.bool true) ∧ But No w w') := examples_any
  have CW : Hid (∀ w, Calls Try.prog 18 #[sv s, .int .i64 i] w fun e w' => e = .returned (sv s) ∧ But No w w') := fun w => with_no s i w hi
  have he := eq4_self s.a s.b s.c s.d
  by_cases h0 : i < 0
  all_goals
    first
    | (have h0' : decide (i < 0) = true := by simpa using h0)
    | (have h0' : decide (i < 0) = false := by simpa using h0
       have h1 : 255 < i := by omega
       have h1' : decide (255 < i) = true := by simpa using h1)
    clear hi
    go_enter Try.func8, Try.ntmps8
    go_wp2_with (first
      | (go_at_call 10; (with_reducible refine (CE.out _).mono ?_); rintro e w1 ⟨rfl, hb1⟩; have HB1 := Lib.hid (((But.refl No w).alloc _).trans hb1); have HA1 := Lib.hid ((Blk.new w (cells4 s) 23).but hb1 (fun f => f)); clear hb1; have a0 := HA1.out.cell (o := 0) rfl; have a1 := HA1.out.cell (o := 1) rfl; have a2 := HA1.out.cell (o := 2) rfl; have a3 := HA1.out.cell (o := 3) rfl)
      | (go_at_call 18; (with_reducible refine (CW.out _).mono ?_); rintro e w2 ⟨rfl, hb2⟩; have HB2 := Lib.hid ((HB1.out.alloc _).trans hb2); have HS2 := Lib.hid ((Blk.new w1 (cells4 s) 26).but hb2 (fun f => f)); clear hb2; have b0 := HS2.out.cell (o := 0) rfl; have b1 := HS2.out.cell (o := 1) rfl; have b2 := HS2.out.cell (o := 2) rfl; have b3 := HS2.out.cell (o := 3) rfl; have hl2 := HS2.out.lt))
    go_ret
    exact ⟨rfl, HB2.out.alloc _⟩
/-- What one level more makes. -/
theorem counts {s : Q} {n : Nat} (hn : n < 256) : (s.without n).count + 1 = (s.with_ n).count ∧ (s.has n = true → (s.with_ n).count = s.count) ∧ (s.has n = false → (s.without n).count = s.count) := by
  refine ⟨?_, fun h => cnt_congr (fun j hj => ?_), fun h => cnt_congr (fun j hj => ?_)⟩
  · have hL : (s.with_ n).has n = true := by rw [Q.has_with s hn hn]; simp
    unfold Q.count
    rw [← cnt_out hL hn]
    have : cnt (s.without n).has 256 = cnt (fun j => (s.with_ n).has j && !decide (j = n)) 256 := cnt_congr (fun j hj => by
      rw [Q.has_without s hn hj, Q.has_with s hn hj]
      by_cases e : j = n <;> simp [e])
    rw [this]
  · rw [Q.has_with s hn hj]
    by_cases e : j = n
    · subst e; simp [h]
    · simp [e]
  · rw [Q.has_without s hn hj]
    by_cases e : j = n
    · subst e; simp [h]
    · simp [e]
theorem firsts {s : Q} {n : Nat} (hn : n < 256) : (s.with_ n).first ≤ n ∧ 0 ≤ (s.with_ n).first ∧ (s.first = -1 ∨ (s.with_ n).first ≤ s.first) := by
  have hL : (s.with_ n).has n = true := by rw [Q.has_with s hn hn]; simp
  unfold Q.first
  rcases scan_is (s.with_ n).has 256 0 with ⟨h1, h2⟩ | ⟨L, h1, h2, h3, h4, h5⟩
  · have := h2 n (by omega) (by omega); rw [hL] at this; cases this
  · rw [h1]
    have hle : ∀ j : Nat, (s.with_ n).has j = true → L ≤ j := fun j hj => by
      rcases Nat.lt_or_ge j L with c | c
      · have := h5 j (by omega) c; rw [hj] at this; cases this
      · exact c
    refine ⟨by have := hle n hL; omega, by omega, ?_⟩
    rcases scan_is s.has 256 0 with ⟨g1, _⟩ | ⟨M, g1, g2, g3, g4, _⟩
    · exact .inl g1
    · right
      rw [g1]
      have := hle M (by rw [Q.has_with s hn (by omega), g4]; rfl)
      omega
/-- The walk at a level: c is what Count tells, m what it tells of the greater set, l of the lesser one. -/
structure At (s : Q) (n c : Nat) (x y : Q) (h : Bool) (fs fx : Int) : Prop where
  ok : s.ok
  has : s.has n = h
  xe : s.with_ n = x
  ye : s.without n = y
  c : s.count = c
  fs : s.first = fs
  fx : x.first = fx
set_option maxHeartbeats 8000000 in
set_option maxRecDepth 100000 in
theorem at_h (s : Q) (n c : Nat) (x y : Q) (fs fx : Int) (hn : n < 256) (a : At s n c x y true fs fx) (hff : fs ≠ -1) (w : World) : Calls Try.prog 8 #[sv s, .int .i64 n] w fun e w' => e = .returned (.bool true) ∧ But No w w' := by
  have hs := a.ok
  have hx : x.ok := by rw [← a.xe]; exact Q.with_ok hs n
  have hy : y.ok := by rw [← a.ye]; exact Q.without_ok hs n
  have hxh : x.has n = true := by rw [← a.xe, Q.has_with s hn hn]; simp
  obtain ⟨k1, k2, k3⟩ := counts (s := s) hn
  obtain ⟨f1, f2, f3⟩ := firsts (s := s) hn
  rw [a.xe, a.ye] at k1
  rw [a.xe, a.c] at k2
  rw [a.ye, a.c] at k3
  rw [a.xe, a.fx] at f1 f2 f3
  rw [a.fs] at f3
  have hc := s.count_le
  rw [a.c] at hc
  have hcx : (x.count : Int) = (c : Int) := by have := k2 a.has; omega
  have hcy : (y.count : Int) = ((c : Int) - 1) := by have := k2 a.has; omega
  have hc1 : 1 ≤ c := by have := k2 a.has; omega
  have CE : Hid (∀ w, Calls Try.prog 10 #[] w fun e w' => e = .returned (.bool true) ∧ But No w w') := examples_any
  have CW : Hid (∀ w, Calls Try.prog 18 #[sv s, .int .i64 n] w fun e w' => e = .returned (sv x) ∧ But No w w') := fun w => by have := with_yes s n w hs hn; rw [a.xe] at this; exact this
  have CO : Hid (∀ w, Calls Try.prog 19 #[sv s, .int .i64 n] w fun e w' => e = .returned (sv y) ∧ But No w w') := fun w => by have := without_yes s n w hs hn; rw [a.ye] at this; exact this
  have CC : Hid (∀ w, Calls Try.prog 17 #[sv s] w fun e w' => e = .returned (.int .i64 c) ∧ But No w w') := fun w => by have := count_any s w hs; rw [a.c] at this; exact this
  have CCx : Hid (∀ w, Calls Try.prog 17 #[sv x] w fun e w' => e = .returned (.int .i64 (c : Int)) ∧ But No w w') := fun w => by have := count_any x w hx; rw [hcx] at this; exact this
  have CCy : Hid (∀ w, Calls Try.prog 17 #[sv y] w fun e w' => e = .returned (.int .i64 ((c : Int) - 1)) ∧ But No w w') := fun w => by have := count_any y w hy; rw [hcy] at this; exact this
  have CH : Hid (∀ w, Calls Try.prog 13 #[sv s, .int .i64 n] w fun e w' => e = .returned (.bool true) ∧ But No w w') := fun w => by have := has_yes s n w hs hn; rw [a.has] at this; exact this
  have CHx : Hid (∀ w, Calls Try.prog 13 #[sv x, .int .i64 n] w fun e w' => e = .returned (.bool true) ∧ But No w w') := fun w => by have := has_yes x n w hx hn; rw [hxh] at this; exact this
  have CF : Hid (∀ w, Calls Try.prog 14 #[sv s] w fun e w' => e = .returned (.int .i64 fs) ∧ But No w w') := fun w => by have := first_any s w hs; rw [a.fs] at this; exact this
  have CFx : Hid (∀ w, Calls Try.prog 14 #[sv x] w fun e w' => e = .returned (.int .i64 fx) ∧ But No w w') := fun w => by have := first_any x w hx; rw [a.fx] at this; exact this
  have b1 : decide (fx ≤ (n : Int)) = true := by simpa using f1
  have b2 : (fs == -1) = false := by simpa using hff
  have b3 : decide (fx ≤ fs) = true := by rcases f3 with f3 | f3; exact absurd f3 hff; simpa using f3
  have h0' : decide ((n : Int) < 0) = false := by simp
  have h1' : decide (255 < (n : Int)) = false := by simp; omega
  clear a hs hx hy hxh k1 k2 k3 f1 f2 f3 hcx hcy
  go_enter Try.func8, Try.ntmps8
  go_wp2_with (first
    | (go_at_call 10; (with_reducible refine (CE.out _).mono ?_); rintro e w1 ⟨rfl, hb1⟩; have HB1 := Lib.hid (((But.refl No w).alloc _).trans hb1); have HA1 := Lib.hid ((Blk.new w (cells4 s) 23).but hb1 (fun f => f)); clear hb1; have a0 := HA1.out.cell (o := 0) rfl; have a1 := HA1.out.cell (o := 1) rfl; have a2 := HA1.out.cell (o := 2) rfl; have a3 := HA1.out.cell (o := 3) rfl)
    | (go_at_call 18; (with_reducible refine (CW.out _).mono ?_); rintro e w2 ⟨rfl, hb2⟩; have HB2 := Lib.hid ((HB1.out.alloc _).trans hb2); have HS2 := Lib.hid ((Blk.new w1 (cells4 s) 26).but hb2 (fun f => f)); clear hb2; have b0 := HS2.out.cell (o := 0) rfl; have b1 := HS2.out.cell (o := 1) rfl; have b2 := HS2.out.cell (o := 2) rfl; have b3 := HS2.out.cell (o := 3) rfl; have hl2 := HS2.out.lt)
    | (go_at_call 17; (with_reducible refine (CC.out _).mono ?_); rintro e w3 ⟨rfl, hb3⟩; have HB3 := Lib.hid ((HB2.out.alloc _).trans hb3); have HS3 := Lib.hid ((HS2.out.alloc _).but hb3 (fun f => f)); have HX3 := Lib.hid ((Blk.new w2 (cells4 x) 26).but hb3 (fun f => f)); clear hb3; have c0 := HS3.out.cell (o := 0) rfl; have c1 := HS3.out.cell (o := 1) rfl; have c2 := HS3.out.cell (o := 2) rfl; have c3 := HS3.out.cell (o := 3) rfl)
    | (go_at_call 13; (with_reducible refine (CH.out _).mono ?_); rintro e w4 ⟨rfl, hb4⟩; have HB4 := Lib.hid (HB3.out.trans hb4); have HS4 := Lib.hid (HS3.out.but hb4 (fun f => f)); have HX4 := Lib.hid (HX3.out.but hb4 (fun f => f)); clear hb4))
  go_region_held3 (fun w' => (w'.cell? ⟨w1.heap.size, 0, none⟩ = some (.int .u64 s.a) ∧ w'.cell? ⟨w1.heap.size, 1, none⟩ = some (.int .u64 s.b) ∧ w'.cell? ⟨w1.heap.size, 2, none⟩ = some (.int .u64 s.c) ∧ w'.cell? ⟨w1.heap.size, 3, none⟩ = some (.int .u64 s.d)) ∧ (w'.cell? ⟨w2.heap.size, 0, none⟩ = some (.int .u64 x.a) ∧ w'.cell? ⟨w2.heap.size, 1, none⟩ = some (.int .u64 x.b) ∧ w'.cell? ⟨w2.heap.size, 2, none⟩ = some (.int .u64 x.c) ∧ w'.cell? ⟨w2.heap.size, 3, none⟩ = some (.int .u64 x.d)) ∧ But No w w')
    (first | exact ⟨HS4.out.four, HX4.out.four, HB4.out.drew⟩ | exact keepB (by assumption) hbq)
    (first | (go_at_call 17; ((with_reducible refine (CCx.out _).mono ?_); rintro e wq ⟨rfl, hbq⟩)) | (go_at_call 17; ((with_reducible refine (CCy.out _).mono ?_); rintro e wq ⟨rfl, hbq⟩)) | (go_at_call 13; ((with_reducible refine (CHx.out _).mono ?_); rintro e wq ⟨rfl, hbq⟩)) | (go_at_call 14; ((with_reducible refine (CFx.out _).mono ?_); rintro e wq ⟨rfl, hbq⟩)) | (go_at_call 14; ((with_reducible refine (CF.out _).mono ?_); rintro e wq ⟨rfl, hbq⟩)) | (go_at_call 19; ((with_reducible refine (CO.out _).mono ?_); rintro e wq ⟨rfl, hbq⟩)))
  rename_i hH
  have HF := Lib.hid hH.2.2
  clear hH
  go_wp2
  go_ret
  exact ⟨ret_bool (beq_iff_eq.2 (by rw [IntKind.wrap_i64]; omega)), HF.out⟩
set_option maxHeartbeats 8000000 in
set_option maxRecDepth 100000 in
theorem at_n (s : Q) (n c : Nat) (x y : Q) (fs fx : Int) (hn : n < 256) (a : At s n c x y false fs fx) (hff : fs ≠ -1) (w : World) : Calls Try.prog 8 #[sv s, .int .i64 n] w fun e w' => e = .returned (.bool true) ∧ But No w w' := by
  have hs := a.ok
  have hx : x.ok := by rw [← a.xe]; exact Q.with_ok hs n
  have hy : y.ok := by rw [← a.ye]; exact Q.without_ok hs n
  have hxh : x.has n = true := by rw [← a.xe, Q.has_with s hn hn]; simp
  obtain ⟨k1, k2, k3⟩ := counts (s := s) hn
  obtain ⟨f1, f2, f3⟩ := firsts (s := s) hn
  rw [a.xe, a.ye] at k1
  rw [a.xe, a.c] at k2
  rw [a.ye, a.c] at k3
  rw [a.xe, a.fx] at f1 f2 f3
  rw [a.fs] at f3
  have hc := s.count_le
  rw [a.c] at hc
  have hcx : (x.count : Int) = ((c : Int) + 1) := by have := k3 a.has; omega
  have hcy : (y.count : Int) = (c : Int) := by have := k3 a.has; omega
  have CE : Hid (∀ w, Calls Try.prog 10 #[] w fun e w' => e = .returned (.bool true) ∧ But No w w') := examples_any
  have CW : Hid (∀ w, Calls Try.prog 18 #[sv s, .int .i64 n] w fun e w' => e = .returned (sv x) ∧ But No w w') := fun w => by have := with_yes s n w hs hn; rw [a.xe] at this; exact this
  have CO : Hid (∀ w, Calls Try.prog 19 #[sv s, .int .i64 n] w fun e w' => e = .returned (sv y) ∧ But No w w') := fun w => by have := without_yes s n w hs hn; rw [a.ye] at this; exact this
  have CC : Hid (∀ w, Calls Try.prog 17 #[sv s] w fun e w' => e = .returned (.int .i64 c) ∧ But No w w') := fun w => by have := count_any s w hs; rw [a.c] at this; exact this
  have CCx : Hid (∀ w, Calls Try.prog 17 #[sv x] w fun e w' => e = .returned (.int .i64 ((c : Int) + 1)) ∧ But No w w') := fun w => by have := count_any x w hx; rw [hcx] at this; exact this
  have CCy : Hid (∀ w, Calls Try.prog 17 #[sv y] w fun e w' => e = .returned (.int .i64 (c : Int)) ∧ But No w w') := fun w => by have := count_any y w hy; rw [hcy] at this; exact this
  have CH : Hid (∀ w, Calls Try.prog 13 #[sv s, .int .i64 n] w fun e w' => e = .returned (.bool false) ∧ But No w w') := fun w => by have := has_yes s n w hs hn; rw [a.has] at this; exact this
  have CHx : Hid (∀ w, Calls Try.prog 13 #[sv x, .int .i64 n] w fun e w' => e = .returned (.bool true) ∧ But No w w') := fun w => by have := has_yes x n w hx hn; rw [hxh] at this; exact this
  have CF : Hid (∀ w, Calls Try.prog 14 #[sv s] w fun e w' => e = .returned (.int .i64 fs) ∧ But No w w') := fun w => by have := first_any s w hs; rw [a.fs] at this; exact this
  have CFx : Hid (∀ w, Calls Try.prog 14 #[sv x] w fun e w' => e = .returned (.int .i64 fx) ∧ But No w w') := fun w => by have := first_any x w hx; rw [a.fx] at this; exact this
  have b1 : decide (fx ≤ (n : Int)) = true := by simpa using f1
  have b2 : (fs == -1) = false := by simpa using hff
  have b3 : decide (fx ≤ fs) = true := by rcases f3 with f3 | f3; exact absurd f3 hff; simpa using f3
  have h0' : decide ((n : Int) < 0) = false := by simp
  have h1' : decide (255 < (n : Int)) = false := by simp; omega
  clear a hs hx hy hxh k1 k2 k3 f1 f2 f3 hcx hcy
  go_enter Try.func8, Try.ntmps8
  go_wp2_with (first
    | (go_at_call 10; (with_reducible refine (CE.out _).mono ?_); rintro e w1 ⟨rfl, hb1⟩; have HB1 := Lib.hid (((But.refl No w).alloc _).trans hb1); have HA1 := Lib.hid ((Blk.new w (cells4 s) 23).but hb1 (fun f => f)); clear hb1; have a0 := HA1.out.cell (o := 0) rfl; have a1 := HA1.out.cell (o := 1) rfl; have a2 := HA1.out.cell (o := 2) rfl; have a3 := HA1.out.cell (o := 3) rfl)
    | (go_at_call 18; (with_reducible refine (CW.out _).mono ?_); rintro e w2 ⟨rfl, hb2⟩; have HB2 := Lib.hid ((HB1.out.alloc _).trans hb2); have HS2 := Lib.hid ((Blk.new w1 (cells4 s) 26).but hb2 (fun f => f)); clear hb2; have b0 := HS2.out.cell (o := 0) rfl; have b1 := HS2.out.cell (o := 1) rfl; have b2 := HS2.out.cell (o := 2) rfl; have b3 := HS2.out.cell (o := 3) rfl; have hl2 := HS2.out.lt)
    | (go_at_call 17; (with_reducible refine (CC.out _).mono ?_); rintro e w3 ⟨rfl, hb3⟩; have HB3 := Lib.hid ((HB2.out.alloc _).trans hb3); have HS3 := Lib.hid ((HS2.out.alloc _).but hb3 (fun f => f)); have HX3 := Lib.hid ((Blk.new w2 (cells4 x) 26).but hb3 (fun f => f)); clear hb3; have c0 := HS3.out.cell (o := 0) rfl; have c1 := HS3.out.cell (o := 1) rfl; have c2 := HS3.out.cell (o := 2) rfl; have c3 := HS3.out.cell (o := 3) rfl)
    | (go_at_call 13; (with_reducible refine (CH.out _).mono ?_); rintro e w4 ⟨rfl, hb4⟩; have HB4 := Lib.hid (HB3.out.trans hb4); have HS4 := Lib.hid (HS3.out.but hb4 (fun f => f)); have HX4 := Lib.hid (HX3.out.but hb4 (fun f => f)); clear hb4))
  go_region_held3 (fun w' => (w'.cell? ⟨w1.heap.size, 0, none⟩ = some (.int .u64 s.a) ∧ w'.cell? ⟨w1.heap.size, 1, none⟩ = some (.int .u64 s.b) ∧ w'.cell? ⟨w1.heap.size, 2, none⟩ = some (.int .u64 s.c) ∧ w'.cell? ⟨w1.heap.size, 3, none⟩ = some (.int .u64 s.d)) ∧ (w'.cell? ⟨w2.heap.size, 0, none⟩ = some (.int .u64 x.a) ∧ w'.cell? ⟨w2.heap.size, 1, none⟩ = some (.int .u64 x.b) ∧ w'.cell? ⟨w2.heap.size, 2, none⟩ = some (.int .u64 x.c) ∧ w'.cell? ⟨w2.heap.size, 3, none⟩ = some (.int .u64 x.d)) ∧ But No w w')
    (first | exact ⟨HS4.out.four, HX4.out.four, HB4.out.drew⟩ | exact keepB (by assumption) hbq)
    (first | (go_at_call 17; ((with_reducible refine (CCx.out _).mono ?_); rintro e wq ⟨rfl, hbq⟩)) | (go_at_call 17; ((with_reducible refine (CCy.out _).mono ?_); rintro e wq ⟨rfl, hbq⟩)) | (go_at_call 13; ((with_reducible refine (CHx.out _).mono ?_); rintro e wq ⟨rfl, hbq⟩)) | (go_at_call 14; ((with_reducible refine (CFx.out _).mono ?_); rintro e wq ⟨rfl, hbq⟩)) | (go_at_call 14; ((with_reducible refine (CF.out _).mono ?_); rintro e wq ⟨rfl, hbq⟩)) | (go_at_call 19; ((with_reducible refine (CO.out _).mono ?_); rintro e wq ⟨rfl, hbq⟩)))
  rename_i hH
  have HF := Lib.hid hH.2.2
  clear hH
  go_wp2
  go_ret
  exact ⟨ret_bool (beq_iff_eq.2 (by rw [IntKind.wrap_i64]; omega)), HF.out⟩
set_option maxHeartbeats 8000000 in
set_option maxRecDepth 100000 in
theorem at_n_first (s : Q) (n c : Nat) (x y : Q) (fs fx : Int) (hn : n < 256) (a : At s n c x y false fs fx) (hff : fs = -1) (w : World) : Calls Try.prog 8 #[sv s, .int .i64 n] w fun e w' => e = .returned (.bool true) ∧ But No w w' := by
  have hs := a.ok
  have hx : x.ok := by rw [← a.xe]; exact Q.with_ok hs n
  have hy : y.ok := by rw [← a.ye]; exact Q.without_ok hs n
  have hxh : x.has n = true := by rw [← a.xe, Q.has_with s hn hn]; simp
  obtain ⟨k1, k2, k3⟩ := counts (s := s) hn
  obtain ⟨f1, f2, f3⟩ := firsts (s := s) hn
  rw [a.xe, a.ye] at k1
  rw [a.xe, a.c] at k2
  rw [a.ye, a.c] at k3
  rw [a.xe, a.fx] at f1 f2 f3
  rw [a.fs] at f3
  have hc := s.count_le
  rw [a.c] at hc
  have hcx : (x.count : Int) = ((c : Int) + 1) := by have := k3 a.has; omega
  have hcy : (y.count : Int) = (c : Int) := by have := k3 a.has; omega
  have CE : Hid (∀ w, Calls Try.prog 10 #[] w fun e w' => e = .returned (.bool true) ∧ But No w w') := examples_any
  have CW : Hid (∀ w, Calls Try.prog 18 #[sv s, .int .i64 n] w fun e w' => e = .returned (sv x) ∧ But No w w') := fun w => by have := with_yes s n w hs hn; rw [a.xe] at this; exact this
  have CO : Hid (∀ w, Calls Try.prog 19 #[sv s, .int .i64 n] w fun e w' => e = .returned (sv y) ∧ But No w w') := fun w => by have := without_yes s n w hs hn; rw [a.ye] at this; exact this
  have CC : Hid (∀ w, Calls Try.prog 17 #[sv s] w fun e w' => e = .returned (.int .i64 c) ∧ But No w w') := fun w => by have := count_any s w hs; rw [a.c] at this; exact this
  have CCx : Hid (∀ w, Calls Try.prog 17 #[sv x] w fun e w' => e = .returned (.int .i64 ((c : Int) + 1)) ∧ But No w w') := fun w => by have := count_any x w hx; rw [hcx] at this; exact this
  have CCy : Hid (∀ w, Calls Try.prog 17 #[sv y] w fun e w' => e = .returned (.int .i64 (c : Int)) ∧ But No w w') := fun w => by have := count_any y w hy; rw [hcy] at this; exact this
  have CH : Hid (∀ w, Calls Try.prog 13 #[sv s, .int .i64 n] w fun e w' => e = .returned (.bool false) ∧ But No w w') := fun w => by have := has_yes s n w hs hn; rw [a.has] at this; exact this
  have CHx : Hid (∀ w, Calls Try.prog 13 #[sv x, .int .i64 n] w fun e w' => e = .returned (.bool true) ∧ But No w w') := fun w => by have := has_yes x n w hx hn; rw [hxh] at this; exact this
  have CF : Hid (∀ w, Calls Try.prog 14 #[sv s] w fun e w' => e = .returned (.int .i64 fs) ∧ But No w w') := fun w => by have := first_any s w hs; rw [a.fs] at this; exact this
  have CFx : Hid (∀ w, Calls Try.prog 14 #[sv x] w fun e w' => e = .returned (.int .i64 fx) ∧ But No w w') := fun w => by have := first_any x w hx; rw [a.fx] at this; exact this
  have b1 : decide (fx ≤ (n : Int)) = true := by simpa using f1
  have h0' : decide ((n : Int) < 0) = false := by simp
  have h1' : decide (255 < (n : Int)) = false := by simp; omega
  subst hff
  clear a hs hx hy hxh k1 k2 k3 f1 f2 f3 hcx hcy
  go_enter Try.func8, Try.ntmps8
  go_wp2_with (first
    | (go_at_call 10; (with_reducible refine (CE.out _).mono ?_); rintro e w1 ⟨rfl, hb1⟩; have HB1 := Lib.hid (((But.refl No w).alloc _).trans hb1); have HA1 := Lib.hid ((Blk.new w (cells4 s) 23).but hb1 (fun f => f)); clear hb1; have a0 := HA1.out.cell (o := 0) rfl; have a1 := HA1.out.cell (o := 1) rfl; have a2 := HA1.out.cell (o := 2) rfl; have a3 := HA1.out.cell (o := 3) rfl)
    | (go_at_call 18; (with_reducible refine (CW.out _).mono ?_); rintro e w2 ⟨rfl, hb2⟩; have HB2 := Lib.hid ((HB1.out.alloc _).trans hb2); have HS2 := Lib.hid ((Blk.new w1 (cells4 s) 26).but hb2 (fun f => f)); clear hb2; have b0 := HS2.out.cell (o := 0) rfl; have b1 := HS2.out.cell (o := 1) rfl; have b2 := HS2.out.cell (o := 2) rfl; have b3 := HS2.out.cell (o := 3) rfl; have hl2 := HS2.out.lt)
    | (go_at_call 17; (with_reducible refine (CC.out _).mono ?_); rintro e w3 ⟨rfl, hb3⟩; have HB3 := Lib.hid ((HB2.out.alloc _).trans hb3); have HS3 := Lib.hid ((HS2.out.alloc _).but hb3 (fun f => f)); have HX3 := Lib.hid ((Blk.new w2 (cells4 x) 26).but hb3 (fun f => f)); clear hb3; have c0 := HS3.out.cell (o := 0) rfl; have c1 := HS3.out.cell (o := 1) rfl; have c2 := HS3.out.cell (o := 2) rfl; have c3 := HS3.out.cell (o := 3) rfl)
    | (go_at_call 13; (with_reducible refine (CH.out _).mono ?_); rintro e w4 ⟨rfl, hb4⟩; have HB4 := Lib.hid (HB3.out.trans hb4); have HS4 := Lib.hid (HS3.out.but hb4 (fun f => f)); have HX4 := Lib.hid (HX3.out.but hb4 (fun f => f)); clear hb4))
  have HBR := Lib.hid HB4.out.drew
  have HSR : Hid (Blk w4.drew w1.heap.size (cells4 s) 26) := HS4.out
  have HXR : Hid (Blk w4.drew w2.heap.size (cells4 x) 26) := HX4.out
  have p0 := HSR.out.cell (o := 0) rfl
  have p1 := HSR.out.cell (o := 1) rfl
  have p2 := HSR.out.cell (o := 2) rfl
  have p3 := HSR.out.cell (o := 3) rfl
  have q0 := HXR.out.cell (o := 0) rfl
  have q1 := HXR.out.cell (o := 1) rfl
  have q2 := HXR.out.cell (o := 2) rfl
  have q3 := HXR.out.cell (o := 3) rfl
  go_region_with (first | (go_at_call 17; ((with_reducible refine (CCx.out _).mono ?_); rintro e wq ⟨rfl, hbq⟩; have HBR := Lib.hid (HBR.out.trans hbq); have HSR := Lib.hid (HSR.out.but hbq (fun f => f)); have HXR := Lib.hid (HXR.out.but hbq (fun f => f)); clear hbq; have p0 := HSR.out.cell (o := 0) rfl; have p1 := HSR.out.cell (o := 1) rfl; have p2 := HSR.out.cell (o := 2) rfl; have p3 := HSR.out.cell (o := 3) rfl; have q0 := HXR.out.cell (o := 0) rfl; have q1 := HXR.out.cell (o := 1) rfl; have q2 := HXR.out.cell (o := 2) rfl; have q3 := HXR.out.cell (o := 3) rfl)) | (go_at_call 17; ((with_reducible refine (CCy.out _).mono ?_); rintro e wq ⟨rfl, hbq⟩; have HBR := Lib.hid (HBR.out.trans hbq); have HSR := Lib.hid (HSR.out.but hbq (fun f => f)); have HXR := Lib.hid (HXR.out.but hbq (fun f => f)); clear hbq; have p0 := HSR.out.cell (o := 0) rfl; have p1 := HSR.out.cell (o := 1) rfl; have p2 := HSR.out.cell (o := 2) rfl; have p3 := HSR.out.cell (o := 3) rfl; have q0 := HXR.out.cell (o := 0) rfl; have q1 := HXR.out.cell (o := 1) rfl; have q2 := HXR.out.cell (o := 2) rfl; have q3 := HXR.out.cell (o := 3) rfl)) | (go_at_call 13; ((with_reducible refine (CHx.out _).mono ?_); rintro e wq ⟨rfl, hbq⟩; have HBR := Lib.hid (HBR.out.trans hbq); have HSR := Lib.hid (HSR.out.but hbq (fun f => f)); have HXR := Lib.hid (HXR.out.but hbq (fun f => f)); clear hbq; have p0 := HSR.out.cell (o := 0) rfl; have p1 := HSR.out.cell (o := 1) rfl; have p2 := HSR.out.cell (o := 2) rfl; have p3 := HSR.out.cell (o := 3) rfl; have q0 := HXR.out.cell (o := 0) rfl; have q1 := HXR.out.cell (o := 1) rfl; have q2 := HXR.out.cell (o := 2) rfl; have q3 := HXR.out.cell (o := 3) rfl)) | (go_at_call 14; ((with_reducible refine (CFx.out _).mono ?_); rintro e wq ⟨rfl, hbq⟩; have HBR := Lib.hid (HBR.out.trans hbq); have HSR := Lib.hid (HSR.out.but hbq (fun f => f)); have HXR := Lib.hid (HXR.out.but hbq (fun f => f)); clear hbq; have p0 := HSR.out.cell (o := 0) rfl; have p1 := HSR.out.cell (o := 1) rfl; have p2 := HSR.out.cell (o := 2) rfl; have p3 := HSR.out.cell (o := 3) rfl; have q0 := HXR.out.cell (o := 0) rfl; have q1 := HXR.out.cell (o := 1) rfl; have q2 := HXR.out.cell (o := 2) rfl; have q3 := HXR.out.cell (o := 3) rfl)) | (go_at_call 14; ((with_reducible refine (CF.out _).mono ?_); rintro e wq ⟨rfl, hbq⟩; have HBR := Lib.hid (HBR.out.trans hbq); have HSR := Lib.hid (HSR.out.but hbq (fun f => f)); have HXR := Lib.hid (HXR.out.but hbq (fun f => f)); clear hbq; have p0 := HSR.out.cell (o := 0) rfl; have p1 := HSR.out.cell (o := 1) rfl; have p2 := HSR.out.cell (o := 2) rfl; have p3 := HSR.out.cell (o := 3) rfl; have q0 := HXR.out.cell (o := 0) rfl; have q1 := HXR.out.cell (o := 1) rfl; have q2 := HXR.out.cell (o := 2) rfl; have q3 := HXR.out.cell (o := 3) rfl)) | (go_at_call 19; ((with_reducible refine (CO.out _).mono ?_); rintro e wq ⟨rfl, hbq⟩; have HBR := Lib.hid (HBR.out.trans hbq); have HSR := Lib.hid (HSR.out.but hbq (fun f => f)); have HXR := Lib.hid (HXR.out.but hbq (fun f => f)); clear hbq; have p0 := HSR.out.cell (o := 0) rfl; have p1 := HSR.out.cell (o := 1) rfl; have p2 := HSR.out.cell (o := 2) rfl; have p3 := HSR.out.cell (o := 3) rfl; have q0 := HXR.out.cell (o := 0) rfl; have q1 := HXR.out.cell (o := 1) rfl; have q2 := HXR.out.cell (o := 2) rfl; have q3 := HXR.out.cell (o := 3) rfl)))
  all_goals
    go_wp2
    go_ret
    exact ⟨ret_bool (beq_iff_eq.2 (by rw [IntKind.wrap_i64]; omega)), HBR.out⟩
theorem walk (s : Q) (hs : s.ok) (i : Int) (_ : (Lit.int .i64 i).wf = true) (w : World) : Calls Try.prog 8 #[sv s, .int .i64 i] w fun e w' => e = .returned (.bool true) ∧ But No w w' := by
  by_cases h : 0 ≤ i ∧ i < 256
  · obtain ⟨n, rfl⟩ : ∃ n : Nat, i = n := ⟨i.toNat, by omega⟩
    by_cases hf : s.first = -1
    · cases hh : s.has n with
      | true =>
        unfold Q.first at hf
        rcases scan_is s.has 256 0 with ⟨_, h2⟩ | ⟨L, h1, _⟩
        · have := h2 n (by omega) (by omega); rw [hh] at this; cases this
        · omega
      | false => exact at_n_first s n s.count _ _ s.first _ (by omega) ⟨hs, hh, rfl, rfl, rfl, rfl, rfl⟩ hf w
    · cases hh : s.has n with
      | true => exact at_h s n s.count _ _ s.first _ (by omega) ⟨hs, hh, rfl, rfl, rfl, rfl, rfl⟩ hf w
      | false => exact at_n s n s.count _ _ s.first _ (by omega) ⟨hs, hh, rfl, rfl, rfl, rfl, rfl⟩ hf w
  · exact walk_no s i (by omega) w
end Go.Proofs.Ytgocjgipigjhbaa.bitsCounts
