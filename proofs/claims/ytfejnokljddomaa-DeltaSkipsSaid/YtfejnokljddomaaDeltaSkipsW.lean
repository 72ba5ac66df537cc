/- So many ticks at once tell what they tell one by one: DeltaSkips returns true. (The walk.) -/
import Derived.Test.YtfejnokljddomaaE
namespace Go.Proofs.Ytfejnokljddomaa.deltaSkips
open Go.ChangeShapes Go.WideShapes Go.ChangeAt Go.RowKit Go.Deep
/-- Two lists side by side. -/
structure Tw (w wr : World) (p q : Nat) (L M : List Tm) (S T : Nat → Prop) : Prop where
  a : DP wr S p 256 L
  b : DP wr T q 256 M
  ds : ∀ k, S k → ¬ T k
  na : ∀ k, S k → w.heap.size ≤ k
  nb : ∀ k, T k → w.heap.size ≤ k
  but : But No w wr
section
variable {w wr w' : World} {p q : Nat} {L M L' M' : List Tm} {S T : Nat → Prop}
theorem Tw.no (h : Tw w wr p q L M S T) (hb : But No wr w') : Tw w w' p q L M S T := ⟨h.a.no hb, h.b.no hb, h.ds, h.na, h.nb, h.but.trans hb⟩
theorem Tw.stepA (h : Tw w wr p q L M S T) (hm : Mv wr S p 256 L' w') : ∃ S', Tw w w' p q L' M S' T := by
  obtain ⟨S', h1, h2, h3⟩ := hm
  refine ⟨S', ⟨h1, h.b.but h2 (fun k hk hs => h.ds k hs hk), fun k hk ht => ?_, fun k hk => ?_, h.nb, h.but.andThen h2 (fun k hk => .inr (h.na k hk))⟩⟩
  · rcases h3 k hk with e | e
    · exact h.ds k e ht
    · have := h.b.lt k ht; omega
  · rcases h3 k hk with e | e
    · exact h.na k e
    · have := h.but.size; omega
theorem Tw.stepB (h : Tw w wr p q L M S T) (hm : Mv wr T q 256 M' w') : ∃ T', Tw w w' p q L M' S T' := by
  obtain ⟨T', h1, h2, h3⟩ := hm
  refine ⟨T', ⟨h.a.but h2 (fun k hk hs => h.ds k hk hs), h1, fun k hk ht => ?_, h.na, fun k hk => ?_, h.but.andThen h2 (fun k hk => .inr (h.nb k hk))⟩⟩
  · rcases h3 k ht with e | e
    · exact h.ds k hk e
    · have := h.a.lt k hk; omega
  · rcases h3 k hk with e | e
    · exact h.nb k e
    · have := h.but.size; omega
end
/-- A slice apart from both. -/
structure Ap (w wr : World) (S T : Nat → Prop) (v : Value) (zs : List Int) : Prop where
  ov : Ov wr v zs
  s : ∀ k, v.ownBlock = some k → ¬ S k
  t : ∀ k, v.ownBlock = some k → ¬ T k
  new : ∀ k, v.ownBlock = some k → w.heap.size ≤ k
/-- On the way of the ticks. -/
structure St (w wr : World) (p q : Nat) (L : List Tm) (n i : Int) (va v : Value) (S T : Nat → Prop) : Prop where
  tw : Tw w wr p q (rst n L) (rst i L) S T
  gd : Gd 256 L
  aa : Ap w wr S T va (out n L)
  ao : Ap w wr S T v (out i L)
  av : ∀ k, va.ownBlock = some k → v.ownBlock ≠ some k
theorem St.start {w wr w' : World} {p q : Nat} {L : List Tm} {S T : Nat → Prop} {n : Int} {v : Value} (h : Tw w wr p q L L S T) (hx : ExEnd wr S p 256 n L v w') : St w w' p q L n 0 v (.slice none 0 0) S T := by
  have hb := hx.2.2.1
  have hs := h.but.size
  refine ⟨⟨hx.2.1, ?_, h.ds, h.na, h.nb, h.but.andThen hb (fun k hk => .inr (h.na k hk))⟩, h.a.gd, ⟨hx.1, fun k e hk => ?_, fun k e hk => ?_, fun k e => ?_⟩, ⟨?_, fun k e => ?_, fun k e => ?_, fun k e => ?_⟩, fun k e => ?_⟩
  · rw [rst_zero h.a.gd]; exact h.b.but hb (fun k hk hs => h.ds k hs hk)
  · have h1 := hx.2.2.2 k e; have := h.a.lt k hk; omega
  · have h1 := hx.2.2.2 k e; have := h.b.lt k hk; omega
  · have h1 := hx.2.2.2 k e; omega
  · rw [out_zero h.a.gd]; exact Ov.nil _
  all_goals simp [Value.ownBlock] at *
theorem St.tick {w wr w4 w5 : World} {p q : Nat} {L : List Tm} {S T : Nat → Prop} {n : Int} {i : Nat} {va v v' : Value} {v4 : Value} (h : St w wr p q L n i va v S T) (hx : ExEnd wr T q 256 1 (rst i L) v4 w4)
    (ho : Ov w5 v' (out i L ++ out 1 (rst i L))) (hg : w4.grownBy w5 v.ownBlock) (hat : v'.ownBlock = v.ownBlock ∨ v'.ownBlock = some w4.heap.size) : St w w5 p q L n ((i + 1 : Nat) : Int) va v' S T := by
  have hb := hx.2.2.1
  have b5 : But (fun k => v.ownBlock = some k) w4 w5 := (But.refl _ w4).grown hg (fun k e => .inl e)
  have ei : ((i + 1 : Nat) : Int) = (i : Int) + 1 := by omega
  have e1 : rst ((i : Int) + 1) L = rst 1 (rst i L) := rst_add (by omega)
  have e2 : out ((i : Int) + 1) L = out i L ++ out 1 (rst i L) := out_add h.gd.srt (by omega)
  have s1 := h.tw.but.size
  have s2 := hb.size
  have ltv : ∀ k, va.ownBlock = some k → k < wr.heap.size := h.aa.ov.lt
  have hv' : ∀ k, v'.ownBlock = some k → v.ownBlock = some k ∨ k = w4.heap.size := fun k e => by
    rcases hat with h | h
    · exact .inl (h ▸ e)
    · rw [h] at e; exact .inr (by simpa using e.symm)
  rw [ei]
  refine ⟨⟨?_, ?_, h.tw.ds, h.tw.na, h.tw.nb, (h.tw.but.andThen hb (fun k hk => .inr (h.tw.nb k hk))).andThen b5 (fun k hk => .inr (h.ao.new k hk))⟩, h.gd, ⟨?_, h.aa.s, h.aa.t, h.aa.new⟩, ⟨by rw [e2]; exact ho, fun k e hk => ?_, fun k e hk => ?_, fun k e => ?_⟩, fun k e e' => ?_⟩
  · exact (h.tw.a.but hb (fun k hk ht => h.tw.ds k hk ht)).but b5 (fun k hk e => h.ao.s k e hk)
  · rw [e1]; exact hx.2.1.but b5 (fun k hk e => h.ao.t k e hk)
  · exact (h.aa.ov.but hb (fun k e ht => h.aa.t k e ht)).but b5 (fun k e e' => h.av k e e')
  · rcases hv' k e with e1 | e1
    · exact h.ao.s k e1 hk
    · have := h.tw.a.lt k hk; omega
  · rcases hv' k e with e1 | e1
    · exact h.ao.t k e1 hk
    · have := h.tw.b.lt k hk; omega
  · rcases hv' k e with e1 | e1
    · exact h.ao.new k e1
    · omega
  · rcases hv' k e' with e1 | e1
    · exact h.av k e e1
    · have := ltv k e; omega
def Rel1 (w wr : World) (p q : Nat) : Prop := ∃ S T L, Tw w wr p q L L S T
def Rel3 (w wr : World) (p q : Nat) (M : List Tm) : Prop := ∃ S T, Tw w wr p q M M S T
theorem side_mv {w wr w' : World} {S : Nat → Prop} {p : Nat} {L : List Tm} {b o : Nat} {v : Value} (hc : w.cell? ⟨b, o, none⟩ = some v) (hb : But No w wr) (hn : ∀ k, S k → w.heap.size ≤ k) (hm : Mv wr S p 256 L w') : w'.cell? ⟨b, o, none⟩ = some v := by
  obtain ⟨S', h1, h2, h3⟩ := hm
  have hl := World.block_lt_of_cell? w _ hc
  have := hb.size
  dsimp only at hl
  rw [h2.cell (by omega) (fun hs => by have := hn b hs; omega), hb.cell hl (fun f => f)]; exact hc
set_option maxHeartbeats 8000000 in
set_option maxRecDepth 100000 in
theorem walk (A : Option Addr) (n c : Nat) (zs : List Int) (_ : n ≤ c) (B : Option Addr) (m c' : Nat) (us : List Int) (_ : m ≤ c') (d : Int) (wd : (Lit.int .i64 d).wf = true) (w : World) (hz : Rd w A n zs) (hu : Rd w B m us) :
    Calls Try.prog 5 #[.slice A n c, .slice B m c', .int .i64 d] w fun e w' => e = .returned (.bool true) ∧ But No w w' := by
  have HZ := Lib.hid hz
  have HU := Lib.hid hu
  have hmax := hz.max
  have hmax2 := hu.max
  have HD : Hid (inR d) := inR_of wd
  obtain ⟨q5, hq5e⟩ : ∃ q, q = pk d 501 := ⟨_, rfl⟩
  have hq51 : 0 ≤ q5 ∧ q5 < 501 := by rw [hq5e]; exact pk_lt d 501 (by omega)
  obtain ⟨hq5, hq52⟩ := hq51
  have HQ5 := Lib.hid hq5e
  obtain ⟨i0, hi0, hz0, hz1, hz2⟩ := info_parts info3
  have I0 : Hid (Try.prog.info? 3 = some i0 ∧ i0.zero = some (.int .i64 0) ∧ i0.size = 1 ∧ i0.bytes = 8) := ⟨hi0, hz0, hz1, hz2⟩
  have CN1 : Hid (∀ w', But No w w' → Calls Try.prog 8 #[.int .i64 256] w' fun r w'' => ∃ p, r = .returned (.tuple #[.pointer (some ⟨p, 0, none⟩), .int .i64 0]) ∧ ∃ S, DP w'' S p 256 [] ∧ But No w w'' ∧ ∀ k, S k → w.heap.size ≤ k) := by
    intro w' hb
    refine (new_ok 256 w' (by omega) (by omega)).mono ?_
    rintro e w1 ⟨p, rfl, S, h1, h2, h3⟩
    exact ⟨p, rfl, S, h1, hb.trans h2, fun k hk => Nat.le_trans hb.size (h3 k hk)⟩
  have CN2 : Hid (∀ w' p S, But No w w' → DP w' S p 256 [] → (∀ k, S k → w.heap.size ≤ k) → Calls Try.prog 8 #[.int .i64 256] w' fun r w'' => ∃ q, r = .returned (.tuple #[.pointer (some ⟨q, 0, none⟩), .int .i64 0]) ∧ Rel1 w w'' p q) := by
    intro w' p S hb hd hn
    refine (new_ok 256 w' (by omega) (by omega)).mono ?_
    rintro e w1 ⟨q, rfl, T, h1, h2, h3⟩
    exact ⟨q, rfl, S, T, [], ⟨hd.no h2, h1, fun k hk ht => by have h4 := hd.lt k hk; have h5 := h3 k ht; omega, hn, fun k hk => Nat.le_trans hb.size (h3 k hk), hb.trans h2⟩⟩
  clear hz hu hi0 hz0 hz1 hz2 hq5e wd
  go_enter Try.func5, Try.ntmps5
  go_wp2_with (first
    | (go_at_call 7; refine (examples_any _).mono ?_; rintro e we ⟨rfl, hbe⟩; have HE := Lib.hid hbe; clear hbe)
    | (go_at_call 8; ((with_reducible refine (CN2.out _ p S0 HB0.out HD0.out HS0.out).mono ?_); rintro e w1 ⟨q, rfl, hr1⟩; have H1 := Lib.hid hr1; clear hr1))
    | (go_at_call 8; ((with_reducible refine (CN1.out _ HE.out).mono ?_); rintro e w0 ⟨p, rfl, S0, hd0, hb0, hs0⟩; have HD0 := Lib.hid hd0; have HB0 := Lib.hid hb0; have HS0 := Lib.hid hs0; clear hd0 hb0 hs0)))
  clear HD0 HB0 HS0 HE CN1 CN2
  go_loopw [12] (fun s wr => ∃ k : Nat, s = .int .i64 k ∧ k ≤ n ∧ k ≤ m ∧ k ≤ 100 ∧ Hid (Rel1 w wr p q)) (fun s _ => n - (intOf s).toNat)
  case atStart => exact ⟨0, rfl, by omega, by omega, by omega, H1⟩
  case round =>
    obtain ⟨k, rfl, hk, hk2, hk3, hrel⟩ := hrel
    clear H1
    by_cases hlt : k < n
    · have bn : (k : Int) < (n : Int) := by omega
      by_cases hlt2 : k < m
      · have bm : (k : Int) < (m : Int) := by omega
        by_cases hlt3 : k < 100
        · have b3 : (k : Int) < 100 := by omega
          obtain ⟨S, T, L, ht⟩ := hrel.out
          obtain ⟨eb, eoff, hA, hbl, hc⟩ := HZ.out.at_ (by omega)
          obtain ⟨fb, foff, hB, hbl2, hc2⟩ := (HU.out.no ht.but).at_ (by omega)
          have hck := hc k hlt
          have hck2 := hc2 k hlt2
          have hF := HU.out.fit k
          generalize zs.getD k 0 = z at hck
          generalize us.getD k 0 = u at hck2 hF
          obtain ⟨q1, hq1⟩ : ∃ q, q = pk u 1000 := ⟨_, rfl⟩
          have CK : Hid (∀ w, Calls Try.prog 10 #[.int .i64 u, .int .i64 1000] w fun e w' => e = .returned (.int .i64 q1) ∧ w = w') := fun w => by rw [hq1]; exact pick_any u 1000 w hF (by omega) (by omega)
          have hq2 : 0 ≤ q1 ∧ q1 < 1000 := by rw [hq1]; exact pk_lt u 1000 (by omega)
          obtain ⟨hq3, hq4⟩ := hq2
          have HT := Lib.hid (ht.no ((But.refl No wr).drew))
          have HCK := Lib.hid hck
          obtain ⟨E, hE⟩ : ∃ E, E = addE 256 L z (1 + q1) := ⟨_, rfl⟩
          obtain ⟨L2, hL2⟩ : ∃ l, l = addL 256 L z (1 + q1) := ⟨_, rfl⟩
          have CA : Hid (Calls Try.prog 11 #[.pointer (some ⟨p, 0, none⟩), .int .i64 z, .int .i64 (1 + q1)] wr.drew fun r w' => r = .returned (.int .i64 E) ∧ Mv wr.drew S p 256 L2 w') := by rw [hE, hL2]; exact add_any p 256 L S wr.drew z (1 + q1) HT.out.a
          have CB : Hid (∀ w' S', Tw w w' p q L2 L S' T → Calls Try.prog 11 #[.pointer (some ⟨q, 0, none⟩), .int .i64 z, .int .i64 (1 + q1)] w' fun r w'' => r = .returned (.int .i64 E) ∧ Mv w' T q 256 L2 w'') := fun w' S' h' => by rw [hE, hL2]; exact add_any q 256 L T w' z (1 + q1) h'.b
          have bE : (E != E) = false := by simp
          have HCD : Hid (wr.drew.cell? ⟨eb, eoff + k, none⟩ = some (.int .i64 z)) := by show _ = _; rw [HT.out.but.cell (World.block_lt_of_cell? w _ hck) (fun f => f)]; exact hck
          subst hA hB
          clear ht hc hc2 hbl hbl2 hq1 hF hrel hE hL2 hck
          go_wp2_with (first | (go_at_call 10; ((with_reducible refine (CK.out _).mono ?_); rintro e w2 ⟨rfl, rfl⟩)))
          go_region_held3 (fun w' => w'.cell? ⟨eb, eoff + k, none⟩ = some (.int .i64 z))
            (first | exact HCD.out | exact HC2.out | exact HC3.out)
            (first | (go_at_call 11; ((with_reducible refine CA.out.mono ?_); rintro e w3 ⟨rfl, hm3⟩; have HC2 := Lib.hid (side_mv HCK.out HT.out.but HT.out.na hm3); obtain ⟨S3, ht3⟩ := HT.out.stepA hm3; have HT3 := Lib.hid ht3; clear hm3 ht3)) | (go_at_call 11; ((with_reducible refine (CB.out _ S3 HT3.out).mono ?_); rintro e w4 ⟨rfl, hm4⟩; have HC3 := Lib.hid (side_mv HCK.out HT3.out.but HT3.out.nb hm4); obtain ⟨T4, ht4⟩ := HT3.out.stepB hm4; have HT4 := Lib.hid ht4; clear hm4 ht4)))
          rename_i hHeld
          have HF : Hid (Rel1 w w4 p q) := ⟨S3, T4, L2, HT4.out⟩
          clear hHeld HT HT3 HT4 HC2 HC3 HCK HCD
          go_wp2
          go_roundw
          case rel => exact ⟨k + 1, by go_num, by omega, by omega, by omega, HF⟩
          case measure => simp [intOf]; omega
        · have b3 : decide ((k : Int) < 100) = false := by simp; omega
          obtain ⟨S, T, L, ht⟩ := hrel.out
          have HGD := Lib.hid ht.a.gd
          have C5 : Hid (∀ w, Calls Try.prog 10 #[.int .i64 d, .int .i64 501] w fun e w' => e = .returned (.int .i64 q5) ∧ w = w') := fun w => by rw [HQ5.out]; exact pick_any d 501 w HD.out (by omega) (by omega)
          have CS := Lib.hid (skip_any p 256 L S wr q5 ht.a hq5)
          have HT := Lib.hid ht
          clear ht hrel
          go_wp2_with (first | (go_at_call 10; ((with_reducible refine (C5.out _).mono ?_); rintro e w2 ⟨rfl, rfl⟩)) | (go_at_call 16; ((with_reducible refine CS.out.mono ?_); rintro e w3 ⟨va, rfl, hx3⟩; have H3 : Hid (St w w3 p q L q5 ((0 : Nat) : Int) va (.slice none 0 0) S T) := St.start HT.out hx3; clear hx3)))
          clear HT CS
          go_loopw [16, 17] (fun s t wx => ∃ (v : Value) (i : Nat), s = v ∧ t = .int .i64 i ∧ (i : Int) ≤ q5 ∧ Hid (St w wx p q L q5 i va v S T)) (fun _ t _ => 501 - (intOf t).toNat)
          case atStart => exact ⟨_, 0, rfl, rfl, by omega, H3⟩
          case round =>
            obtain ⟨v, i, hsv, rfl, hi, h4⟩ := hrel
            have hsv' := hsv.symm
            subst hsv'
            clear H3
            by_cases hiq : (i : Int) < q5
            · have biq : decide ((i : Int) < q5) = true := by simpa using hiq
              obtain ⟨m1, hm1⟩ : ∃ m1, m1 = (out i L).length := ⟨_, rfl⟩
              obtain ⟨m2, hm2⟩ : ∃ m2, m2 = (out 1 (rst i L)).length := ⟨_, rfl⟩
              have hm12 : m1 + m2 ≤ 256 := by
                have h1 := out_len ((i : Int) + 1) L
                rw [out_add (a := (i : Int)) HGD.out.srt (by omega), List.length_append, ← hm1, ← hm2] at h1
                have h2 := HGD.out.len
                omega
              have HM : Hid (m1 = (out i L).length ∧ m2 = (out 1 (rst i L)).length) := ⟨hm1, hm2⟩
              have CT : Hid (Calls Try.prog 14 #[.pointer (some ⟨q, 0, none⟩)] wr fun r w' => ∃ A4 c4, r = .returned (.slice A4 m2 c4) ∧ ExEnd wr T q 256 1 (rst i L) (.slice A4 m2 c4) w' ∧ w'.ownsRow 0 3 1 v m1 ((out i L).map (Value.int .i64)) ∧ Reads w' w'.heap.size 1 A4 m2 ((out 1 (rst i L)).map (Value.int .i64))) := by
                refine (tick_any q 256 (rst i L) T wr h4.out.tw.b).mono ?_
                rintro e w5 ⟨v5, rfl, hx⟩
                obtain ⟨A4, c4, e4, _⟩ := hx.1.slice
                rw [← hm2] at e4
                subst e4
                refine ⟨A4, c4, rfl, hx, ?_, ?_⟩
                · have := h4.out.ao.ov.but hx.2.2.1 (fun k e ht => h4.out.ao.t k e ht)
                  unfold Ov at this; rw [← hm1] at this; exact this
                · have := hx.1
                  unfold Ov at this; rw [← hm2] at this; exact Reads.of_own this
              have HSTEP : Hid (∀ A4 c4 w4 A5 c5 w5, ExEnd wr T q 256 1 (rst i L) (.slice A4 m2 c4) w4 → w5.ownsRow 0 3 1 (.slice A5 (m1 + m2) c5) (m1 + m2) ((out i L).map (Value.int .i64) ++ (out 1 (rst i L)).map (Value.int .i64)) → w4.grownBy w5 v.ownBlock → ((Value.slice A5 (m1 + m2) c5).ownBlock = v.ownBlock ∨ (Value.slice A5 (m1 + m2) c5).ownBlock = some w4.heap.size) → St w w5 p q L q5 ((i + 1 : Nat) : Int) va (.slice A5 (m1 + m2) c5) S T) := by
                intro A4 c4 w4 A5 c5 w5 hx ho hg hat
                refine h4.out.tick hx ?_ hg hat
                unfold Ov; rw [List.length_append, List.map_append, ← hm1, ← hm2]; exact ho
              have H1C : Hid (∀ u ∈ (out 1 (rst i L)).map (Value.int .i64), u.oneCell' = true) := by
                intro u hu
                obtain ⟨z, _, rfl⟩ := List.mem_map.1 hu
                rfl
              clear hm1 hm2 h4
              go_wp2_with (first | (go_at_call 14; ((with_reducible refine CT.out.mono ?_); rintro e w4 ⟨A4, c4, rfl, hx4, hr4, hd4⟩; have HX4 := Lib.hid hx4; have HR4 := Lib.hid hr4; have HD4 := Lib.hid hd4; clear hx4 hr4 hd4)) | (at_builtin; refine wpList_append_sh _ rfl _ _ 35 rfl 3 i0 _ 1 8 Try.underlying35 I0.out.1 I0.out.2.1 I0.out.2.2.1 I0.out.2.2.2 rfl (by omega) v m1 _ rfl HR4.out w4.heap.size A4 m2 c4 _ rfl HD4.out H1C.out (by unfold maxLen; omega) (by omega) ?_; intro A5 c5 w5 hown5 hgrow5 hat5; have HS5 := Lib.hid (HSTEP.out A4 c4 w4 A5 c5 w5 HX4.out hown5 hgrow5 hat5); clear hown5 hgrow5 hat5))
              go_roundw
              case rel => exact ⟨_, i + 1, rfl, by go_num, by omega, HS5⟩
              case measure => simp [intOf]; omega
            · have biq : decide ((i : Int) < q5) = false := by simpa using hiq
              have hie : (i : Int) = q5 := by omega
              have H5 : Hid (St w wr p q L q5 q5 va v S T) := by have := h4.out; rw [hie] at this; exact this
              obtain ⟨A1, c1, ea, _⟩ := H5.out.aa.ov.slice
              obtain ⟨A2, c2, eo, _⟩ := H5.out.ao.ov.slice
              have HL256 : Hid ((out q5 L).length ≤ 256) := by have h1 := out_len q5 L; have h2 := HGD.out.len; show _ ≤ _; omega
              have CN : Hid (Calls Try.prog 13 #[va, v] wr fun e w' => e = .returned (.bool true) ∧ Rel3 w w' p q (rst q5 L)) := by
                rw [ea, eo]
                have h1 := H5.out.aa.ov
                have h2 := H5.out.ao.ov
                rw [ea] at h1
                rw [eo] at h2
                have hl := HL256.out
                have := numbers_any A1 A2 _ _ c1 c2 _ _ wr (h1.rl (by omega)).1 (h2.rl (by omega)).1
                simp only [decide_true] at this
                exact this.mono fun e w' ⟨h1, h2⟩ => ⟨h1, S, T, H5.out.tw.no h2⟩
              clear h4 hie ea eo H5
              go_wp2_with (first | (go_at_call 13; ((with_reducible refine CN.out.mono ?_); rintro e w6 ⟨rfl, h6⟩; have H6 := Lib.hid h6; clear h6)))
              go_loopw [19] (fun t wx => ∃ (j : Nat), t = .int .i64 j ∧ j ≤ n ∧ j ≤ 100 ∧ Hid (Rel3 w wx p q (rst q5 L))) (fun t _ => n - (intOf t).toNat)
              case atStart => exact ⟨0, rfl, by omega, by omega, H6⟩
              case round =>
                obtain ⟨j, rfl, hj, hj1, h3⟩ := hrel
                clear H6
                by_cases hjn : j < n
                · have bjn : (j : Int) < (n : Int) := by omega
                  by_cases hj2 : j < 100
                  · have bj2 : (j : Int) < 100 := by omega
                    obtain ⟨S3, T3, ht3⟩ := h3.out
                    obtain ⟨eb, eoff, hA, hbl, hc⟩ := (HZ.out.no ht3.but).at_ (by omega)
                    have hck := hc j hjn
                    generalize zs.getD j 0 = z at hck
                    have CA : Hid (∀ m, Calls Try.prog 21 #[.pointer (some ⟨p, 0, none⟩), .int .i64 z] (wr.drewN m) fun r w' => r = .returned (.int .i64 (lft (rst q5 L) z)) ∧ w' = wr.drewN m) := fun m => left_any p 256 _ S3 _ z (ht3.a.no ((But.refl No wr).drewN m))
                    have CB : Hid (∀ m, Calls Try.prog 21 #[.pointer (some ⟨q, 0, none⟩), .int .i64 z] (wr.drewN m) fun r w' => r = .returned (.int .i64 (lft (rst q5 L) z)) ∧ w' = wr.drewN m) := fun m => left_any q 256 _ T3 _ z (ht3.b.no ((But.refl No wr).drewN m))
                    have HNX : Hid (∀ m, Rel3 w (wr.drewN m) p q (rst q5 L)) := fun m => ⟨S3, T3, ht3.no ((But.refl No wr).drewN m)⟩
                    generalize lft (rst q5 L) z = y at CA CB
                    have by_ : (y != y) = false := by simp
                    subst hA
                    clear ht3 hc hbl h3
                    go_wp2_with fail
                    go_quiet (first | (go_at_call 21; with_reducible exact Calls.quiet_of_same (CA.out _)) | (go_at_call 21; with_reducible exact Calls.quiet_of_same (CB.out _)))
                    go_wp2
                    go_roundw
                    case rel => exact ⟨j + 1, by go_num, by omega, by omega, HNX.out _⟩
                    case measure => simp [intOf]; omega
                  · have bj2 : decide ((j : Int) < 100) = false := by simp; omega
                    obtain ⟨S3, T3, ht3⟩ := h3.out
                    have C20 : Hid (Calls Try.prog 20 #[.pointer (some ⟨p, 0, none⟩)] wr fun r w' => r = .returned (.int .i64 (rst q5 L).length) ∧ w' = wr) := len_any p 256 _ S3 wr ht3.a
                    have C21 : Hid (Calls Try.prog 20 #[.pointer (some ⟨q, 0, none⟩)] wr fun r w' => r = .returned (.int .i64 (rst q5 L).length) ∧ w' = wr) := len_any q 256 _ T3 wr ht3.b
                    have HBU := Lib.hid ht3.but
                    obtain ⟨l9, hl9⟩ : ∃ l9, l9 = (rst q5 L).length := ⟨_, rfl⟩
                    rw [← hl9] at C20 C21
                    have bl9 : ((l9 : Int) == (l9 : Int)) = true := by simp
                    have hl92 : l9 ≤ 256 := by rw [hl9]; have h1 := ht3.a.gd.len; have h2 := ht3.a.gd.r1; omega
                    clear hl9 ht3
                    go_wp2_with (first | (go_at_call 20; ((with_reducible refine C20.out.mono ?_); rintro e w8 ⟨rfl, rfl⟩)) | (go_at_call 20; ((with_reducible refine C21.out.mono ?_); rintro e w8 ⟨rfl, rfl⟩)))
                    go_ret
                    exact ⟨rfl, HBU.out⟩
                · have bjn : decide ((j : Int) < (n : Int)) = false := by simp; omega
                  obtain ⟨S3, T3, ht3⟩ := h3.out
                  have C20 : Hid (Calls Try.prog 20 #[.pointer (some ⟨p, 0, none⟩)] wr fun r w' => r = .returned (.int .i64 (rst q5 L).length) ∧ w' = wr) := len_any p 256 _ S3 wr ht3.a
                  have C21 : Hid (Calls Try.prog 20 #[.pointer (some ⟨q, 0, none⟩)] wr fun r w' => r = .returned (.int .i64 (rst q5 L).length) ∧ w' = wr) := len_any q 256 _ T3 wr ht3.b
                  have HBU := Lib.hid ht3.but
                  obtain ⟨l9, hl9⟩ : ∃ l9, l9 = (rst q5 L).length := ⟨_, rfl⟩
                  rw [← hl9] at C20 C21
                  have bl9 : ((l9 : Int) == (l9 : Int)) = true := by simp
                  have hl92 : l9 ≤ 256 := by rw [hl9]; have h1 := ht3.a.gd.len; have h2 := ht3.a.gd.r1; omega
                  clear hl9 ht3
                  go_wp2_with (first | (go_at_call 20; ((with_reducible refine C20.out.mono ?_); rintro e w8 ⟨rfl, rfl⟩)) | (go_at_call 20; ((with_reducible refine C21.out.mono ?_); rintro e w8 ⟨rfl, rfl⟩)))
                  go_ret
                  exact ⟨rfl, HBU.out⟩
      · have bm : decide ((k : Int) < (m : Int)) = false := by simp; omega
        obtain ⟨S, T, L, ht⟩ := hrel.out
        have HGD := Lib.hid ht.a.gd
        have C5 : Hid (∀ w, Calls Try.prog 10 #[.int .i64 d, .int .i64 501] w fun e w' => e = .returned (.int .i64 q5) ∧ w = w') := fun w => by rw [HQ5.out]; exact pick_any d 501 w HD.out (by omega) (by omega)
        have CS := Lib.hid (skip_any p 256 L S wr q5 ht.a hq5)
        have HT := Lib.hid ht
        clear ht hrel
        go_wp2_with (first | (go_at_call 10; ((with_reducible refine (C5.out _).mono ?_); rintro e w2 ⟨rfl, rfl⟩)) | (go_at_call 16; ((with_reducible refine CS.out.mono ?_); rintro e w3 ⟨va, rfl, hx3⟩; have H3 : Hid (St w w3 p q L q5 ((0 : Nat) : Int) va (.slice none 0 0) S T) := St.start HT.out hx3; clear hx3)))
        clear HT CS
        go_loopw [16, 17] (fun s t wx => ∃ (v : Value) (i : Nat), s = v ∧ t = .int .i64 i ∧ (i : Int) ≤ q5 ∧ Hid (St w wx p q L q5 i va v S T)) (fun _ t _ => 501 - (intOf t).toNat)
        case atStart => exact ⟨_, 0, rfl, rfl, by omega, H3⟩
        case round =>
          obtain ⟨v, i, hsv, rfl, hi, h4⟩ := hrel
          have hsv' := hsv.symm
          subst hsv'
          clear H3
          by_cases hiq : (i : Int) < q5
          · have biq : decide ((i : Int) < q5) = true := by simpa using hiq
            obtain ⟨m1, hm1⟩ : ∃ m1, m1 = (out i L).length := ⟨_, rfl⟩
            obtain ⟨m2, hm2⟩ : ∃ m2, m2 = (out 1 (rst i L)).length := ⟨_, rfl⟩
            have hm12 : m1 + m2 ≤ 256 := by
              have h1 := out_len ((i : Int) + 1) L
              rw [out_add (a := (i : Int)) HGD.out.srt (by omega), List.length_append, ← hm1, ← hm2] at h1
              have h2 := HGD.out.len
              omega
            have HM : Hid (m1 = (out i L).length ∧ m2 = (out 1 (rst i L)).length) := ⟨hm1, hm2⟩
            have CT : Hid (Calls Try.prog 14 #[.pointer (some ⟨q, 0, none⟩)] wr fun r w' => ∃ A4 c4, r = .returned (.slice A4 m2 c4) ∧ ExEnd wr T q 256 1 (rst i L) (.slice A4 m2 c4) w' ∧ w'.ownsRow 0 3 1 v m1 ((out i L).map (Value.int .i64)) ∧ Reads w' w'.heap.size 1 A4 m2 ((out 1 (rst i L)).map (Value.int .i64))) := by
              refine (tick_any q 256 (rst i L) T wr h4.out.tw.b).mono ?_
              rintro e w5 ⟨v5, rfl, hx⟩
              obtain ⟨A4, c4, e4, _⟩ := hx.1.slice
              rw [← hm2] at e4
              subst e4
              refine ⟨A4, c4, rfl, hx, ?_, ?_⟩
              · have := h4.out.ao.ov.but hx.2.2.1 (fun k e ht => h4.out.ao.t k e ht)
                unfold Ov at this; rw [← hm1] at this; exact this
              · have := hx.1
                unfold Ov at this; rw [← hm2] at this; exact Reads.of_own this
            have HSTEP : Hid (∀ A4 c4 w4 A5 c5 w5, ExEnd wr T q 256 1 (rst i L) (.slice A4 m2 c4) w4 → w5.ownsRow 0 3 1 (.slice A5 (m1 + m2) c5) (m1 + m2) ((out i L).map (Value.int .i64) ++ (out 1 (rst i L)).map (Value.int .i64)) → w4.grownBy w5 v.ownBlock → ((Value.slice A5 (m1 + m2) c5).ownBlock = v.ownBlock ∨ (Value.slice A5 (m1 + m2) c5).ownBlock = some w4.heap.size) → St w w5 p q L q5 ((i + 1 : Nat) : Int) va (.slice A5 (m1 + m2) c5) S T) := by
              intro A4 c4 w4 A5 c5 w5 hx ho hg hat
              refine h4.out.tick hx ?_ hg hat
              unfold Ov; rw [List.length_append, List.map_append, ← hm1, ← hm2]; exact ho
            have H1C : Hid (∀ u ∈ (out 1 (rst i L)).map (Value.int .i64), u.oneCell' = true) := by
              intro u hu
              obtain ⟨z, _, rfl⟩ := List.mem_map.1 hu
              rfl
            clear hm1 hm2 h4
            go_wp2_with (first | (go_at_call 14; ((with_reducible refine CT.out.mono ?_); rintro e w4 ⟨A4, c4, rfl, hx4, hr4, hd4⟩; have HX4 := Lib.hid hx4; have HR4 := Lib.hid hr4; have HD4 := Lib.hid hd4; clear hx4 hr4 hd4)) | (at_builtin; refine wpList_append_sh _ rfl _ _ 35 rfl 3 i0 _ 1 8 Try.underlying35 I0.out.1 I0.out.2.1 I0.out.2.2.1 I0.out.2.2.2 rfl (by omega) v m1 _ rfl HR4.out w4.heap.size A4 m2 c4 _ rfl HD4.out H1C.out (by unfold maxLen; omega) (by omega) ?_; intro A5 c5 w5 hown5 hgrow5 hat5; have HS5 := Lib.hid (HSTEP.out A4 c4 w4 A5 c5 w5 HX4.out hown5 hgrow5 hat5); clear hown5 hgrow5 hat5))
            go_roundw
            case rel => exact ⟨_, i + 1, rfl, by go_num, by omega, HS5⟩
            case measure => simp [intOf]; omega
          · have biq : decide ((i : Int) < q5) = false := by simpa using hiq
            have hie : (i : Int) = q5 := by omega
            have H5 : Hid (St w wr p q L q5 q5 va v S T) := by have := h4.out; rw [hie] at this; exact this
            obtain ⟨A1, c1, ea, _⟩ := H5.out.aa.ov.slice
            obtain ⟨A2, c2, eo, _⟩ := H5.out.ao.ov.slice
            have HL256 : Hid ((out q5 L).length ≤ 256) := by have h1 := out_len q5 L; have h2 := HGD.out.len; show _ ≤ _; omega
            have CN : Hid (Calls Try.prog 13 #[va, v] wr fun e w' => e = .returned (.bool true) ∧ Rel3 w w' p q (rst q5 L)) := by
              rw [ea, eo]
              have h1 := H5.out.aa.ov
              have h2 := H5.out.ao.ov
              rw [ea] at h1
              rw [eo] at h2
              have hl := HL256.out
              have := numbers_any A1 A2 _ _ c1 c2 _ _ wr (h1.rl (by omega)).1 (h2.rl (by omega)).1
              simp only [decide_true] at this
              exact this.mono fun e w' ⟨h1, h2⟩ => ⟨h1, S, T, H5.out.tw.no h2⟩
            clear h4 hie ea eo H5
            go_wp2_with (first | (go_at_call 13; ((with_reducible refine CN.out.mono ?_); rintro e w6 ⟨rfl, h6⟩; have H6 := Lib.hid h6; clear h6)))
            go_loopw [19] (fun t wx => ∃ (j : Nat), t = .int .i64 j ∧ j ≤ n ∧ j ≤ 100 ∧ Hid (Rel3 w wx p q (rst q5 L))) (fun t _ => n - (intOf t).toNat)
            case atStart => exact ⟨0, rfl, by omega, by omega, H6⟩
            case round =>
              obtain ⟨j, rfl, hj, hj1, h3⟩ := hrel
              clear H6
              by_cases hjn : j < n
              · have bjn : (j : Int) < (n : Int) := by omega
                by_cases hj2 : j < 100
                · have bj2 : (j : Int) < 100 := by omega
                  obtain ⟨S3, T3, ht3⟩ := h3.out
                  obtain ⟨eb, eoff, hA, hbl, hc⟩ := (HZ.out.no ht3.but).at_ (by omega)
                  have hck := hc j hjn
                  generalize zs.getD j 0 = z at hck
                  have CA : Hid (∀ m, Calls Try.prog 21 #[.pointer (some ⟨p, 0, none⟩), .int .i64 z] (wr.drewN m) fun r w' => r = .returned (.int .i64 (lft (rst q5 L) z)) ∧ w' = wr.drewN m) := fun m => left_any p 256 _ S3 _ z (ht3.a.no ((But.refl No wr).drewN m))
                  have CB : Hid (∀ m, Calls Try.prog 21 #[.pointer (some ⟨q, 0, none⟩), .int .i64 z] (wr.drewN m) fun r w' => r = .returned (.int .i64 (lft (rst q5 L) z)) ∧ w' = wr.drewN m) := fun m => left_any q 256 _ T3 _ z (ht3.b.no ((But.refl No wr).drewN m))
                  have HNX : Hid (∀ m, Rel3 w (wr.drewN m) p q (rst q5 L)) := fun m => ⟨S3, T3, ht3.no ((But.refl No wr).drewN m)⟩
                  generalize lft (rst q5 L) z = y at CA CB
                  have by_ : (y != y) = false := by simp
                  subst hA
                  clear ht3 hc hbl h3
                  go_wp2_with fail
                  go_quiet (first | (go_at_call 21; with_reducible exact Calls.quiet_of_same (CA.out _)) | (go_at_call 21; with_reducible exact Calls.quiet_of_same (CB.out _)))
                  go_wp2
                  go_roundw
                  case rel => exact ⟨j + 1, by go_num, by omega, by omega, HNX.out _⟩
                  case measure => simp [intOf]; omega
                · have bj2 : decide ((j : Int) < 100) = false := by simp; omega
                  obtain ⟨S3, T3, ht3⟩ := h3.out
                  have C20 : Hid (Calls Try.prog 20 #[.pointer (some ⟨p, 0, none⟩)] wr fun r w' => r = .returned (.int .i64 (rst q5 L).length) ∧ w' = wr) := len_any p 256 _ S3 wr ht3.a
                  have C21 : Hid (Calls Try.prog 20 #[.pointer (some ⟨q, 0, none⟩)] wr fun r w' => r = .returned (.int .i64 (rst q5 L).length) ∧ w' = wr) := len_any q 256 _ T3 wr ht3.b
                  have HBU := Lib.hid ht3.but
                  obtain ⟨l9, hl9⟩ : ∃ l9, l9 = (rst q5 L).length := ⟨_, rfl⟩
                  rw [← hl9] at C20 C21
                  have bl9 : ((l9 : Int) == (l9 : Int)) = true := by simp
                  have hl92 : l9 ≤ 256 := by rw [hl9]; have h1 := ht3.a.gd.len; have h2 := ht3.a.gd.r1; omega
                  clear hl9 ht3
                  go_wp2_with (first | (go_at_call 20; ((with_reducible refine C20.out.mono ?_); rintro e w8 ⟨rfl, rfl⟩)) | (go_at_call 20; ((with_reducible refine C21.out.mono ?_); rintro e w8 ⟨rfl, rfl⟩)))
                  go_ret
                  exact ⟨rfl, HBU.out⟩
              · have bjn : decide ((j : Int) < (n : Int)) = false := by simp; omega
                obtain ⟨S3, T3, ht3⟩ := h3.out
                have C20 : Hid (Calls Try.prog 20 #[.pointer (some ⟨p, 0, none⟩)] wr fun r w' => r = .returned (.int .i64 (rst q5 L).length) ∧ w' = wr) := len_any p 256 _ S3 wr ht3.a
                have C21 : Hid (Calls Try.prog 20 #[.pointer (some ⟨q, 0, none⟩)] wr fun r w' => r = .returned (.int .i64 (rst q5 L).length) ∧ w' = wr) := len_any q 256 _ T3 wr ht3.b
                have HBU := Lib.hid ht3.but
                obtain ⟨l9, hl9⟩ : ∃ l9, l9 = (rst q5 L).length := ⟨_, rfl⟩
                rw [← hl9] at C20 C21
                have bl9 : ((l9 : Int) == (l9 : Int)) = true := by simp
                have hl92 : l9 ≤ 256 := by rw [hl9]; have h1 := ht3.a.gd.len; have h2 := ht3.a.gd.r1; omega
                clear hl9 ht3
                go_wp2_with (first | (go_at_call 20; ((with_reducible refine C20.out.mono ?_); rintro e w8 ⟨rfl, rfl⟩)) | (go_at_call 20; ((with_reducible refine C21.out.mono ?_); rintro e w8 ⟨rfl, rfl⟩)))
                go_ret
                exact ⟨rfl, HBU.out⟩
    · have bn : decide ((k : Int) < (n : Int)) = false := by simp; omega
      obtain ⟨S, T, L, ht⟩ := hrel.out
      have HGD := Lib.hid ht.a.gd
      have C5 : Hid (∀ w, Calls Try.prog 10 #[.int .i64 d, .int .i64 501] w fun e w' => e = .returned (.int .i64 q5) ∧ w = w') := fun w => by rw [HQ5.out]; exact pick_any d 501 w HD.out (by omega) (by omega)
      have CS := Lib.hid (skip_any p 256 L S wr q5 ht.a hq5)
      have HT := Lib.hid ht
      clear ht hrel
      go_wp2_with (first | (go_at_call 10; ((with_reducible refine (C5.out _).mono ?_); rintro e w2 ⟨rfl, rfl⟩)) | (go_at_call 16; ((with_reducible refine CS.out.mono ?_); rintro e w3 ⟨va, rfl, hx3⟩; have H3 : Hid (St w w3 p q L q5 ((0 : Nat) : Int) va (.slice none 0 0) S T) := St.start HT.out hx3; clear hx3)))
      clear HT CS
      go_loopw [16, 17] (fun s t wx => ∃ (v : Value) (i : Nat), s = v ∧ t = .int .i64 i ∧ (i : Int) ≤ q5 ∧ Hid (St w wx p q L q5 i va v S T)) (fun _ t _ => 501 - (intOf t).toNat)
      case atStart => exact ⟨_, 0, rfl, rfl, by omega, H3⟩
      case round =>
        obtain ⟨v, i, hsv, rfl, hi, h4⟩ := hrel
        have hsv' := hsv.symm
        subst hsv'
        clear H3
        by_cases hiq : (i : Int) < q5
        · have biq : decide ((i : Int) < q5) = true := by simpa using hiq
          obtain ⟨m1, hm1⟩ : ∃ m1, m1 = (out i L).length := ⟨_, rfl⟩
          obtain ⟨m2, hm2⟩ : ∃ m2, m2 = (out 1 (rst i L)).length := ⟨_, rfl⟩
          have hm12 : m1 + m2 ≤ 256 := by
            have h1 := out_len ((i : Int) + 1) L
            rw [out_add (a := (i : Int)) HGD.out.srt (by omega), List.length_append, ← hm1, ← hm2] at h1
            have h2 := HGD.out.len
            omega
          have HM : Hid (m1 = (out i L).length ∧ m2 = (out 1 (rst i L)).length) := ⟨hm1, hm2⟩
          have CT : Hid (Calls Try.prog 14 #[.pointer (some ⟨q, 0, none⟩)] wr fun r w' => ∃ A4 c4, r = .returned (.slice A4 m2 c4) ∧ ExEnd wr T q 256 1 (rst i L) (.slice A4 m2 c4) w' ∧ w'.ownsRow 0 3 1 v m1 ((out i L).map (Value.int .i64)) ∧ Reads w' w'.heap.size 1 A4 m2 ((out 1 (rst i L)).map (Value.int .i64))) := by
            refine (tick_any q 256 (rst i L) T wr h4.out.tw.b).mono ?_
            rintro e w5 ⟨v5, rfl, hx⟩
            obtain ⟨A4, c4, e4, _⟩ := hx.1.slice
            rw [← hm2] at e4
            subst e4
            refine ⟨A4, c4, rfl, hx, ?_, ?_⟩
            · have := h4.out.ao.ov.but hx.2.2.1 (fun k e ht => h4.out.ao.t k e ht)
              unfold Ov at this; rw [← hm1] at this; exact this
            · have := hx.1
              unfold Ov at this; rw [← hm2] at this; exact Reads.of_own this
          have HSTEP : Hid (∀ A4 c4 w4 A5 c5 w5, ExEnd wr T q 256 1 (rst i L) (.slice A4 m2 c4) w4 → w5.ownsRow 0 3 1 (.slice A5 (m1 + m2) c5) (m1 + m2) ((out i L).map (Value.int .i64) ++ (out 1 (rst i L)).map (Value.int .i64)) → w4.grownBy w5 v.ownBlock → ((Value.slice A5 (m1 + m2) c5).ownBlock = v.ownBlock ∨ (Value.slice A5 (m1 + m2) c5).ownBlock = some w4.heap.size) → St w w5 p q L q5 ((i + 1 : Nat) : Int) va (.slice A5 (m1 + m2) c5) S T) := by
            intro A4 c4 w4 A5 c5 w5 hx ho hg hat
            refine h4.out.tick hx ?_ hg hat
            unfold Ov; rw [List.length_append, List.map_append, ← hm1, ← hm2]; exact ho
          have H1C : Hid (∀ u ∈ (out 1 (rst i L)).map (Value.int .i64), u.oneCell' = true) := by
            intro u hu
            obtain ⟨z, _, rfl⟩ := List.mem_map.1 hu
            rfl
          clear hm1 hm2 h4
          go_wp2_with (first | (go_at_call 14; ((with_reducible refine CT.out.mono ?_); rintro e w4 ⟨A4, c4, rfl, hx4, hr4, hd4⟩; have HX4 := Lib.hid hx4; have HR4 := Lib.hid hr4; have HD4 := Lib.hid hd4; clear hx4 hr4 hd4)) | (at_builtin; refine wpList_append_sh _ rfl _ _ 35 rfl 3 i0 _ 1 8 Try.underlying35 I0.out.1 I0.out.2.1 I0.out.2.2.1 I0.out.2.2.2 rfl (by omega) v m1 _ rfl HR4.out w4.heap.size A4 m2 c4 _ rfl HD4.out H1C.out (by unfold maxLen; omega) (by omega) ?_; intro A5 c5 w5 hown5 hgrow5 hat5; have HS5 := Lib.hid (HSTEP.out A4 c4 w4 A5 c5 w5 HX4.out hown5 hgrow5 hat5); clear hown5 hgrow5 hat5))
          go_roundw
          case rel => exact ⟨_, i + 1, rfl, by go_num, by omega, HS5⟩
          case measure => simp [intOf]; omega
        · have biq : decide ((i : Int) < q5) = false := by simpa using hiq
          have hie : (i : Int) = q5 := by omega
          have H5 : Hid (St w wr p q L q5 q5 va v S T) := by have := h4.out; rw [hie] at this; exact this
          obtain ⟨A1, c1, ea, _⟩ := H5.out.aa.ov.slice
          obtain ⟨A2, c2, eo, _⟩ := H5.out.ao.ov.slice
          have HL256 : Hid ((out q5 L).length ≤ 256) := by have h1 := out_len q5 L; have h2 := HGD.out.len; show _ ≤ _; omega
          have CN : Hid (Calls Try.prog 13 #[va, v] wr fun e w' => e = .returned (.bool true) ∧ Rel3 w w' p q (rst q5 L)) := by
            rw [ea, eo]
            have h1 := H5.out.aa.ov
            have h2 := H5.out.ao.ov
            rw [ea] at h1
            rw [eo] at h2
            have hl := HL256.out
            have := numbers_any A1 A2 _ _ c1 c2 _ _ wr (h1.rl (by omega)).1 (h2.rl (by omega)).1
            simp only [decide_true] at this
            exact this.mono fun e w' ⟨h1, h2⟩ => ⟨h1, S, T, H5.out.tw.no h2⟩
          clear h4 hie ea eo H5
          go_wp2_with (first | (go_at_call 13; ((with_reducible refine CN.out.mono ?_); rintro e w6 ⟨rfl, h6⟩; have H6 := Lib.hid h6; clear h6)))
          go_loopw [19] (fun t wx => ∃ (j : Nat), t = .int .i64 j ∧ j ≤ n ∧ j ≤ 100 ∧ Hid (Rel3 w wx p q (rst q5 L))) (fun t _ => n - (intOf t).toNat)
          case atStart => exact ⟨0, rfl, by omega, by omega, H6⟩
          case round =>
            obtain ⟨j, rfl, hj, hj1, h3⟩ := hrel
            clear H6
            by_cases hjn : j < n
            · have bjn : (j : Int) < (n : Int) := by omega
              by_cases hj2 : j < 100
              · have bj2 : (j : Int) < 100 := by omega
                obtain ⟨S3, T3, ht3⟩ := h3.out
                obtain ⟨eb, eoff, hA, hbl, hc⟩ := (HZ.out.no ht3.but).at_ (by omega)
                have hck := hc j hjn
                generalize zs.getD j 0 = z at hck
                have CA : Hid (∀ m, Calls Try.prog 21 #[.pointer (some ⟨p, 0, none⟩), .int .i64 z] (wr.drewN m) fun r w' => r = .returned (.int .i64 (lft (rst q5 L) z)) ∧ w' = wr.drewN m) := fun m => left_any p 256 _ S3 _ z (ht3.a.no ((But.refl No wr).drewN m))
                have CB : Hid (∀ m, Calls Try.prog 21 #[.pointer (some ⟨q, 0, none⟩), .int .i64 z] (wr.drewN m) fun r w' => r = .returned (.int .i64 (lft (rst q5 L) z)) ∧ w' = wr.drewN m) := fun m => left_any q 256 _ T3 _ z (ht3.b.no ((But.refl No wr).drewN m))
                have HNX : Hid (∀ m, Rel3 w (wr.drewN m) p q (rst q5 L)) := fun m => ⟨S3, T3, ht3.no ((But.refl No wr).drewN m)⟩
                generalize lft (rst q5 L) z = y at CA CB
                have by_ : (y != y) = false := by simp
                subst hA
                clear ht3 hc hbl h3
                go_wp2_with fail
                go_quiet (first | (go_at_call 21; with_reducible exact Calls.quiet_of_same (CA.out _)) | (go_at_call 21; with_reducible exact Calls.quiet_of_same (CB.out _)))
                go_wp2
                go_roundw
                case rel => exact ⟨j + 1, by go_num, by omega, by omega, HNX.out _⟩
                case measure => simp [intOf]; omega
              · have bj2 : decide ((j : Int) < 100) = false := by simp; omega
                obtain ⟨S3, T3, ht3⟩ := h3.out
                have C20 : Hid (Calls Try.prog 20 #[.pointer (some ⟨p, 0, none⟩)] wr fun r w' => r = .returned (.int .i64 (rst q5 L).length) ∧ w' = wr) := len_any p 256 _ S3 wr ht3.a
                have C21 : Hid (Calls Try.prog 20 #[.pointer (some ⟨q, 0, none⟩)] wr fun r w' => r = .returned (.int .i64 (rst q5 L).length) ∧ w' = wr) := len_any q 256 _ T3 wr ht3.b
                have HBU := Lib.hid ht3.but
                obtain ⟨l9, hl9⟩ : ∃ l9, l9 = (rst q5 L).length := ⟨_, rfl⟩
                rw [← hl9] at C20 C21
                have bl9 : ((l9 : Int) == (l9 : Int)) = true := by simp
                have hl92 : l9 ≤ 256 := by rw [hl9]; have h1 := ht3.a.gd.len; have h2 := ht3.a.gd.r1; omega
                clear hl9 ht3
                go_wp2_with (first | (go_at_call 20; ((with_reducible refine C20.out.mono ?_); rintro e w8 ⟨rfl, rfl⟩)) | (go_at_call 20; ((with_reducible refine C21.out.mono ?_); rintro e w8 ⟨rfl, rfl⟩)))
                go_ret
                exact ⟨rfl, HBU.out⟩
            · have bjn : decide ((j : Int) < (n : Int)) = false := by simp; omega
              obtain ⟨S3, T3, ht3⟩ := h3.out
              have C20 : Hid (Calls Try.prog 20 #[.pointer (some ⟨p, 0, none⟩)] wr fun r w' => r = .returned (.int .i64 (rst q5 L).length) ∧ w' = wr) := len_any p 256 _ S3 wr ht3.a
              have C21 : Hid (Calls Try.prog 20 #[.pointer (some ⟨q, 0, none⟩)] wr fun r w' => r = .returned (.int .i64 (rst q5 L).length) ∧ w' = wr) := len_any q 256 _ T3 wr ht3.b
              have HBU := Lib.hid ht3.but
              obtain ⟨l9, hl9⟩ : ∃ l9, l9 = (rst q5 L).length := ⟨_, rfl⟩
              rw [← hl9] at C20 C21
              have bl9 : ((l9 : Int) == (l9 : Int)) = true := by simp
              have hl92 : l9 ≤ 256 := by rw [hl9]; have h1 := ht3.a.gd.len; have h2 := ht3.a.gd.r1; omega
              clear hl9 ht3
              go_wp2_with (first | (go_at_call 20; ((with_reducible refine C20.out.mono ?_); rintro e w8 ⟨rfl, rfl⟩)) | (go_at_call 20; ((with_reducible refine C21.out.mono ?_); rintro e w8 ⟨rfl, rfl⟩)))
              go_ret
              exact ⟨rfl, HBU.out⟩
end Go.Proofs.Ytfejnokljddomaa.deltaSkips
