/- The contract of Send. -/
import Derived.Test.YtmfjlfemeihchaaC4
namespace Go.Proofs.Ytmfjlfemeihchaa
open Go.ChangeShapes Go.WideShapes Go.ChangeAt Go.RowKit Go.Deep
def inB (C c t now : Int) : Prop := 0 ≤ c ∧ c < C ∧ 0 ≤ t ∧ t < 24 ∧ 0 ≤ now ∧ now ≤ 9007199254740991
instance (C c t now : Int) : Decidable (inB C c t now) := by unfold inB; infer_instance
/-- Whether a note is taken in. -/
def okS (C : Int) (L : List Nt) (c t now : Int) : Bool := decide (inB C c t now) && (fnd L c t).isNone
def sent (C : Int) (T : Nat) (L : List Nt) (c t now l : Int) : List Nt := if okS C L c t now = true then L ++ [⟨c, t, now + wi l, ((T + 1 : Nat) : Int)⟩] else L
def turnS (C : Int) (T : Nat) (L : List Nt) (c t now : Int) : Nat := if okS C L c t now = true then T + 1 else T
theorem okS_out {C : Int} {L : List Nt} {c t now : Int} (h : ¬ inB C c t now) : okS C L c t now = false := by unfold okS; simp [h]
theorem okS_there {C : Int} {L : List Nt} {c t now : Int} {n : Nt} (h : fnd L c t = some n) : okS C L c t now = false := by unfold okS; simp [h]
theorem okS_in {C : Int} {L : List Nt} {c t now : Int} (h : inB C c t now) (e : fnd L c t = none) : okS C L c t now = true := by unfold okS; simp [h, e]
/-- What a call of Send leaves. -/
def SdEnd (w : World) (p m : Nat) (C : Int) (T : Nat) (L : List Nt) (c t now l : Int) (w' : World) : Prop :=
  BP w' p m C (turnS C T L c t now) (sent C T L c t now l) ∧ But (Own p m) w w'
theorem sd_none {w w' : World} {p m : Nat} {C : Int} {T : Nat} {L : List Nt} {c t now l : Int} (h : BP w p m C T L) (e : okS C L c t now = false) (hb : But No w w') : SdEnd w p m C T L c t now l w' := by
  unfold SdEnd turnS sent
  rw [e]
  exact ⟨h.no hb, hb.no⟩
set_option maxHeartbeats 4000000 in
set_option maxRecDepth 100000 in
theorem send_out (p m : Nat) (C : Int) (T : Nat) (L : List Nt) (c t now l : Int) (w : World) (h : BP w p m C T L) (hn : ¬ inB C c t now) :
    Calls Try.prog 10 #[.pointer (some ⟨p, 0, none⟩), .int .i64 c, .int .i64 t, .int .i64 now, .int .i64 l] w fun r w' => r = .returned (.bool (okS C L c t now)) ∧ SdEnd w p m C T L c t now l w' := by
  have HF : Hid (SdEnd w p m C T L c t now l w) := sd_none h (okS_out hn) (But.refl _ _)
  rw [okS_out hn]
  have d0 : w.cell? ⟨p, 0, none⟩ = some (.int .i64 C) := h.hp.cell (o := 0) rfl
  have CH := Lib.hid (has_any p C c w d0)
  have CT := Lib.hid (isTask_any t w)
  unfold inB at hn
  by_cases h1 : 0 ≤ c ∧ c < C
  · have e1 : decide (0 ≤ c ∧ c < C) = true := by simpa using h1
    rw [e1] at CH
    by_cases h2 : 0 ≤ t ∧ t < 24
    · have e2 : decide (0 ≤ t ∧ t < 24) = true := by simpa using h2
      rw [e2] at CT
      by_cases h3 : now < 0
      · have e3 : decide (now < 0) = true := by simpa using h3
        clear h hn h1 h2 h3 e1 e2 d0
        go_enter Try.func10, Try.ntmps10
        go_wp2_with (first | (go_at_call 18; ((with_reducible refine CH.out.mono ?_); rintro e w2 ⟨rfl, hw2⟩; subst hw2)) | (go_at_call 19; ((with_reducible refine CT.out.mono ?_); rintro e w2 ⟨rfl, hw2⟩; subst hw2)))
        go_ret
        exact ⟨rfl, HF.out⟩
      · have e3 : decide (now < 0) = false := by simpa using h3
        have e4 : decide ((9007199254740991 : Int) < now) = true := by simp; omega
        clear h hn h1 h2 h3 e1 e2 d0
        go_enter Try.func10, Try.ntmps10
        go_wp2_with (first | (go_at_call 18; ((with_reducible refine CH.out.mono ?_); rintro e w2 ⟨rfl, hw2⟩; subst hw2)) | (go_at_call 19; ((with_reducible refine CT.out.mono ?_); rintro e w2 ⟨rfl, hw2⟩; subst hw2)))
        go_ret
        exact ⟨rfl, HF.out⟩
    · have e2 : decide (0 ≤ t ∧ t < 24) = false := by simpa using h2
      rw [e2] at CT
      clear h hn h1 h2 e1 e2 d0
      go_enter Try.func10, Try.ntmps10
      go_wp2_with (first | (go_at_call 18; ((with_reducible refine CH.out.mono ?_); rintro e w2 ⟨rfl, hw2⟩; subst hw2)) | (go_at_call 19; ((with_reducible refine CT.out.mono ?_); rintro e w2 ⟨rfl, hw2⟩; subst hw2)))
      go_ret
      exact ⟨rfl, HF.out⟩
  · have e1 : decide (0 ≤ c ∧ c < C) = false := by simpa using h1
    rw [e1] at CH
    clear h hn h1 e1 d0
    go_enter Try.func10, Try.ntmps10
    go_wp2_with (first | (go_at_call 18; ((with_reducible refine CH.out.mono ?_); rintro e w2 ⟨rfl, hw2⟩; subst hw2)) | (go_at_call 19; ((with_reducible refine CT.out.mono ?_); rintro e w2 ⟨rfl, hw2⟩; subst hw2)))
    go_ret
    exact ⟨rfl, HF.out⟩
set_option maxHeartbeats 4000000 in
set_option maxRecDepth 100000 in
theorem send_there (p m : Nat) (C : Int) (T : Nat) (L : List Nt) (c t now l : Int) (w : World) (h : BP w p m C T L) (hn : inB C c t now) (n : Nt) (hf : fnd L c t = some n) :
    Calls Try.prog 10 #[.pointer (some ⟨p, 0, none⟩), .int .i64 c, .int .i64 t, .int .i64 now, .int .i64 l] w fun r w' => r = .returned (.bool (okS C L c t now)) ∧ SdEnd w p m C T L c t now l w' := by
  have HF : Hid (∀ w', But No w w' → SdEnd w p m C T L c t now l w') := fun w' hb => sd_none h (okS_there hf) hb
  rw [okS_there hf]
  have d0 : w.cell? ⟨p, 0, none⟩ = some (.int .i64 C) := h.hp.cell (o := 0) rfl
  have hc8 := h.gd.c8
  have CH := Lib.hid (has_any p C c w d0)
  have CT := Lib.hid (isTask_any t w)
  unfold inB at hn
  rw [show decide (0 ≤ c ∧ c < C) = true by simp; omega] at CH
  rw [show decide (0 ≤ t ∧ t < 24) = true by simp; omega] at CT
  have e3 : decide (now < 0) = false := by simp; omega
  have e4 : decide ((9007199254740991 : Int) < now) = false := by simp; omega
  obtain ⟨wk, hwk⟩ : ∃ wk, w.alloc (.cells #[.int .i64 c, .int .i64 t] 48) = wk := ⟨_, rfl⟩
  have HW := Lib.hid hwk
  have HB : Hid (But No w wk) := by rw [← hwk]; exact (But.refl No w).alloc _
  have HK := Lib.hid (h.no HB.out)
  have d2 : wk.cell? ⟨p, 2, none⟩ = some (.map (some m)) := HK.out.hp.cell (o := 2) rfl
  have k0 : wk.cell? ⟨w.heap.size, 0, none⟩ = some (.int .i64 c) := by rw [← hwk]; exact (Blk.new w _ _).cell (o := 0) rfl
  have k1 : wk.cell? ⟨w.heap.size, 1, none⟩ = some (.int .i64 t) := by rw [← hwk]; exact (Blk.new w _ _).cell (o := 1) rfl
  have HR : Hid (∀ W, But No wk W → (Instr.lookup 40 (.map (some m)) (keyV c t) true).run Try.prog W = .ok (.tuple #[noteV n.task n.due n.turn, .bool true]) W) := by
    intro W hb
    have := (HK.out.no hb).look (c := c) (t := t) (by unfold inR; omega) (by unfold inR; omega)
    rw [hf] at this; exact this
  obtain ⟨nc, nt, nd, nn⟩ := n
  have hr := HR.out wk (But.refl _ _)
  have hr1 := HR.out wk.drew (But.refl _ _).drew
  have hr2 := HR.out (wk.alloc (.cells #[.int .i64 0, .int .i64 0, .int .i64 0] 50)).drew ((But.refl _ _).alloc _).drew
  have lt1 : w.heap.size < wk.heap.size := by rw [← hwk, size_alloc1]; omega
  have lt2 : ¬ wk.heap.size = w.heap.size := by omega
  have lt3 : ¬ w.heap.size = wk.heap.size := by omega
  have k0' := cell_keep k0 (((But.refl No wk).alloc (.cells #[.int .i64 0, .int .i64 0, .int .i64 0] 50)).drew)
  have k1' := cell_keep k1 (((But.refl No wk).alloc (.cells #[.int .i64 0, .int .i64 0, .int .i64 0] 50)).drew)
  have d2' := cell_keep d2 (((But.refl No wk).alloc (.cells #[.int .i64 0, .int .i64 0, .int .i64 0] 50)).drew)
  dsimp only at hr hr1 hr2
  clear h hn hf hc8 d0 hwk
  go_enter Try.func10, Try.ntmps10
  go_wp2_with (first | (go_at_call 18; ((with_reducible refine CH.out.mono ?_); rintro e w2 ⟨rfl, hw2⟩; subst hw2)) | (go_at_call 19; ((with_reducible refine CT.out.mono ?_); rintro e w2 ⟨rfl, hw2⟩; subst hw2)))
  rw [HW.out]
  have HFE := Lib.hid (HF.out _ ((HB.out.alloc (.cells #[.int .i64 nt, .int .i64 nd, .int .i64 nn] 50)).drew))
  clear HF HB HK HR
  go_region
  all_goals (go_wp2; go_ret; exact ⟨rfl, HFE.out⟩)
set_option maxHeartbeats 4000000 in
set_option maxRecDepth 100000 in
theorem send_ok (p m : Nat) (C : Int) (T : Nat) (L : List Nt) (c t now l : Int) (w : World) (h : BP w p m C T L) (hT : T ≤ 1000) (hn : inB C c t now) (hf : fnd L c t = none) :
    Calls Try.prog 10 #[.pointer (some ⟨p, 0, none⟩), .int .i64 c, .int .i64 t, .int .i64 now, .int .i64 l] w fun r w' => r = .returned (.bool (okS C L c t now)) ∧ SdEnd w p m C T L c t now l w' := by
  have hok := okS_in hn hf
  have HOK := Lib.hid hok
  rw [hok]
  have d0 : w.cell? ⟨p, 0, none⟩ = some (.int .i64 C) := h.hp.cell (o := 0) rfl
  have hc8 := h.gd.c8
  have CH := Lib.hid (has_any p C c w d0)
  have CT := Lib.hid (isTask_any t w)
  unfold inB at hn
  rw [show decide (0 ≤ c ∧ c < C) = true by simp; omega] at CH
  rw [show decide (0 ≤ t ∧ t < 24) = true by simp; omega] at CT
  have HG : Hid (Gd C (T + 1) (L ++ [⟨c, t, now + wi l, ((T + 1 : Nat) : Int)⟩])) := h.gd.snoc (by omega) (by omega) (by omega) hf
  have HIC : Hid (inR c ∧ inR t) := ⟨by unfold inR; omega, by unfold inR; omega⟩
  have HFN : Hid (fnd (L ++ [⟨c, t, now + wi l, ((T + 1 : Nat) : Int)⟩]) c t = some ⟨c, t, now + wi l, ((T + 1 : Nat) : Int)⟩ ∧ ∀ a b, ¬ (a = c ∧ b = t) → fnd (L ++ [⟨c, t, now + wi l, ((T + 1 : Nat) : Int)⟩]) a b = fnd L a b) := by
    refine ⟨by rw [fnd_append, hf]; simp, fun a b hne => ?_⟩
    rw [fnd_append]
    cases e : fnd L a b with
    | some n => rfl
    | none =>
      show (if c = a ∧ t = b then _ else none) = none
      rw [if_neg (fun e' => hne ⟨e'.1.symm, e'.2.symm⟩)]
  have e3 : decide (now < 0) = false := by simp; omega
  have e4 : decide ((9007199254740991 : Int) < now) = false := by simp; omega
  obtain ⟨wk, hwk⟩ : ∃ wk, w.alloc (.cells #[.int .i64 c, .int .i64 t] 48) = wk := ⟨_, rfl⟩
  have HW := Lib.hid hwk
  have HB : Hid (But No w wk) := by rw [← hwk]; exact (But.refl No w).alloc _
  have HK := Lib.hid (h.no HB.out)
  have d2 : wk.cell? ⟨p, 2, none⟩ = some (.map (some m)) := HK.out.hp.cell (o := 2) rfl
  have k0 : wk.cell? ⟨w.heap.size, 0, none⟩ = some (.int .i64 c) := by rw [← hwk]; exact (Blk.new w _ _).cell (o := 0) rfl
  have k1 : wk.cell? ⟨w.heap.size, 1, none⟩ = some (.int .i64 t) := by rw [← hwk]; exact (Blk.new w _ _).cell (o := 1) rfl
  have HR : Hid (∀ W, But No wk W → (Instr.lookup 40 (.map (some m)) (keyV c t) true).run Try.prog W = .ok (.tuple #[noteV 0 0 0, .bool false]) W) := by
    intro W hb
    have := (HK.out.no hb).look HIC.out.1 HIC.out.2
    rw [hf] at this; exact this
  have hr := HR.out wk (But.refl _ _)
  have hr1 := HR.out wk.drew (But.refl _ _).drew
  have hr2 := HR.out (wk.alloc (.cells #[.int .i64 0, .int .i64 0, .int .i64 0] 50)).drew ((But.refl _ _).alloc _).drew
  have lt1 : w.heap.size < wk.heap.size := by rw [← hwk, size_alloc1]; omega
  have lt2 : ¬ wk.heap.size = w.heap.size := by omega
  have lt3 : ¬ w.heap.size = wk.heap.size := by omega
  have k0' := cell_keep k0 (((But.refl No wk).alloc (.cells #[.int .i64 0, .int .i64 0, .int .i64 0] 50)).drew)
  have k1' := cell_keep k1 (((But.refl No wk).alloc (.cells #[.int .i64 0, .int .i64 0, .int .i64 0] 50)).drew)
  have d2' := cell_keep d2 (((But.refl No wk).alloc (.cells #[.int .i64 0, .int .i64 0, .int .i64 0] 50)).drew)
  have CW : Hid (∀ W, Calls Try.prog 20 #[.int .i64 l] W fun r w' => r = .returned (.int .i64 (wi l)) ∧ w' = W) := fun W => within_any l W
  have hwl := wi_rng l
  have HBP := Lib.hid h
  clear h hf hc8 d0 hwk hok
  go_enter Try.func10, Try.ntmps10
  go_wp2_with (first | (go_at_call 18; ((with_reducible refine CH.out.mono ?_); rintro e w2 ⟨rfl, hw2⟩; subst hw2)) | (go_at_call 19; ((with_reducible refine CT.out.mono ?_); rintro e w2 ⟨rfl, hw2⟩; subst hw2)))
  rw [HW.out]
  obtain ⟨wn, hwn⟩ : ∃ wn, (wk.alloc (.cells #[.int .i64 0, .int .i64 0, .int .i64 0] 50)).drew = wn := ⟨_, rfl⟩
  have HKN : Hid (BP wn p m C T L ∧ But No w2 wn) := by rw [← hwn]; exact ⟨HK.out.no (((But.refl _ _).alloc _).drew), (HB.out.alloc _).drew⟩
  have HWN := Lib.hid hwn
  clear hwn
  go_region
  all_goals (try rw [HWN.out])
  all_goals clear hr hr1 hr2 k0 k1 d2
  all_goals rw [HWN.out] at k0' k1' d2'
  all_goals clear HWN HB HK HR CH CT HW lt1 lt2 lt3
  all_goals
    have d1 : wn.cell? ⟨p, 1, none⟩ = some (.int .i64 T) := HKN.out.1.hp.cell (o := 1) rfl
    have f1 : wn.frozen? ⟨p, 1, none⟩ = false := HKN.out.1.hp.frozen 1
    have HPL : Hid (p < w2.heap.size ∧ m < w2.heap.size ∧ ¬ p = m) := by
      obtain ⟨D, q1, _⟩ := HBP.out.map
      exact ⟨HBP.out.lt p (.inl rfl), HBP.out.lt m (.inr rfl), HBP.out.hp.ne_map q1⟩
    obtain ⟨wt, hwt⟩ : ∃ wt, wn.setCell ⟨p, 1, none⟩ (.int .i64 (T + 1)) = wt := ⟨_, rfl⟩
    have HWT := Lib.hid hwt
    have HBT : Hid (But (Just p) wn wt) := by rw [← hwt]; exact (But.refl _ wn).setCell (p := ⟨p, 1, none⟩) (just p) _
    have HPT : Hid (Blk wt p #[.int .i64 C, .int .i64 (T + 1), .map (some m)] 42) := by rw [← hwt]; exact HKN.out.1.hp.set 1 _
    have t2 : wt.cell? ⟨p, 2, none⟩ = some (.map (some m)) := HPT.out.cell (o := 2) rfl
    have t1 : wt.cell? ⟨p, 1, none⟩ = some (.int .i64 (T + 1)) := HPT.out.cell (o := 1) rfl
    have t0' : wt.cell? ⟨w2.heap.size, 0, none⟩ = some (.int .i64 c) := by
      rw [HBT.out.cell (World.block_lt_of_cell? wn _ k0') (fun e => by have e' : w2.heap.size = p := e; have := HPL.out.1; omega)]; exact k0'
    have t1' : wt.cell? ⟨w2.heap.size, 1, none⟩ = some (.int .i64 t) := by
      rw [HBT.out.cell (World.block_lt_of_cell? wn _ k1') (fun e => by have e' : w2.heap.size = p := e; have := HPL.out.1; omega)]; exact k1'
    have HMT : Hid (∃ D, OM wt m T D ∧ MapIs (fnd L) D) := by
      obtain ⟨D, q1, q2⟩ := HKN.out.1.map
      exact ⟨D, q1.but HBT.out (fun e => HPL.out.2.2 e.symm), q2⟩
    clear hwt k0' k1' d2'
    go_wp2_with fail
    rw [HWT.out]
    clear d1 f1
    have wq : IntKind.i64.wrap (now + wi l) = now + wi l := by rw [IntKind.wrap_i64]; omega
    go_still_tail 15, (by kernel_rfl)
    still_call (CW.out _)
    repeat still_step
    refine wpStill_nil ?_
    obtain ⟨D, hD1, hD2⟩ := HMT.out
    have HD1 := Lib.hid hD1
    have HD2 := Lib.hid hD2
    clear hD1 hD2
    refine wpList_mapUpdate_in (H := Unit) _ rfl _ _ _ 40 rfl 48 50 keyed48 Try.underlying40 noteR m T D rfl (show OM wt.drew m T D from HD1.out) (by unfold maxLen; omega) _ _ (kl c t) rfl rfl (kl_is HIC.out.1 HIC.out.2) (nd t (now + wi l) (T + 1)) [] (noteR_mk _ _ _) ?_
    intro w5 hown ht5
    have HE : Hid (SdEnd w2 p m C T L c t now l w5) := by
      have hb : But (Just m) wt w5 := (But.refl _ wt).drew.turned ht5 (just m)
      unfold SdEnd turnS sent
      rw [if_pos HOK.out, if_pos HOK.out]
      refine ⟨⟨?_, ⟨_, hown, ?_⟩, HG.out⟩, ?_⟩
      · have := HPT.out.but hb HPL.out.2.2; simpa using this
      · exact HD2.out.put (World.ownsMap.isMap HD1.out) HIC.out.1 HIC.out.2 ⟨c, t, now + wi l, ((T + 1 : Nat) : Int)⟩ HFN.out.1 HFN.out.2
      · exact (HKN.out.2.no.trans (HBT.out.mono (fun k _ e => .inl e))).trans (hb.mono (fun k _ e => .inr e))
    clear hown ht5 HD1 HD2 HMT HBT HPT HKN HBP
    go_wp2
    go_ret
    exact ⟨rfl, HE.out⟩
theorem send_any (p m : Nat) (C : Int) (T : Nat) (L : List Nt) (c t now l : Int) (w : World) (h : BP w p m C T L) (hT : T ≤ 1000) :
    Calls Try.prog 10 #[.pointer (some ⟨p, 0, none⟩), .int .i64 c, .int .i64 t, .int .i64 now, .int .i64 l] w fun r w' => r = .returned (.bool (okS C L c t now)) ∧ SdEnd w p m C T L c t now l w' := by
  by_cases hn : inB C c t now
  · cases hf : fnd L c t with
    | none => exact send_ok p m C T L c t now l w h hT hn hf
    | some n => exact send_there p m C T L c t now l w h hn n hf
  · exact send_out p m C T L c t now l w h hn
end Go.Proofs.Ytmfjlfemeihchaa
