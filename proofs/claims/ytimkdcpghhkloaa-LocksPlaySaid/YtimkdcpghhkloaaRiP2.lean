/- Contracts of Head, Ticket, removeAt, Take and Drop over a ring's list. -/
import Derived.Test.YtimkdcpghhkloaaRiP
namespace Go.Proofs.Ytimkdcpghhkloaa.rin
open Go.ChangeShapes Go.WideShapes Go.ChangeAt Go.RowKit Go.Deep
theorem fst1_get (L : List It) : fst1 L = (L.getD 0 it0).id := by cases L <;> rfl
theorem fst3_len (L : List It) : fst3 L = decide (0 < L.length) := by cases L <;> simp [fst3]
set_option maxHeartbeats 1000000 in
theorem head_any (p : Nat) (R T : Int) (L : List It) (S : Nat → Prop) (w : World) (h : RP w S p R T L) :
    Calls Try.prog 28 #[.pointer (some ⟨p, 0, none⟩)] w fun r w' => r = .returned (.tuple #[.int .i64 (fst1 L), .bool (fst3 L)]) ∧ ∃ m, w' = w.drewN m := by
  obtain ⟨q, sz, F, n, g, h1, h2, h3⟩ := h.ex
  have c5 : w.cell? ⟨p, 5, none⟩ = some (.int .i64 n) := h1.hp.cell (o := 5) rfl
  have hs := h1.pow.le
  have hF := h1.hF
  by_cases hn : n = 0
  · subst hn
    have e : L = [] := by rw [← h2]; rfl
    subst e
    simp only [fst1, fst3]
    clear h h1 h2 h3
    go_enter Try.func28, Try.ntmps28
    go_wp2
    go_ret2
    exact ⟨rfl, 0, rfl⟩
  · have e1 : fst1 L = (g F).id := by rw [fst1_get, ← h2, lst_get g (by omega), ps_zero hF]
    have e3 : fst3 L = true := by rw [fst3_len, ← h2, lst_length]; simp; omega
    rw [e1, e3]
    have c2 : w.cell? ⟨p, 2, none⟩ = some (.slice (some ⟨q, 0, none⟩) sz sz) := h1.hp.cell (o := 2) rfl
    have c4 : w.cell? ⟨p, 4, none⟩ = some (.int .i64 F) := h1.hp.cell (o := 4) rfl
    obtain ⟨d0, d1⟩ := h1.hq.cells hF
    generalize (g F).id = x at d0
    have b1 : ((n : Int) == 0) = false := by simp; omega
    have b2 : (F : Int) < (sz : Int) := by omega
    clear h h1 h2 h3 d1 e1 e3
    go_enter Try.func28, Try.ntmps28
    go_wp2_with fail
    go_quiet (fail)
    go_wp2
    go_ret2
    exact ⟨rfl, _, rfl⟩
def RemEnd (w : World) (p q sz : Nat) (R T : Int) (F n : Nat) (g : Nat → It) (pl : Nat) (w' : World) : Prop :=
  ∃ F' g', Rg w' p q sz R T F' (n - 1) g' ∧ lst F' sz (n - 1) g' = (lst F sz n g).eraseIdx pl ∧ But (Own p q) w w'
theorem Rg.setF {w : World} {p q sz : Nat} {R T : Int} {F n : Nat} {g : Nat → It} (h : Rg w p q sz R T F n g) {F' n' : Nat} (hF : F' < sz) (hn : (n' : Int) ≤ R) :
    Rg ((w.setCell ⟨p, 4, none⟩ (.int .i64 F')).setCell ⟨p, 5, none⟩ (.int .i64 n')) p q sz R T F' n' g :=
  have hb : But (Just p) w ((w.setCell ⟨p, 4, none⟩ (.int .i64 F')).setCell ⟨p, 5, none⟩ (.int .i64 n')) := (((But.refl _ w).setCell (p := ⟨p, 4, none⟩) (just p) _).setCell (p := ⟨p, 5, none⟩) (just p) _)
  ⟨h.pq, (h.hp.set 4 _).set 5 _, h.hq.but hb (fun e => h.pq e.symm), h.pow, hF, hn, h.hR⟩
theorem Rg.setN {w : World} {p q sz : Nat} {R T : Int} {F n : Nat} {g : Nat → It} (h : Rg w p q sz R T F n g) {n' : Nat} (hn : (n' : Int) ≤ R) :
    Rg (w.setCell ⟨p, 5, none⟩ (.int .i64 n')) p q sz R T F n' g :=
  have hb : But (Just p) w (w.setCell ⟨p, 5, none⟩ (.int .i64 n')) := ((But.refl _ w).setCell (p := ⟨p, 5, none⟩) (just p) _)
  ⟨h.pq, h.hp.set 5 _, h.hq.but hb (fun e => h.pq e.symm), h.pow, h.hF, hn, h.hR⟩
set_option maxHeartbeats 1000000 in
theorem removeAt_zero (p q sz : Nat) (R T : Int) (F n : Nat) (g : Nat → It) (w : World) (h : Rg w p q sz R T F n g) (h0 : 0 < n) :
    Calls Try.prog 33 #[.pointer (some ⟨p, 0, none⟩), .int .i64 0] w fun r w' => r = .returned (.tuple #[]) ∧ RemEnd w p q sz R T F n g 0 w' := by
  have hs := h.pow.le
  have hn : n ≤ sz := by have := h.hn; have := h.hR; omega
  have HR := Lib.hid h
  obtain ⟨m, hm⟩ : ∃ m, m = n - 1 := ⟨_, rfl⟩
  have hm1 : (n : Int) - 1 = (m : Int) := by omega
  have CP : Hid (Calls Try.prog 32 #[.pointer (some ⟨p, 0, none⟩), .int .i64 1] w fun r w' => r = .returned (.int .i64 (ps F sz 1)) ∧ ∃ m', w' = w.drewN m') :=
    position_any p F sz 1 w (h.hp.cell (o := 3) rfl) (h.hp.cell (o := 4) rfl) h.pow h.hF (by omega)
  have HF := Lib.hid (ps_one h.hF)
  have HE : Hid (∀ w', Rg w' p q sz R T (ps F sz 1) m g → But (Own p q) w w' → RemEnd w p q sz R T F n g 0 w') := by
    intro w' h1 h2
    exact ⟨ps F sz 1, g, by rw [← hm]; exact h1, by rw [lst_tail HR.out.hF hn], h2⟩
  have HNR : Hid ((m : Int) ≤ R) := by have := h.hn; show _ ≤ _; omega
  clear h hm
  generalize ps F sz 1 = F' at CP HF HE
  go_enter Try.func33, Try.ntmps33
  go_wp2_with (go_at_call 32; refine CP.out.mono ?_; rintro e w2 ⟨rfl, hw⟩; have HRW := Lib.hid (HR.out.but (drewN_but hw) (fun _ _ f => f)); have HB := Lib.hid (drewN_but hw); have c4 : w2.cell? ⟨p, 4, none⟩ = some (.int .i64 F) := HRW.out.hp.cell (o := 4) rfl; have c5 : w2.cell? ⟨p, 5, none⟩ = some (.int .i64 n) := HRW.out.hp.cell (o := 5) rfl; have f4 := HRW.out.hp.frozen 4; have f5 := HRW.out.hp.frozen 5; clear hw)
  go_end0
  exact ⟨rfl, HE.out _ (HRW.out.setF HF.out HNR.out) ((HB.out.no.setCell (p := ⟨p, 4, none⟩) (.inl rfl) _).setCell (p := ⟨p, 5, none⟩) (.inl rfl) _)⟩
set_option maxHeartbeats 2000000 in
set_option maxRecDepth 100000 in
theorem removeAt_pos (p q sz : Nat) (R T : Int) (F n pl : Nat) (g : Nat → It) (w : World) (h : Rg w p q sz R T F n g) (h0 : 0 < pl) (hp : pl < n) :
    Calls Try.prog 33 #[.pointer (some ⟨p, 0, none⟩), .int .i64 pl] w fun r w' => r = .returned (.tuple #[]) ∧ RemEnd w p q sz R T F n g pl w' := by
  have hs := h.pow.le
  have hn : n ≤ sz := by have := h.hn; have := h.hR; omega
  have HR := Lib.hid h
  obtain ⟨m, hm⟩ : ∃ m, m = n - 1 := ⟨_, rfl⟩
  have hm1 : (n : Int) - 1 = (m : Int) := by omega
  have hw1 : IntKind.i64.wrap ((n : Int) - 1) = (m : Int) := by rw [IntWalk.i64_in ((n : Int) - 1) (by omega)]; exact hm1
  have hw2 := wr0 (a := m) (by omega)
  have CP : Hid (∀ w', But No w w' → Calls Try.prog 32 #[.pointer (some ⟨p, 0, none⟩), .int .i64 pl] w' fun r w'' => r = .returned (.int .i64 (ps F sz pl)) ∧ But No w' w'') := fun w' hb =>
    have h' := HR.out.but hb (fun _ _ f => f)
    (position_any p F sz pl w' (h'.hp.cell (o := 3) rfl) (h'.hp.cell (o := 4) rfl) h'.pow h'.hF (by omega)).mono fun _ _ ⟨a, b⟩ => ⟨a, drewN_but b⟩
  have CM : Hid (∀ w', But No w w' → Calls Try.prog 32 #[.pointer (some ⟨p, 0, none⟩), .int .i64 m] w' fun r w'' => r = .returned (.int .i64 (ps F sz m)) ∧ But No w' w'') := fun w' hb =>
    have h' := HR.out.but hb (fun _ _ f => f)
    (position_any p F sz m w' (h'.hp.cell (o := 3) rfl) (h'.hp.cell (o := 4) rfl) h'.pow h'.hF (by omega)).mono fun _ _ ⟨a, b⟩ => ⟨a, drewN_but b⟩
  have CC : Hid (∀ w', But No w w' → Calls Try.prog 34 #[.slice (some ⟨q, 0, none⟩) sz sz, .int .i64 (ps F sz pl), .int .i64 (ps F sz m)] w' fun r w'' => r = .returned (.tuple #[]) ∧ Rg w'' p q sz R T F n (closed g sz (ps F sz pl) (ps F sz m)) ∧ But (Just q) w' w'') := fun w' hb =>
    have h' := HR.out.but hb (fun _ _ f => f)
    (closeGap_any q sz (ps F sz pl) (ps F sz m) g w' h'.hq (ps_lt h'.hF (by omega)) (ps_lt h'.hF (by omega)) hs).mono fun _ _ ⟨a, b, c⟩ => ⟨a, ⟨h'.pq, h'.hp.but c h'.pq, b, h'.pow, h'.hF, h'.hn, h'.hR⟩, c⟩
  have HE : Hid (∀ w', Rg w' p q sz R T F m (closed g sz (ps F sz pl) (ps F sz m)) → But (Own p q) w w' → RemEnd w p q sz R T F n g pl w') := by
    intro w' h1 h2
    exact ⟨F, _, by rw [← hm]; exact h1, by rw [← hm, hm]; exact lst_closed HR.out.hF hn h0 hp, h2⟩
  have HNR : Hid ((m : Int) ≤ R) := by have := h.hn; show _ ≤ _; omega
  have KEEP : Hid (∀ w', But No w w' → w'.cell? ⟨p, 2, none⟩ = some (.slice (some ⟨q, 0, none⟩) sz sz) ∧ w'.cell? ⟨p, 5, none⟩ = some (.int .i64 n) ∧ But No w w') := fun w' hb =>
    have h' := HR.out.but hb (fun _ _ f => f)
    ⟨h'.hp.cell (o := 2) rfl, h'.hp.cell (o := 5) rfl, hb⟩
  have b1 : ((pl : Int) == 0) = false := by simp; omega
  clear h hm h0 hp
  generalize closed g sz (ps F sz pl) (ps F sz m) = gc at CC HE
  generalize ps F sz pl = gap at CP CC
  generalize ps F sz m = last at CM CC
  go_enter Try.func33, Try.ntmps33
  go_wp2_with fail
  go_region_held3 (fun w' => w'.cell? ⟨p, 2, none⟩ = some (.slice (some ⟨q, 0, none⟩) sz sz) ∧ w'.cell? ⟨p, 5, none⟩ = some (.int .i64 n))
    (first | exact ⟨(KEEP.out _ ((But.refl No w).drew)).1, (KEEP.out _ ((But.refl No w).drew)).2.1⟩ | exact ⟨hr4.hp.cell (o := 2) rfl, hr4.hp.cell (o := 5) rfl⟩ | exact ⟨(KEEP.out _ hb3).1, (KEEP.out _ hb3).2.1⟩ | exact ⟨(KEEP.out _ hb2).1, (KEEP.out _ hb2).2.1⟩)
    (first | (go_at_call 32; ((with_reducible refine (CP.out _ (by first | exact hb3 | exact hb2 | exact (But.refl No w).drew)).mono ?_); rintro e w2 ⟨rfl, hb⟩; have hb2 := (show But No w _ by first | exact hb3 | exact (But.refl No w).drew).trans hb; clear hb)) | (go_at_call 32; ((with_reducible refine (CM.out _ (by first | exact hb2 | exact (But.refl No w).drew)).mono ?_); rintro e w3 ⟨rfl, hb⟩; have hb3 := (show But No w _ by first | exact hb2 | exact (But.refl No w).drew).trans hb; clear hb)) | (go_at_call 34; ((with_reducible refine (CC.out _ (by first | exact hb3 | exact hb2)).mono ?_); rintro e w4 ⟨rfl, hr4, hb4⟩)))
  rename_i hHeld
  clear hHeld
  have HR4 := Lib.hid hr4
  have HB4 : Hid (But (Own p q) w w4) := hb3.no.trans (hb4.mono (fun k _ e => .inr e))
  have c5 : w4.cell? ⟨p, 5, none⟩ = some (.int .i64 n) := hr4.hp.cell (o := 5) rfl
  have f5 := hr4.hp.frozen 5
  clear hr4 hb4 hb3 hw1 hw2
  go_wp2
  go_end0
  exact ⟨rfl, HE.out _ (HR4.out.setN HNR.out) (HB4.out.setCell (p := ⟨p, 5, none⟩) (.inl rfl) _)⟩
theorem eraseIdx_mem {L : List It} {k : Nat} {x : It} (h : x ∈ L.eraseIdx k) : x ∈ L := (List.eraseIdx_sublist L k).subset h
theorem removeAt_any (p : Nat) (R T : Int) (L : List It) (S : Nat → Prop) (w : World) (pl : Nat) (h : RP w S p R T L) (hp : pl < L.length) :
    Calls Try.prog 33 #[.pointer (some ⟨p, 0, none⟩), .int .i64 pl] w fun r w' => r = .returned (.tuple #[]) ∧ Mv w S p R T (L.eraseIdx pl) w' := by
  obtain ⟨q, sz, F, n, g, h1, h2, h3⟩ := h.ex
  have hpn : pl < n := by rw [← h2, lst_length] at hp; exact hp
  have fin : ∀ w', RemEnd w p q sz R T F n g pl w' → Mv w S p R T (L.eraseIdx pl) w' := by
    rintro w' ⟨F', g', r1, r2, r3⟩
    rw [h2] at r2
    have hsub := List.eraseIdx_sublist L pl
    exact ⟨⟨⟨q, sz, F', n - 1, g', r1, r2, h3⟩, h.nd.sublist hsub, h.srt.sublist hsub, fun x hx => h.tb x (hsub.subset hx), fun x hx => h.rng x (hsub.subset hx), h.t0, h.r0, h.r1⟩, r3.mono (fun k _ hk => (h3 k).2 hk)⟩
  by_cases h0 : pl = 0
  · subst h0
    exact (removeAt_zero p q sz R T F n g w h1 hpn).mono fun _ _ ⟨a, b⟩ => ⟨a, fin _ b⟩
  · exact (removeAt_pos p q sz R T F n pl g w h1 (by omega) hpn).mono fun _ _ ⟨a, b⟩ => ⟨a, fin _ b⟩
theorem Mv.after {w w1 w2 : World} {S : Nat → Prop} {p : Nat} {R T : Int} {L : List It} (hb : But No w w1) (h : Mv w1 S p R T L w2) : Mv w S p R T L w2 := ⟨h.1, hb.no.trans h.2⟩
theorem take_any (p : Nat) (R T : Int) (L : List It) (S : Nat → Prop) (w : World) (h : RP w S p R T L) :
    Calls Try.prog 27 #[.pointer (some ⟨p, 0, none⟩)] w fun r w' => r = .returned (.tuple #[.int .i64 (fst1 L), .bool (fst3 L)]) ∧ Mv w S p R T L.tail w' := by
  have CH := Lib.hid (head_any p R T L S w h)
  have H := Lib.hid h
  cases L with
  | nil =>
    simp only [fst1, fst3, List.tail] at CH ⊢
    clear h
    go_enter Try.func27, Try.ntmps27
    go_wp2_with (go_at_call 28; refine CH.out.mono ?_; rintro e w2 ⟨rfl, hw⟩; have HW := Lib.hid hw; clear hw)
    go_ret2
    exact ⟨rfl, H.out.stay (drewN_but HW.out)⟩
  | cons y t =>
    simp only [fst1, fst3, List.tail] at CH ⊢
    have CR : Hid (∀ w', But No w w' → Calls Try.prog 33 #[.pointer (some ⟨p, 0, none⟩), .int .i64 0] w' fun r w'' => r = .returned (.tuple #[]) ∧ Mv w' S p R T t w'') := fun w' hb =>
      removeAt_any p R T (y :: t) S w' 0 (H.out.no hb) (by simp)
    generalize y.id = x at CH ⊢
    clear h
    go_enter Try.func27, Try.ntmps27
    go_wp2_with (first | (go_at_call 28; refine CH.out.mono ?_; rintro e w2 ⟨rfl, hw⟩; have HW := Lib.hid (drewN_but hw); clear hw) | (go_at_call 33; refine (CR.out _ HW.out).mono ?_; rintro e w3 ⟨rfl, hm⟩; have HM := Lib.hid hm; clear hm))
    go_ret2
    exact ⟨rfl, HM.out.after HW.out⟩
def hasI (L : List It) (a : Int) : Bool := decide (0 ≤ idx L a)
end Go.Proofs.Ytimkdcpghhkloaa.rin
