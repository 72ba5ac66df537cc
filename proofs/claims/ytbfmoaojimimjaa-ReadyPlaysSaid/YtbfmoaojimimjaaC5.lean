/- Raise, Fall, Remove: the contracts; and of each call one contract. -/
import Derived.Test.YtbfmoaojimimjaaC4
namespace Go.Proofs.Ytbfmoaojimimjaa
open Go.ChangeShapes Go.WideShapes Go.ChangeAt Go.RowKit
theorem add_any (q : Nat) (pol n : Int) (L : List E) (S : Nat → Prop) (w : World) (t l : Int) (h : QP w S q pol n L) (hn : n < 1000000) :
    Calls Try.prog 11 #[.pointer (some ⟨q, 0, none⟩), .int .i64 t, .int .i64 l] w fun r w' => r = .returned (.int .i64 (addN L t l)) ∧ QMv w S q pol (n + 1) (addL L t l) w' := by
  by_cases hb : taskB t = false ∨ levB l = false
  · have e : addN L t l = 1 := by unfold addN; rw [if_pos hb]
    have e2 : addL L t l = L := by unfold addL; rw [e, if_neg (by decide)]
    rw [e, e2]
    exact (add_err q t l w hb).mono fun _ _ ⟨h1, h2⟩ => ⟨h1, h2 ▸ h.stay (But.refl No w) (by omega)⟩
  · exact add_ok q pol n L S w t l h hn (by cases e : taskB t <;> simp_all) (by cases e : levB l <;> simp_all)
theorem chPr {H : List hea.It} {L : List E} (hp : Pr H L) {t l o T : Int} {r : Bool} {u : Option Int} (hu : u.isSome = r) (hl : l = u.getD o) (hh : hasT t L = true) : Pr (hea.chL T H t (kf l r t)) (insE ⟨t, o, u⟩ (delE t L)) := by
  unfold hea.chL
  rw [hasI_T hp, hh, if_pos rfl]
  refine (hp.del t).ins rfl ?_
  show kf l r t = ke ⟨t, o, u⟩
  unfold ke lv
  rw [hu, hl]
theorem raise_err (q : Nat) (pol n : Int) (L : List E) (S : Nat → Prop) (w : World) (t l : Int) (h : QP w S q pol n L) (hb : taskB t = false ∨ levB l = false ∨ pol = 2) :
    Calls Try.prog 13 #[.pointer (some ⟨q, 0, none⟩), .int .i64 t, .int .i64 l] w fun r w' => r = .returned (.int .i64 1) ∧ w = w' := by
  obtain ⟨a, m, Sh, T, H, D, hx, hT, hS⟩ := h.ex
  have hpol := hx.pol_
  have C1 := Lib.hid (fun W => isTask_any t W)
  have C2 := Lib.hid (fun W => isLevel_any l W)
  clear h hx hT hS
  cases ht : taskB t with
  | false =>
    clear hb
    go_enter Try.func13, Try.ntmps13
    go_wp2_with (first | (go_at_call 27; ((with_reducible refine (C1.out _).mono ?_); rintro e w1 ⟨rfl, rfl⟩; rw [ht])))
    go_ret
    exact ⟨rfl, rfl⟩
  | true =>
    cases hl : levB l with
    | false =>
      clear hb
      go_enter Try.func13, Try.ntmps13
      go_wp2_with (first | (go_at_call 27; ((with_reducible refine (C1.out _).mono ?_); rintro e w1 ⟨rfl, rfl⟩; rw [ht])) | (go_at_call 28; ((with_reducible refine (C2.out _).mono ?_); rintro e w1 ⟨rfl, rfl⟩; rw [hl])))
      go_ret
      exact ⟨rfl, rfl⟩
    | true =>
      have hp : pol = 2 := by simpa [ht, hl] using hb
      subst hp
      clear hb
      go_enter Try.func13, Try.ntmps13
      go_wp2_with (first | (go_at_call 27; ((with_reducible refine (C1.out _).mono ?_); rintro e w1 ⟨rfl, rfl⟩; rw [ht])) | (go_at_call 28; ((with_reducible refine (C2.out _).mono ?_); rintro e w1 ⟨rfl, rfl⟩; rw [hl])))
      go_ret
      exact ⟨rfl, rfl⟩
set_option maxHeartbeats 1000000 in
theorem raise_ok (q : Nat) (pol n : Int) (L : List E) (S : Nat → Prop) (w : World) (t l : Int) (h : QP w S q pol n L) (hn : n < 1000000) (ht : taskB t = true) (hl : levB l = true) (hpl : pol ≠ 2) :
    Calls Try.prog 13 #[.pointer (some ⟨q, 0, none⟩), .int .i64 t, .int .i64 l] w fun r w' => r = .returned (.int .i64 (raiN pol L t l)) ∧ QMv w S q pol (n + 1) (raiL pol L t l) w' := by
  obtain ⟨a, m, Sh, T, H, D, hx, hT, hS⟩ := h.ex
  have hpol := hx.pol_
  have C1 := Lib.hid (fun W => isTask_any t W)
  have C2 := Lib.hid (fun W => isLevel_any l W)
  have bt := taskB_iff.1 ht
  have bl := levB_iff.1 hl
  have hR : inR t := by unfold inR; omega
  have CK := Lib.hid (fun W => keyOf_any l t true W bl.1 bl.2 bt.1 bt.2)
  have CP := Lib.hid (fun W (hb : But No w W) => hea.change_any a 24 T H Sh W t (kf l true t) hR (hx.no hb).hp (by omega))
  have eN : hea.chE H t = raiN pol L t l := by
    unfold hea.chE raiN
    rw [hasI_T hx.pr, ht, hl]
    simp [hpl]
  rw [eN] at CP
  have hc := hx.order
  have HX := Lib.hid hx
  have HE : Hid (∀ w2, hea.Mv w.drew Sh a 24 (hea.chT T H t) (hea.chL T H t (kf l true t)) w2 → QMv w S q pol (n + 1) (raiL pol L t l) w2) := by
    intro w2 hm
    have hT2 : hea.chT T H t ≤ n + 1 := by unfold hea.chT; split <;> omega
    have hQ := h.ok.rai pol t l
    have hp : Pr (hea.chL T H t (kf l true t)) (raiL pol L t l) ∧ BaseIs D (raiL pol L t l) := by
      unfold raiL raiN
      rw [ht, hl]
      cases hh : hasT t L with
      | true => 
        simp only [hpl, if_true, if_false, Bool.true_eq_false, or_self]
        exact ⟨chPr hx.pr rfl rfl hh, hx.base.set h.ok hh rfl⟩
      | false =>
        simp [hpl]
        refine ⟨?_, hx.base⟩
        unfold hea.chL
        rw [hasI_T hx.pr, hh]
        exact hx.pr
    obtain ⟨S', k1, k2, k3⟩ := (hx.no (But.refl No w).drew).heap (n := n + 1) hS hm hp.1 hp.2 hQ hT2
    exact ⟨S', k1, ((But.refl No w).drew.no (S := S)).andThen k2 (fun k hk => .inl hk), k3⟩
  have keep0 : ∀ {W : World}, But No w W → W.cell? ⟨q, 1, none⟩ = some (.pointer (some ⟨a, 0, none⟩)) := fun hb => (HX.out.no hb).order
  have keep1 : ∀ {W W' : World} {T' : Int} {H' : List hea.It}, But No w W → hea.Mv W Sh a 24 T' H' W' → W'.cell? ⟨q, 1, none⟩ = some (.pointer (some ⟨a, 0, none⟩)) := fun hb hm => ckeep HX.out.order hb hm HX.out.qs HX.out.blk.lt
  have ep : (pol == 2) = false := by simp [hpl]
  obtain ⟨r, hr⟩ : ∃ r, r = raiN pol L t l := ⟨_, rfl⟩
  rw [← hr] at CP ⊢
  clear h hx hT hS bt bl hR eN hr hpl
  · go_enter Try.func13, Try.ntmps13
    go_wp2_with (first | (go_at_call 27; ((with_reducible refine (C1.out _).mono ?_); rintro e w1 ⟨rfl, rfl⟩; rw [ht])) | (go_at_call 28; ((with_reducible refine (C2.out _).mono ?_); rintro e w1 ⟨rfl, rfl⟩; rw [hl])))
    go_region_held3 (fun w' => w'.cell? ⟨q, 1, none⟩ = some (.pointer (some ⟨a, 0, none⟩)))
      (first | with_reducible exact hc | with_reducible exact keep0 (But.refl No w).drew | with_reducible exact keep0 ((But.refl No w).drewN _) | exact keep1 (But.refl No w).drew hz)
      (first | (go_at_call 30; ((with_reducible refine (CK.out _).mono ?_); rintro e w1 ⟨rfl, rfl⟩)) | (go_at_call 33; ((with_reducible refine (CP.out _ (But.refl No w).drew).mono ?_); rintro e w2 ⟨rfl, hz⟩)))
    have HZ := Lib.hid hz
    clear hz
    go_wp2
    go_ret
    exact ⟨rfl, HE.out _ HZ.out⟩
theorem raise_any (q : Nat) (pol n : Int) (L : List E) (S : Nat → Prop) (w : World) (t l : Int) (h : QP w S q pol n L) (hn : n < 1000000) :
    Calls Try.prog 13 #[.pointer (some ⟨q, 0, none⟩), .int .i64 t, .int .i64 l] w fun r w' => r = .returned (.int .i64 (raiN pol L t l)) ∧ QMv w S q pol (n + 1) (raiL pol L t l) w' := by
  by_cases hb : taskB t = false ∨ levB l = false ∨ pol = 2
  · have e : raiN pol L t l = 1 := by unfold raiN; rw [if_pos hb]
    have e2 : raiL pol L t l = L := by unfold raiL; rw [e, if_neg (by decide)]
    rw [e, e2]
    exact (raise_err q pol n L S w t l h hb).mono fun _ _ ⟨h1, h2⟩ => ⟨h1, h2 ▸ h.stay (But.refl No w) (by omega)⟩
  · exact raise_ok q pol n L S w t l h hn (by cases e : taskB t <;> simp_all) (by cases e : levB l <;> simp_all) (fun e => hb (.inr (.inr e)))
theorem fall_out (q : Nat) (pol n : Int) (L : List E) (S : Nat → Prop) (w : World) (t : Int) (ht : inR t) (h : QP w S q pol n L) (hh : hasT t L = false) :
    Calls Try.prog 15 #[.pointer (some ⟨q, 0, none⟩), .int .i64 t] w fun r w' => r = .returned (.int .i64 5) ∧ But No w w' := by
  obtain ⟨a, m, Sh, T, H, D, hx, hT, hS⟩ := h.ex
  have OWN := Lib.hid hx.om
  have h3 := hx.bas
  have HR := Lib.hid ht
  have hhas : Maps.has D (hea.ky t) = false := by rw [hx.base.has]; exact hh
  clear h hx hT hS hh ht
  go_enter Try.func15, Try.ntmps15
  go_wp2_with (at_lookup; refine wpList_lookup_own_ok_int (H := Unit) _ rfl _ _ 49 rfl 3 3 .i64 hea.keyed Try.underlying49 Try.underlying3 (hea.zero3 _) m (Maps.size D) D rfl OWN.out _ (hea.ky t) rfl (Maps.keyOf_int_mk Try.underlying3 (wf_of HR.out)) ?_; intro cc hcc hwc; clear hcc hwc)
  go_ret
  exact ⟨rfl, But.refl _ _⟩
set_option maxHeartbeats 1000000 in
theorem fall_in (q : Nat) (pol n : Int) (L : List E) (S : Nat → Prop) (w : World) (t : Int) (h : QP w S q pol n L) (hn : n < 1000000) (hh : hasT t L = true) :
    Calls Try.prog 15 #[.pointer (some ⟨q, 0, none⟩), .int .i64 t] w fun r w' => r = .returned (.int .i64 (falN L t)) ∧ QMv w S q pol (n + 1) (falL L t) w' := by
  obtain ⟨a, m, Sh, T, H, D, hx, hT, hS⟩ := h.ex
  obtain ⟨o0, o1, t0, t1⟩ := ownV_rng h.ok hh
  obtain ⟨o, ho⟩ : ∃ o, o = ownV t L := ⟨_, rfl⟩
  have hR : inR t := by unfold inR; omega
  have OWN := Lib.hid hx.om
  have h3 := hx.bas
  have HR := Lib.hid hR
  have AT : Hid (∀ z, D.atKey (hea.ky t) z = hea.vl o) := by
    obtain ⟨x, hxL, rfl⟩ := hasT_true hh
    show ∀ z, _
    rw [ho, ownV_of h.ok.nd hxL]
    exact hx.base.at_ x hxL
  have hhas : Maps.has D (hea.ky t) = true := by rw [hx.base.has]; exact hh
  have CK := Lib.hid (fun W => keyOf_any (ownV t L) t false W o0 o1 t0 t1)
  have CP := Lib.hid (fun W (hb : But No w W) => hea.change_any a 24 T H Sh W t (kf (ownV t L) false t) hR (hx.no hb).hp (by omega))
  have eN : hea.chE H t = 0 := by
    unfold hea.chE
    rw [hasI_T hx.pr, hh]; rfl
  have eN2 : falN L t = 0 := by unfold falN; rw [hh]; rfl
  rw [eN] at CP
  rw [eN2]
  have hc := hx.order
  have HX := Lib.hid hx
  have HE : Hid (∀ w2, hea.Mv w.drew Sh a 24 (hea.chT T H t) (hea.chL T H t (kf (ownV t L) false t)) w2 → QMv w S q pol (n + 1) (falL L t) w2) := by
    intro w2 hm
    have hT2 : hea.chT T H t ≤ n + 1 := by unfold hea.chT; split <;> omega
    have hQ := h.ok.fal t
    have hp : Pr (hea.chL T H t (kf (ownV t L) false t)) (falL L t) ∧ BaseIs D (falL L t) := by
      unfold falL
      rw [if_pos hh]
      exact ⟨chPr hx.pr rfl rfl hh, hx.base.set h.ok hh rfl⟩
    obtain ⟨S', k1, k2, k3⟩ := (hx.no (But.refl No w).drew).heap (n := n + 1) hS hm hp.1 hp.2 hQ hT2
    exact ⟨S', k1, ((But.refl No w).drew.no (S := S)).andThen k2 (fun k hk => .inl hk), k3⟩
  have keep0 : ∀ {W : World}, But No w W → W.cell? ⟨q, 1, none⟩ = some (.pointer (some ⟨a, 0, none⟩)) := fun hb => (HX.out.no hb).order
  have keep1 : ∀ {W W' : World} {T' : Int} {H' : List hea.It}, But No w W → hea.Mv W Sh a 24 T' H' W' → W'.cell? ⟨q, 1, none⟩ = some (.pointer (some ⟨a, 0, none⟩)) := fun hb hm => ckeep HX.out.order hb hm HX.out.qs HX.out.blk.lt
  rw [← ho] at CK CP HE o0 o1
  clear h hx hT hS hR eN ho hh eN2
  · go_enter Try.func15, Try.ntmps15
    go_wp2_with (at_lookup; refine wpList_lookup_own_ok_int (H := Unit) _ rfl _ _ 49 rfl 3 3 .i64 hea.keyed Try.underlying49 Try.underlying3 (hea.zero3 _) m (Maps.size D) D rfl OWN.out _ (hea.ky t) rfl (Maps.keyOf_int_mk Try.underlying3 (wf_of HR.out)) ?_; intro cc hcc hwc; obtain rfl := hea.at_eq hcc AT.out; clear hcc hwc)
    go_region_held3 (fun w' => w'.cell? ⟨q, 1, none⟩ = some (.pointer (some ⟨a, 0, none⟩)))
      (first | with_reducible exact hc | with_reducible exact keep0 (But.refl No w).drew | with_reducible exact keep0 ((But.refl No w).drewN _) | exact keep1 (But.refl No w).drew hz)
      (first | (go_at_call 30; ((with_reducible refine (CK.out _).mono ?_); rintro e w1 ⟨rfl, rfl⟩)) | (go_at_call 33; ((with_reducible refine (CP.out _ (But.refl No w).drew).mono ?_); rintro e w2 ⟨rfl, hz⟩)))
    have HZ := Lib.hid hz
    clear hz
    go_wp2
    go_ret
    exact ⟨rfl, HE.out _ HZ.out⟩
theorem fall_any (q : Nat) (pol n : Int) (L : List E) (S : Nat → Prop) (w : World) (t : Int) (ht : inR t) (h : QP w S q pol n L) (hn : n < 1000000) :
    Calls Try.prog 15 #[.pointer (some ⟨q, 0, none⟩), .int .i64 t] w fun r w' => r = .returned (.int .i64 (falN L t)) ∧ QMv w S q pol (n + 1) (falL L t) w' := by
  cases hh : hasT t L with
  | true => exact fall_in q pol n L S w t h hn hh
  | false =>
    have e : falN L t = 5 := by unfold falN; rw [hh]; rfl
    have e2 : falL L t = L := by unfold falL; rw [hh]; rfl
    rw [e, e2]
    exact (fall_out q pol n L S w t ht h hh).mono fun _ _ ⟨h1, h2⟩ => ⟨h1, h.stay h2 (by omega)⟩
/-- The map told, then the heap. -/
theorem rem_end {w w1 w2 : World} {q h m : Nat} {Sh S : Nat → Prop} {pol T n t : Int} {H : List hea.It} {D : DataW Unit} {L : List E} (x : QX w q h m Sh pol T H D L) (hq : QOK L) (hS : ∀ k, S k ↔ k = q ∨ k = m ∨ Sh k) (hT : T ≤ n)
    {N : Nat} (ho : hea.OM w1 m N (D.del (hea.ky t))) (hb : But (Just m) w w1) (hm : hea.Mv w1 Sh h 24 T (hea.rmv t H) w2) : QMv w S q pol (n + 1) (delE t L) w2 := by
  have x1 : QX w1 q h m Sh pol T (hea.rmv t H) (D.del (hea.ky t)) (delE t L) → QMv w1 S q pol (n + 1) (delE t L) w2 := fun x1 => x1.heap hS hm (x.pr.del t) (x.base.del hq t) (hq.del t) (by omega)
  obtain ⟨S', k1, k2, k3⟩ := hm
  have lq := x.blk.lt
  have lm := World.ownsMap.lt x.om
  have hs := hb.size
  refine ⟨fun k => k = q ∨ k = m ∨ S' k, ⟨⟨h, m, S', T, _, _, ⟨(x.blk.but hb x.qm).but k2 x.qs, k1, x.pr.del t, (ho.but k2 x.ms).norm, x.base.del hq t, x.qm, fun e => (k3 _ e).elim x.qs (by omega), fun e => (k3 _ e).elim x.ms (by omega)⟩, by omega, fun k => Iff.rfl⟩, hq.del t⟩, ?_, ?_⟩
  · exact (hb.mono (S' := S) (fun k _ hk => (hS k).2 (.inr (.inl hk)))).andThen k2 (fun k hk => .inl ((hS k).2 (.inr (.inr hk))))
  · rintro k (rfl | rfl | e)
    · exact .inl ((hS _).2 (.inl rfl))
    · exact .inl ((hS _).2 (.inr (.inl rfl)))
    · exact (k3 k e).imp (fun e => (hS _).2 (.inr (.inr e))) (fun e => by omega)
set_option maxHeartbeats 1000000 in
theorem remove_any (q : Nat) (pol n : Int) (L : List E) (S : Nat → Prop) (w : World) (t : Int) (ht : inR t) (h : QP w S q pol n L) :
    Calls Try.prog 17 #[.pointer (some ⟨q, 0, none⟩), .int .i64 t] w fun r w' => r = .returned (.int .i64 (falN L t)) ∧ QMv w S q pol (n + 1) (delE t L) w' := by
  obtain ⟨a, m, Sh, T, H, D, hx, hT, hS⟩ := h.ex
  have h3 := hx.bas
  have HR := Lib.hid ht
  have HX := Lib.hid hx
  have OWN := Lib.hid hx.om
  have HF : Hid (QOK L ∧ (∀ k, S k ↔ k = q ∨ k = m ∨ Sh k) ∧ T ≤ n) := ⟨h.ok, hS, hT⟩
  have CP := Lib.hid (fun W (hb : But (Just m) w W) => hea.remove_any a 24 T H Sh W t ht (hx.hp.but hb (fun k hk e => hx.ms (e ▸ hk))))
  have eN : hea.chE H t = falN L t := by unfold hea.chE falN; rw [hasI_T hx.pr]
  rw [eN] at CP
  clear h hx hT hS eN ht
  go_enter Try.func17, Try.ntmps17
  go_wp2_with (first
    | (at_delete; refine wpList_delete_own (H := Unit) _ rfl _ _ 49 3 rfl 3 hea.keyed Try.underlying49 (plainElem Try.prog 3) m (Maps.size D) D rfl OWN.out _ (hea.ky t) rfl (Maps.keyOf_int_mk Try.underlying3 (wf_of HR.out)) ?_; intro w1 hown1 ht1; have HO1 := Lib.hid hown1; have HB1 : Hid (But (Just m) w w1) := (But.refl _ w).turnedH ht1 (just m); clear hown1 ht1; have h1 : w1.cell? ⟨q, 1, none⟩ = some (.pointer (some ⟨a, 0, none⟩)) := (HX.out.blk.but HB1.out HX.out.qm).cell (o := 1) rfl)
    | (go_at_call 34; ((with_reducible refine (CP.out _ HB1.out).mono ?_); rintro e w2 ⟨rfl, hz⟩; have HZ := Lib.hid hz; clear hz)))
  go_ret
  exact ⟨rfl, rem_end HX.out HF.out.1 HF.out.2.1 HF.out.2.2 HO1.out HB1.out HZ.out⟩
end Go.Proofs.Ytbfmoaojimimjaa
