/- Add, Raise, Fall, Remove: the contracts. -/
import Derived.Test.YtbfmoaojimimjaaC3
namespace Go.Proofs.Ytbfmoaojimimjaa
open Go.ChangeShapes Go.WideShapes Go.ChangeAt Go.RowKit
theorem add_err (q : Nat) (t l : Int) (w : World) (hb : taskB t = false ∨ levB l = false) :
    Calls Try.prog 11 #[.pointer (some ⟨q, 0, none⟩), .int .i64 t, .int .i64 l] w fun r w' => r = .returned (.int .i64 1) ∧ w = w' := by
  have C1 := Lib.hid (fun W => isTask_any t W)
  have C2 := Lib.hid (fun W => isLevel_any l W)
  cases ht : taskB t with
  | false =>
    clear hb
    go_enter Try.func11, Try.ntmps11
    go_wp2_with (first | (go_at_call 27; ((with_reducible refine (C1.out _).mono ?_); rintro e w1 ⟨rfl, rfl⟩; rw [ht])))
    go_ret
    exact ⟨rfl, rfl⟩
  | true =>
    have hl : levB l = false := by simpa [ht] using hb
    clear hb
    go_enter Try.func11, Try.ntmps11
    go_wp2_with (first | (go_at_call 27; ((with_reducible refine (C1.out _).mono ?_); rintro e w1 ⟨rfl, rfl⟩; rw [ht])) | (go_at_call 28; ((with_reducible refine (C2.out _).mono ?_); rintro e w1 ⟨rfl, rfl⟩; rw [hl])))
    go_ret
    exact ⟨rfl, rfl⟩
/-- The heap pushed, the map not yet told. -/
theorem add_end {w w1 w2 w3 : World} {q h m : Nat} {Sh S : Nat → Prop} {pol T n t l : Int} {H : List hea.It} {D : DataW Unit} {L : List E} (x : QX w q h m Sh pol T H D L) (hq : QOK L) (hS : ∀ k, S k ↔ k = q ∨ k = m ∨ Sh k) (hT : T ≤ n)
    (hb : But No w w1) (ht : taskB t = true) (hl : levB l = true) (ha : addN L t l = 0) (hm : hea.Mv w1 Sh h 24 (hea.pushT 24 T H t) (hea.pushL 24 T H t (kf l false t)) w2)
    (ho : hea.OM w3 m (Maps.size D + 1) (D.put (hea.ky t) (hea.vl l))) (htn : w2.mapTurned w3 m) : QMv w S q pol (n + 1) (addL L t l) w3 := by
  have hp := pushPr (T := T) x.pr hq ht hl
  have hh : hasT t L = false := by
    unfold addN at ha
    rw [ht, hl] at ha
    cases e : hasT t L with
    | false => rfl
    | true => rw [e] at ha; simp at ha
  have hB := x.base.ins (e := ⟨t, l, none⟩) (hasT_false hh)
  have hQ := hq.add t l
  have hT2 : hea.pushT 24 T H t ≤ n + 1 := by unfold hea.pushT; split <;> omega
  have eL : addL L t l = insE ⟨t, l, none⟩ L := by unfold addL; rw [if_pos ha]
  rw [eL] at hp hQ ⊢
  have x1 := x.no hb
  have lq := x1.blk.lt
  have lm := World.ownsMap.lt x1.om
  obtain ⟨S', k1, k2, k3⟩ := hm
  have hb3 : But (Just m) w2 w3 := (But.refl _ w2).turnedH htn (just m)
  have hs1 := hb.size
  refine ⟨fun k => k = q ∨ k = m ∨ S' k, ⟨⟨h, m, S', _, _, _, ⟨(x1.blk.but k2 x.qs).but hb3 x.qm, k1.but hb3 (fun k hk e => ?_), hp, ho.norm, hB, x.qm, fun e => (k3 _ e).elim x.qs (by omega), fun e => (k3 _ e).elim x.ms (by omega)⟩, hT2, fun k => Iff.rfl⟩, hQ⟩, ?_, ?_⟩
  · cases e
    rcases k3 _ hk with e | e
    · exact x.ms e
    · omega
  · have a1 : But S w w2 := (hb.no (S := S)).andThen k2 (fun k hk => .inl ((hS k).2 (.inr (.inr hk))))
    exact a1.andThen hb3 (fun k hk => .inl ((hS k).2 (.inr (.inl hk))))
  · rintro k (rfl | rfl | e)
    · exact .inl ((hS _).2 (.inl rfl))
    · exact .inl ((hS _).2 (.inr (.inl rfl)))
    · rcases k3 k e with e | e
      · exact .inl ((hS _).2 (.inr (.inr e)))
      · exact .inr (by omega)
set_option maxHeartbeats 1000000 in
theorem add_ok (q : Nat) (pol n : Int) (L : List E) (S : Nat → Prop) (w : World) (t l : Int) (h : QP w S q pol n L) (hn : n < 1000000) (ht : taskB t = true) (hl : levB l = true) :
    Calls Try.prog 11 #[.pointer (some ⟨q, 0, none⟩), .int .i64 t, .int .i64 l] w fun r w' => r = .returned (.int .i64 (addN L t l)) ∧ QMv w S q pol (n + 1) (addL L t l) w' := by
  obtain ⟨a, m, Sh, T, H, D, hx, hT, hS⟩ := h.ex
  have C1 := Lib.hid (fun W => isTask_any t W)
  have C2 := Lib.hid (fun W => isLevel_any l W)
  have bt := taskB_iff.1 ht
  have bl := levB_iff.1 hl
  have hR : inR t := by unfold inR; omega
  have hRl : inR l := by have := bl.2; unfold big at this; unfold inR; omega
  have CK := Lib.hid (fun W => keyOf_any l t false W bl.1 bl.2 bt.1 bt.2)
  have CP := Lib.hid (fun W (hb : But No w W) => hea.push_any a 24 T H Sh W t (kf l false t) hR (hx.no hb).hp (by omega))
  rw [pushEq hx.pr h.ok ht hl] at CP
  have hc := hx.order
  have HX := Lib.hid hx
  have HF : Hid (QOK L ∧ (∀ k, S k ↔ k = q ∨ k = m ∨ Sh k) ∧ T ≤ n) := ⟨h.ok, hS, hT⟩
  have HTL : Hid (taskB t = true ∧ levB l = true) := ⟨ht, hl⟩
  have HRT : Hid (inR t ∧ inR l) := ⟨hR, hRl⟩
  have keep0 : ∀ {W : World}, But No w W → W.cell? ⟨q, 1, none⟩ = some (.pointer (some ⟨a, 0, none⟩)) := fun hb => (HX.out.no hb).order
  have keep1 : ∀ {W W' : World} {T' : Int} {H' : List hea.It}, But No w W → hea.Mv W Sh a 24 T' H' W' → W'.cell? ⟨q, 1, none⟩ = some (.pointer (some ⟨a, 0, none⟩)) := fun hb hm => ckeep HX.out.order hb hm HX.out.qs HX.out.blk.lt
  have bas1 : ∀ {W W' : World} {T' : Int} {H' : List hea.It}, But No w W → hea.Mv W Sh a 24 T' H' W' → W'.cell? ⟨q, 2, none⟩ = some (.map (some m)) ∧ hea.OM W' m (Maps.size D) D := by
    intro W W' T' H' hb hm
    obtain ⟨S', k1, k2, k3⟩ := hm
    have x1 := HX.out.no hb
    exact ⟨(x1.blk.but k2 x1.qs).cell (o := 2) rfl, x1.om.but k2 x1.ms⟩
  have hsz : Maps.size D < 257 := by rw [hx.base.sz]; have := h.ok.len; omega
  clear h hx hS hT bt bl hR hRl
  by_cases ha : addN L t l = 0
  · rw [ha] at CP
    have HA := Lib.hid ha
    rw [ha]
    clear ha
    go_enter Try.func11, Try.ntmps11
    go_wp2_with (first | (go_at_call 27; ((with_reducible refine (C1.out _).mono ?_); rintro e w1 ⟨rfl, rfl⟩; rw [ht])) | (go_at_call 28; ((with_reducible refine (C2.out _).mono ?_); rintro e w1 ⟨rfl, rfl⟩; rw [hl])))
    go_region_held3 (fun w' => w'.cell? ⟨q, 1, none⟩ = some (.pointer (some ⟨a, 0, none⟩)))
      (first | with_reducible exact hc | with_reducible exact keep0 (But.refl No w).drew | with_reducible exact keep0 ((But.refl No w).drewN _) | exact keep1 (But.refl No w).drew hz)
      (first | (go_at_call 30; ((with_reducible refine (CK.out _).mono ?_); rintro e w1 ⟨rfl, rfl⟩)) | (go_at_call 29; ((with_reducible refine (CP.out _ (But.refl No w).drew).mono ?_); rintro e w2 ⟨rfl, hz⟩)))
    have HB1 := Lib.hid (bas1 (But.refl No w).drew hz)
    have hbas := HB1.out.1
    have HZ := Lib.hid hz
    clear hz
    go_wp2_with (first
      | (at_mapUpdate; refine wpList_mapUpdate_in (H := Unit) _ rfl _ _ _ 49 rfl 3 3 hea.keyed Try.underlying49 (plainElem Try.prog 3) m (Maps.size D) D rfl HB1.out.2 (by unfold maxLen; omega) _ _ (hea.ky t) rfl rfl (Maps.keyOf_int_mk Try.underlying3 (wf_of HRT.out.1)) (hea.vl l) [] (plainElem_int Try.underlying3 (wf_of HRT.out.2)) ?_; intro w3 hown3 ht3; have HO3 := Lib.hid hown3; have HT3 := Lib.hid ht3; clear hown3 ht3))
    go_ret
    exact ⟨rfl, add_end HX.out HF.out.1 HF.out.2.1 HF.out.2.2 (But.refl No w).drew HTL.out.1 HTL.out.2 HA.out HZ.out HO3.out HT3.out⟩
  · have HA := Lib.hid ha
    have eb : (addN L t l == 0) = false := by simp [ha]
    have HE : Hid (∀ w2, hea.Mv w.drew Sh a 24 (hea.pushT 24 T H t) (hea.pushL 24 T H t (kf l false t)) w2 → QMv w S q pol (n + 1) (addL L t l) w2) := by
      intro w2 hm
      have hL : addL L t l = L := by unfold addL; rw [if_neg HA.out]
      have hT2 : hea.pushT 24 T H t ≤ n + 1 := by have := HF.out.2.2; unfold hea.pushT; split <;> omega
      rw [hL]
      have hp := pushPr (T := T) HX.out.pr HF.out.1 HTL.out.1 HTL.out.2
      rw [hL] at hp
      obtain ⟨S', k1, k2, k3⟩ := (HX.out.no (But.refl No w).drew).heap (n := n + 1) HF.out.2.1 hm hp HX.out.base HF.out.1 hT2
      exact ⟨S', k1, ((But.refl No w).drew.no (S := S)).andThen k2 (fun k hk => .inl hk), k3⟩
    obtain ⟨r, hr⟩ : ∃ r, r = addN L t l := ⟨_, rfl⟩
    rw [← hr] at CP eb ⊢
    clear hr ha
    go_enter Try.func11, Try.ntmps11
    go_wp2_with (first | (go_at_call 27; ((with_reducible refine (C1.out _).mono ?_); rintro e w1 ⟨rfl, rfl⟩; rw [ht])) | (go_at_call 28; ((with_reducible refine (C2.out _).mono ?_); rintro e w1 ⟨rfl, rfl⟩; rw [hl])))
    go_region_held3 (fun w' => w'.cell? ⟨q, 1, none⟩ = some (.pointer (some ⟨a, 0, none⟩)))
      (first | with_reducible exact hc | with_reducible exact keep0 (But.refl No w).drew | with_reducible exact keep0 ((But.refl No w).drewN _) | exact keep1 (But.refl No w).drew hz)
      (first | (go_at_call 30; ((with_reducible refine (CK.out _).mono ?_); rintro e w1 ⟨rfl, rfl⟩)) | (go_at_call 29; ((with_reducible refine (CP.out _ (But.refl No w).drew).mono ?_); rintro e w2 ⟨rfl, hz⟩)))
    have HZ := Lib.hid hz
    clear hz
    go_wp2
    go_ret
    exact ⟨rfl, HE.out _ HZ.out⟩
end Go.Proofs.Ytbfmoaojimimjaa
