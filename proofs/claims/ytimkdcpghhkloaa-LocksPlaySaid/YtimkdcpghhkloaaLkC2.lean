/- Locks: Ask, Free. -/
import Derived.Test.YtimkdcpghhkloaaLkC1
import Derived.Maps.OwnOps
namespace Go.Proofs.Ytimkdcpghhkloaa.lok
open Go.ChangeShapes Go.WideShapes Go.ChangeAt Go.RowKit Go.Deep
theorem want_ask {n : Nat} {q : Nat → List Int} (h : LK n q) {res t : Int} (he : askE n q res t = 0) (a : Int) : wantV n (askQ n q res t) a = if a = t then res else wantV n q a := by
  have h' := h.ask res t
  have hr : 0 ≤ res := by
    rcases ask_cases n q res t with ⟨_, e⟩ | ⟨_, _, _, e⟩ | ⟨h1, _⟩
    · omega
    · omega
    · exact (resB_iff.1 h1).1
  have e : askQ n q res t = upd q res.toNat (q res.toNat ++ [t]) := by unfold askQ; rw [if_pos he]
  by_cases ea : a = t
  · subst ea
    rw [if_pos rfl, want_in h' (r := res.toNat) (by rw [e, upd_same]; simp)]
    omega
  · rw [if_neg ea]
    rcases want_cases h a with ⟨r, k, hr', _⟩ | ⟨k, hno⟩
    · rw [k]
      refine want_in h' ?_
      rw [e]
      by_cases er : r = res.toNat
      · subst er; rw [upd_same]; exact List.mem_append_left _ hr'
      · rw [upd_other _ _ er]; exact hr'
    · rw [k]
      refine want_out h' fun r hm => ?_
      rw [e] at hm
      by_cases er : r = res.toNat
      · subst er
        rw [upd_same] at hm
        rcases List.mem_append.1 hm with c | c
        · exact hno _ c
        · exact ea (by simpa using c)
      · rw [upd_other _ _ er] at hm; exact hno _ hm
theorem want_free {n : Nat} {q : Nat → List Int} (h : LK n q) {t : Int} (hh : hasV n q t = true) (a : Int) : wantV n (freQ n q t) a = if a = t then -1 else wantV n q a := by
  have h' := h.free t
  rcases has_cases h t with ⟨r, l, hr, hq, hw, _, _⟩ | ⟨e, _⟩
  · have e : freQ n q t = upd q r l := by unfold freQ; rw [if_pos hh, hw]; simp [hq]
    rw [e] at h' ⊢
    have hnd := h.nd r
    rw [hq, List.pairwise_cons] at hnd
    by_cases ea : a = t
    · subst ea
      rw [if_pos rfl]
      refine want_out h' fun s hm => ?_
      by_cases es : s = r
      · subst es; rw [upd_same] at hm; exact hnd.1 a hm rfl
      · rw [upd_other _ _ es] at hm; exact es (h.one s r a hm (by rw [hq]; simp))
    · rw [if_neg ea]
      rcases want_cases h a with ⟨s, k, hs, _⟩ | ⟨k, hno⟩
      · rw [k]
        refine want_in h' ?_
        by_cases es : s = r
        · subst es
          rw [hq] at hs
          rw [upd_same]
          rcases List.mem_cons.1 hs with c | c
          · exact absurd c ea
          · exact c
        · rw [upd_other _ _ es]; exact hs
      · rw [k]
        refine want_out h' fun s hm => ?_
        by_cases es : s = r
        · subst es; rw [upd_same] at hm; exact hno s (by rw [hq]; exact List.mem_cons_of_mem _ hm)
        · rw [upd_other _ _ es] at hm; exact hno s hm
  · rw [hh] at e; cases e
theorem WantIs.put {D : DataW Unit} {n : Nat} {q : Nat → List Int} (h : WantIs D n q) (hk : LK n q) {res t : Int} (he : askE n q res t = 0) : WantIs (D.put (ky t) (vl res)) n (askQ n q res t) := by
  have hr : 0 ≤ res := by
    rcases ask_cases n q res t with ⟨_, e⟩ | ⟨_, _, _, e⟩ | ⟨h1, _⟩
    · omega
    · omega
    · exact (resB_iff.1 h1).1
  refine ⟨h.tidy.put (isKey _) _, fun a => ?_, fun a ha z => ?_⟩
  · rw [want_ask hk he]
    by_cases ea : a = t
    · subst ea; rw [if_pos rfl, Maps.has_put_same h.tidy.isMap (isKey _)]; simpa using hr
    · rw [if_neg ea, Maps.has_put_other (ky_ne ea), h.has]
  · rw [want_ask hk he] at ha ⊢
    by_cases ea : a = t
    · subst ea; rw [if_pos rfl]; exact Maps.atKey_put_same h.tidy.isMap (isKey _) _ _
    · rw [if_neg ea] at ha ⊢; rw [Maps.atKey_put_other (ky_ne ea)]; exact h.at_ a ha z
theorem WantIs.del {D : DataW Unit} {n : Nat} {q : Nat → List Int} (h : WantIs D n q) (hk : LK n q) {t : Int} (hh : hasV n q t = true) : WantIs (D.del (ky t)) n (freQ n q t) := by
  refine ⟨h.tidy.del _, fun a => ?_, fun a ha z => ?_⟩
  · rw [want_free hk hh]
    by_cases ea : a = t
    · subst ea; rw [if_pos rfl, Maps.has_del_same]; rfl
    · rw [if_neg ea, Maps.has_del_other (ky_ne ea), h.has]
  · rw [want_free hk hh] at ha ⊢
    by_cases ea : a = t
    · subst ea; rw [if_pos rfl] at ha; omega
    · rw [if_neg ea] at ha ⊢; rw [Maps.atKey_del_other (ky_ne ea)]; exact h.at_ a ha z
def AskEnd (w : World) (S : Nat → Prop) (p n : Nat) (N : Int) (q : Nat → List Int) (res t : Int) (e : Ending) (w' : World) : Prop :=
  e = .returned (.tuple #[.int .i64 (askA n q res t), .int .i64 (askE n q res t)]) ∧ LMv w S p n (N + 1) (askQ n q res t) w'
theorem ask_bad (p n : Nat) (N : Int) (q : Nat → List Int) (S : Nat → Prop) (w : World) (res t : Int) (h : LP w S p n N q) (hb : resB n res = false ∨ taskB t = false) :
    Calls Try.prog 10 #[.pointer (some ⟨p, 0, none⟩), .int .i64 res, .int .i64 t] w fun r w' => r = .returned (.tuple #[.int .i64 0, .int .i64 1]) ∧ But No w w' := by
  have C1 := Lib.hid (fun W (hb : But No w W) => isRes_any p n N q S W res (h.no hb))
  have C2 := Lib.hid (fun W => isTask_any t W)
  clear h
  cases hr : resB n res with
  | false =>
    clear hb
    go_enter Try.func10, Try.ntmps10
    go_wp2_with (first | (go_at_call 23; ((with_reducible refine (C1.out _ (But.refl _ _)).mono ?_); rintro e w1 ⟨rfl, rfl⟩; rw [hr])))
    go_ret2
    exact ⟨rfl, But.refl _ _⟩
  | true =>
    have ht : taskB t = false := by simpa [hr] using hb
    clear hb
    go_enter Try.func10, Try.ntmps10
    go_wp2_with (first | (go_at_call 23; ((with_reducible refine (C1.out _ (But.refl _ _)).mono ?_); rintro e w1 ⟨rfl, rfl⟩; rw [hr])) | (go_at_call 24; ((with_reducible refine (C2.out _).mono ?_); rintro e w1 ⟨rfl, rfl⟩; rw [ht])))
    go_ret2
    exact ⟨rfl, But.refl _ _⟩
theorem ask_twice (p n : Nat) (N : Int) (q : Nat → List Int) (S : Nat → Prop) (w : World) (res t : Int) (h : LP w S p n N q) (hr : resB n res = true) (ht : taskB t = true) (hw : 0 ≤ wantV n q t) :
    Calls Try.prog 10 #[.pointer (some ⟨p, 0, none⟩), .int .i64 res, .int .i64 t] w fun r w' => r = .returned (.tuple #[.int .i64 0, .int .i64 4]) ∧ But No w w' := by
  have C1 := Lib.hid (fun W (hb : But No w W) => isRes_any p n N q S W res (h.no hb))
  have C2 := Lib.hid (fun W => isTask_any t W)
  have bt := taskB_iff.1 ht
  have hR : inR t := by unfold inR; omega
  obtain ⟨b, m, P, Sr, T, L, D, hx, hS⟩ := h
  have OWN := Lib.hid hx.om
  have h3 := hx.map_
  have HR := Lib.hid hR
  have hhas : Maps.has D (ky t) = true := by rw [hx.wants.has]; simpa using hw
  clear hx hS hw hR bt
  go_enter Try.func10, Try.ntmps10
  go_wp2_with (first
    | (go_at_call 23; ((with_reducible refine (C1.out _ (But.refl _ _)).mono ?_); rintro e w1 ⟨rfl, rfl⟩; rw [hr]))
    | (go_at_call 24; ((with_reducible refine (C2.out _).mono ?_); rintro e w1 ⟨rfl, rfl⟩; rw [ht]))
    | (at_lookup; refine wpList_lookup_own_ok_int (H := Unit) _ rfl _ _ 50 rfl 3 3 .i64 keyed Try.underlying50 Try.underlying3 (zero3 _) m (Maps.size D) D rfl OWN.out _ (ky t) rfl (Maps.keyOf_int_mk Try.underlying3 (wf_of HR.out)) ?_; intro cc hcc hwc; clear hcc hwc))
  go_ret2
  exact ⟨rfl, But.refl _ _⟩
set_option maxHeartbeats 1000000 in
theorem ask_ok (p n : Nat) (N : Int) (q : Nat → List Int) (S : Nat → Prop) (w : World) (k : Nat) (t : Int) (h : LP w S p n N q) (hN : N < 1000000) (he : askE n q k t = 0) :
    Calls Try.prog 10 #[.pointer (some ⟨p, 0, none⟩), .int .i64 k, .int .i64 t] w (AskEnd w S p n N q k t) := by
  obtain ⟨hr, ht, hw⟩ : resB n (k : Int) = true ∧ taskB t = true ∧ ¬ 0 ≤ wantV n q t := by
    rcases ask_cases n q k t with ⟨_, e⟩ | ⟨_, _, _, e⟩ | ⟨h1, h2, h3, _⟩
    · omega
    · omega
    · exact ⟨h1, h2, h3⟩
  have C1 := Lib.hid (fun W (hb : But No w W) => isRes_any p n N q S W k (h.no hb))
  have C2 := Lib.hid (fun W => isTask_any t W)
  have bt := taskB_iff.1 ht
  have hR : inR t := by unfold inR; omega
  have hk : k < n := by have := (resB_iff.1 hr).2; omega
  have h8 := h.n8
  have hno : t ∉ q k := by
    intro hm
    have := want_in h.ok hm
    omega
  have hlen := h.ok.room bt.1 bt.2 hno
  have hlk := h.ok.ask k t
  obtain ⟨b, m, P, Sr, T, L, D, hx, hS⟩ := h
  have OWN := Lib.hid hx.om
  have h3 := hx.map_
  have c0 := hx.queues
  have c1 := hx.ptr hk
  have HR := Lib.hid hR
  have hhas : Maps.has D (ky t) = false := by rw [hx.wants.has]; simpa using hw
  have hsz : (Maps.size D : Int) ≤ N := hx.sz
  have hL := ids_len (hx.ids k hk)
  have eP : rin.putE 24 (L k) t = 0 := by
    unfold rin.putE
    rw [if_neg (ids_idx (hx.ids k hk) hno), if_neg (by omega)]
  have eA : askA n q k t = (L k).length := by unfold askA; rw [if_pos he]; show ((q k).length : Int) = _; omega
  have eL : rin.putL 24 (T k) (L k) t = L k ++ [⟨t, T k + 1⟩] := by unfold rin.putL; rw [if_pos eP]
  have eT : rin.putT 24 (T k) (L k) t = T k + 1 := by unfold rin.putT; rw [if_pos eP]
  have CL := Lib.hid (fun W (hb : But No w W) => rin.len_any (P k) 24 (T k) (L k) (Sr k) W ((hx.no hb).rg k hk))
  have CP := Lib.hid (fun W (hb : But No w W) => rin.put_any (P k) 24 (T k) (L k) (Sr k) W t ((hx.no hb).rg k hk) hR (by have := hx.tb k hk; omega))
  rw [eP, eL, eT] at CP
  have HE : Hid (∀ W1 W2 W3 : World, But No w W1 → rin.Mv W1 (Sr k) (P k) 24 (T k + 1) (L k ++ [⟨t, T k + 1⟩]) W2 → OM W3 m (Maps.size D + 1) (D.put (ky t) (vl k)) → W2.mapTurned W3 m → LMv w S p n (N + 1) (askQ n q k t) W3) := by
    intro W1 W2 W3 hb hm ho htn
    obtain ⟨z1, z2⟩ := (hx.no hb).turn hk (S := S) (N' := N + 1) hS hm ((But.refl _ W2).turnedL htn (just m)) ho (hx.wants.put hx.ok he) (q' := askQ n q k t) (by
        unfold askQ; rw [if_pos he, Int.toNat_natCast, upd_same, List.map_append, hx.ids k hk]; rfl)
      (fun s hs => by unfold askQ; rw [if_pos he, Int.toNat_natCast, upd_other _ _ hs]) (by have := hx.tb k hk; omega) (by omega) (by rw [Maps.size_put hx.wants.tidy, hhas]; simp; omega) hlk
    exact ⟨z1, (hb.no (S := S)).trans z2⟩
  have HK : Hid (∀ W1 W2 : World, But No w W1 → rin.Mv W1 (Sr k) (P k) 24 (T k + 1) (L k ++ [⟨t, T k + 1⟩]) W2 → W2.cell? ⟨p, 1, none⟩ = some (.map (some m)) ∧ OM W2 m (Maps.size D) D) := by
    intro W1 W2 hb hm
    have x1 := hx.no hb
    obtain ⟨k1, k2⟩ := hm
    exact ⟨(x1.blk.but k2 (hx.ps k hk).1).cell (o := 1) rfl, x1.om.but k2 (hx.ps k hk).2.2⟩
  have hk' : (k : Int) < (n : Int) := by omega
  unfold AskEnd
  rw [he, eA]
  generalize hB : (L k).length = before at CL
  generalize rin.putK 24 (T k) (L k) t = kk at CP
  clear hx hS hR bt hno hlen hlk hw eA eP eL eT hL hB
  go_enter Try.func10, Try.ntmps10
  go_wp2_with (first
    | (go_at_call 23; ((with_reducible refine (C1.out _ (But.refl _ _)).mono ?_); rintro e w1 ⟨rfl, rfl⟩; rw [hr]))
    | (go_at_call 24; ((with_reducible refine (C2.out _).mono ?_); rintro e w1 ⟨rfl, rfl⟩; rw [ht]))
    | (at_lookup; refine wpList_lookup_own_ok_int (H := Unit) _ rfl _ _ 50 rfl 3 3 .i64 keyed Try.underlying50 Try.underlying3 (zero3 _) m (Maps.size D) D rfl OWN.out _ (ky t) rfl (Maps.keyOf_int_mk Try.underlying3 (wf_of HR.out)) ?_; intro cc hcc hwc; clear hcc hwc)
    | (go_at_call 25; ((with_reducible refine (CL.out _ (But.refl _ _)).mono ?_); rintro e w1 ⟨rfl, rfl⟩))
    | (go_at_call 26; ((with_reducible refine (CP.out _ (But.refl _ _)).mono ?_); rintro e w2 ⟨rfl, hz⟩; have HZ := Lib.hid hz; have HB := Lib.hid (HK.out _ _ (But.refl _ _) hz); have hbas := HB.out.1; clear hz))
    | (at_mapUpdate; refine wpList_mapUpdate_in (H := Unit) _ rfl _ _ _ 50 rfl 3 3 keyed Try.underlying50 (plainElem Try.prog 3) m (Maps.size D) D rfl HB.out.2 (by unfold maxLen; omega) _ _ (ky t) rfl rfl (Maps.keyOf_int_mk Try.underlying3 (wf_of HR.out)) (vl k) [] (plainElem_int Try.underlying3 (wf_of (inR_nat (by omega)))) ?_; intro w3 hown3 ht3; have HO3 := Lib.hid hown3; have HT3 := Lib.hid ht3; clear hown3 ht3))
  go_ret2
  exact ⟨rfl, HE.out _ _ _ (But.refl _ _) HZ.out HO3.out HT3.out⟩
theorem ask_any (p n : Nat) (N : Int) (q : Nat → List Int) (S : Nat → Prop) (w : World) (res t : Int) (h : LP w S p n N q) (hN : N < 1000000) :
    Calls Try.prog 10 #[.pointer (some ⟨p, 0, none⟩), .int .i64 res, .int .i64 t] w (AskEnd w S p n N q res t) := by
  have stay : askE n q res t ≠ 0 → ∀ w', But No w w' → LMv w S p n (N + 1) (askQ n q res t) w' := fun e w' hb => by
    unfold askQ; rw [if_neg e]; exact h.stay hb (by omega)
  rcases ask_cases n q res t with ⟨hb, e⟩ | ⟨h1, h2, h3, e⟩ | ⟨h1, _, _, e⟩
  · refine (ask_bad p n N q S w res t h hb).mono fun r w' ⟨k1, k2⟩ => ⟨?_, stay (by omega) w' k2⟩
    rw [k1]; exact ret2i (by unfold askA; rw [if_neg (by omega)]) e.symm
  · refine (ask_twice p n N q S w res t h h1 h2 h3).mono fun r w' ⟨k1, k2⟩ => ⟨?_, stay (by omega) w' k2⟩
    rw [k1]; exact ret2i (by unfold askA; rw [if_neg (by omega)]) e.symm
  · have := (resB_iff.1 h1).1
    obtain ⟨k, rfl⟩ : ∃ k : Nat, res = k := ⟨res.toNat, by omega⟩
    exact ask_ok p n N q S w k t h hN e
end Go.Proofs.Ytimkdcpghhkloaa.lok
