/- Locks: isResource, isTask, Holder, Wants, Has, Queue. -/
import Derived.Test.YtimkdcpghhkloaaLkW
namespace Go.Proofs.Ytimkdcpghhkloaa.lok
open Go.ChangeShapes Go.WideShapes Go.ChangeAt Go.RowKit Go.Deep
theorem isTask_any (t : Int) (w : World) :
    Calls Try.prog 24 #[.int .i64 t] w fun r w' => r = .returned (.bool (taskB t)) ∧ w = w' := by
  by_cases h0 : 0 ≤ t
  · by_cases h1 : t < 24
    · have e : taskB t = true := taskB_iff.2 ⟨h0, h1⟩
      rw [e]
      go_enter Try.func24, Try.ntmps24
      go_wp2
      go_ret
      exact ⟨rfl, rfl⟩
    · have e : taskB t = false := taskB_not.2 (by omega)
      have b1 : decide (t < 24) = false := by simp; omega
      rw [e]
      go_enter Try.func24, Try.ntmps24
      go_wp2
      go_ret
      exact ⟨rfl, rfl⟩
  · have e : taskB t = false := taskB_not.2 (by omega)
    have b1 : decide (t < 0) = true := by simp; omega
    rw [e]
    go_enter Try.func24, Try.ntmps24
    go_wp2
    go_ret
    exact ⟨rfl, rfl⟩
theorem isRes_any (p n : Nat) (N : Int) (q : Nat → List Int) (S : Nat → Prop) (w : World) (res : Int) (h : LP w S p n N q) :
    Calls Try.prog 23 #[.pointer (some ⟨p, 0, none⟩), .int .i64 res] w fun r w' => r = .returned (.bool (resB n res)) ∧ w = w' := by
  have h8 := h.n8
  obtain ⟨b, m, P, Sr, T, L, D, hx, hS⟩ := h
  have c0 := hx.queues
  clear hx hS
  by_cases h0 : 0 ≤ res
  · by_cases h1 : res < n
    · have e : resB n res = true := resB_iff.2 ⟨h0, h1⟩
      rw [e]
      go_enter Try.func23, Try.ntmps23
      go_wp2
      go_ret
      exact ⟨rfl, rfl⟩
    · have e : resB n res = false := resB_not.2 (by omega)
      have b1 : decide (res < n) = false := by simp; omega
      rw [e]
      go_enter Try.func23, Try.ntmps23
      go_wp2
      go_ret
      exact ⟨rfl, rfl⟩
  · have e : resB n res = false := resB_not.2 (by omega)
    have b1 : decide (res < 0) = true := by simp; omega
    rw [e]
    go_enter Try.func23, Try.ntmps23
    go_wp2
    go_ret
    exact ⟨rfl, rfl⟩
theorem wants_any (p n : Nat) (N : Int) (q : Nat → List Int) (S : Nat → Prop) (w : World) (t : Int) (ht : inR t) (h : LP w S p n N q) :
    Calls Try.prog 16 #[.pointer (some ⟨p, 0, none⟩), .int .i64 t] w fun r w' => r = .returned (.int .i64 (wantV n q t)) ∧ But No w w' := by
  obtain ⟨b, m, P, Sr, T, L, D, hx, hS⟩ := h
  have OWN := Lib.hid hx.om
  have h3 := hx.map_
  have HR := Lib.hid ht
  by_cases hw : 0 ≤ wantV n q t
  · have hhas : Maps.has D (ky t) = true := by rw [hx.wants.has]; simpa using hw
    have AT := Lib.hid (hx.wants.at_ t hw)
    clear hx hS ht hw
    generalize wantV n q t = v at AT ⊢
    go_enter Try.func16, Try.ntmps16
    go_wp2_with (at_lookup; refine wpList_lookup_own_ok_int (H := Unit) _ rfl _ _ 50 rfl 3 3 .i64 keyed Try.underlying50 Try.underlying3 (zero3 _) m (Maps.size D) D rfl OWN.out _ (ky t) rfl (Maps.keyOf_int_mk Try.underlying3 (wf_of HR.out)) ?_; intro cc hcc hwc; obtain rfl := at_eq hcc AT.out; clear hcc hwc)
    go_ret
    exact ⟨rfl, But.refl _ _⟩
  · have hhas : Maps.has D (ky t) = false := by rw [hx.wants.has]; simpa using hw
    have e : wantV n q t = -1 := by rcases want_any n q t with ⟨r, k, _⟩ | ⟨k, _⟩ <;> omega
    rw [e]
    clear hx hS ht hw e
    go_enter Try.func16, Try.ntmps16
    go_wp2_with (at_lookup; refine wpList_lookup_own_ok_int (H := Unit) _ rfl _ _ 50 rfl 3 3 .i64 keyed Try.underlying50 Try.underlying3 (zero3 _) m (Maps.size D) D rfl OWN.out _ (ky t) rfl (Maps.keyOf_int_mk Try.underlying3 (wf_of HR.out)) ?_; intro cc hcc hwc; clear hcc hwc)
    go_ret
    exact ⟨rfl, But.refl _ _⟩
set_option maxHeartbeats 1000000 in
theorem holder_any (p n : Nat) (N : Int) (q : Nat → List Int) (S : Nat → Prop) (w : World) (res : Int) (h : LP w S p n N q) :
    Calls Try.prog 14 #[.pointer (some ⟨p, 0, none⟩), .int .i64 res] w fun r w' => r = .returned (.int .i64 (holdV n q res)) ∧ But No w w' := by
  have C1 := Lib.hid (fun W (hb : But No w W) => isRes_any p n N q S W res (h.no hb))
  have h8 := h.n8
  cases hr : resB n res with
  | false =>
    have e : holdV n q res = -1 := by unfold holdV; rw [qi_out hr]; rfl
    rw [e]
    clear h e
    go_enter Try.func14, Try.ntmps14
    go_wp2_with (go_at_call 23; ((with_reducible refine (C1.out _ (But.refl _ _)).mono ?_); rintro e w1 ⟨rfl, rfl⟩; rw [hr]))
    go_ret
    exact ⟨rfl, But.refl _ _⟩
  | true =>
    obtain ⟨b, m, P, Sr, T, L, D, hx, hS⟩ := h
    have hr' := resB_iff.1 hr
    obtain ⟨k, rfl⟩ : ∃ k : Nat, res = k := ⟨res.toNat, by omega⟩
    have hk : k < n := by omega
    have c0 := hx.queues
    have c1 := hx.ptr hk
    obtain ⟨i1, i2⟩ := ids_fst (hx.ids k hk)
    have CH := Lib.hid (fun W (hb : But No w W) => rin.head_any (P k) 24 (T k) (L k) (Sr k) W ((hx.no hb).rg k hk))
    have e : holdV n q k = hd (q k) := by unfold holdV; rw [qi_nat hk]
    rw [e]
    cases hq : q k with
    | nil =>
      rw [hq] at i1
      have i3 : rin.fst3 (L k) = false := by rw [i1]; rfl
      rw [i3] at CH
      generalize rin.fst1 (L k) = v at CH
      clear hx hS i1 i2 i3 hr' e hq
      show Calls _ _ _ _ fun r w' => r = .returned (.int .i64 (-1)) ∧ But No w w'
      go_enter Try.func14, Try.ntmps14
      go_wp2_with (first
        | (go_at_call 23; ((with_reducible refine (C1.out _ (But.refl _ _)).mono ?_); rintro e w1 ⟨rfl, rfl⟩; rw [hr]))
        | (go_at_call 28; ((with_reducible refine (CH.out _ (But.refl _ _)).mono ?_); rintro e w2 ⟨rfl, hz⟩; have HZ := Lib.hid (drewN_but hz); clear hz)))
      go_ret
      exact ⟨rfl, HZ.out⟩
    | cons x l =>
      rw [hq] at i1 i2
      have i3 : rin.fst3 (L k) = true := by rw [i1]; simp
      have i4 : rin.fst1 (L k) = x := i2 (by simp)
      rw [i3, i4] at CH
      clear hx hS i1 i2 i3 i4 hr' e hq
      show Calls _ _ _ _ fun r w' => r = .returned (.int .i64 x) ∧ But No w w'
      go_enter Try.func14, Try.ntmps14
      go_wp2_with (first
        | (go_at_call 23; ((with_reducible refine (C1.out _ (But.refl _ _)).mono ?_); rintro e w1 ⟨rfl, rfl⟩; rw [hr]))
        | (go_at_call 28; ((with_reducible refine (CH.out _ (But.refl _ _)).mono ?_); rintro e w2 ⟨rfl, hz⟩; have HZ := Lib.hid (drewN_but hz); clear hz)))
      go_ret
      exact ⟨rfl, HZ.out⟩
theorem has_any (p n : Nat) (N : Int) (q : Nat → List Int) (S : Nat → Prop) (w : World) (t : Int) (ht : inR t) (h : LP w S p n N q) :
    Calls Try.prog 18 #[.pointer (some ⟨p, 0, none⟩), .int .i64 t] w fun r w' => r = .returned (.bool (hasV n q t)) ∧ But No w w' := by
  have CH := Lib.hid (fun W (hb : But No w W) => holder_any p n N q S W (wantV n q t) (h.no hb))
  obtain ⟨b, m, P, Sr, T, L, D, hx, hS⟩ := h
  have OWN := Lib.hid hx.om
  have h3 := hx.map_
  have HR := Lib.hid ht
  by_cases hw : 0 ≤ wantV n q t
  · have hhas : Maps.has D (ky t) = true := by rw [hx.wants.has]; simpa using hw
    have AT := Lib.hid (hx.wants.at_ t hw)
    have e : hasV n q t = decide (holdV n q (wantV n q t) = t) := by unfold hasV; simp [hw]
    rw [e]
    clear hx hS ht hw e
    generalize wantV n q t = v at AT CH ⊢
    generalize holdV n q v = x at CH ⊢
    have e2 : (x == t) = decide (x = t) := by by_cases h : x = t <;> simp [h]
    go_enter Try.func18, Try.ntmps18
    go_wp2_with (first
      | (at_lookup; refine wpList_lookup_own_ok_int (H := Unit) _ rfl _ _ 50 rfl 3 3 .i64 keyed Try.underlying50 Try.underlying3 (zero3 _) m (Maps.size D) D rfl OWN.out _ (ky t) rfl (Maps.keyOf_int_mk Try.underlying3 (wf_of HR.out)) ?_; intro cc hcc hwc; obtain rfl := at_eq hcc AT.out; clear hcc hwc)
      | (go_at_call 14; ((with_reducible refine (CH.out _ (But.refl _ _)).mono ?_); rintro e w2 ⟨rfl, hz⟩; have HZ := Lib.hid hz; clear hz)))
    go_ret
    exact ⟨retb e2, HZ.out⟩
  · have hhas : Maps.has D (ky t) = false := by rw [hx.wants.has]; simpa using hw
    have e : hasV n q t = false := by unfold hasV; simp [hw]
    rw [e]
    clear hx hS ht hw e CH
    go_enter Try.func18, Try.ntmps18
    go_wp2_with (at_lookup; refine wpList_lookup_own_ok_int (H := Unit) _ rfl _ _ 50 rfl 3 3 .i64 keyed Try.underlying50 Try.underlying3 (zero3 _) m (Maps.size D) D rfl OWN.out _ (ky t) rfl (Maps.keyOf_int_mk Try.underlying3 (wf_of HR.out)) ?_; intro cc hcc hwc; clear hcc hwc)
    go_ret
    exact ⟨rfl, But.refl _ _⟩
theorem queue_out (p n : Nat) (N : Int) (q : Nat → List Int) (S : Nat → Prop) (w : World) (res : Int) (h : LP w S p n N q) (hr : resB n res = false) :
    Calls Try.prog 20 #[.pointer (some ⟨p, 0, none⟩), .int .i64 res] w fun r w' => r = .returned (.slice none 0 0) ∧ w = w' := by
  have C1 := Lib.hid (fun W (hb : But No w W) => isRes_any p n N q S W res (h.no hb))
  clear h
  go_enter Try.func20, Try.ntmps20
  go_wp2_with (go_at_call 23; ((with_reducible refine (C1.out _ (But.refl _ _)).mono ?_); rintro e w1 ⟨rfl, rfl⟩; rw [hr]))
  go_ret
  exact ⟨rfl, rfl⟩
/-- What Queue gives: the tasks, in a block of its own. -/
def LAll (w : World) (l : List Int) (e : Ending) (w' : World) : Prop :=
  ∃ b, e = .returned (.slice (some ⟨b, 0, none⟩) l.length l.length) ∧ Blk w' b (l.map (Value.int .i64)).toArray 3 ∧ But No w w' ∧ w.heap.size ≤ b
theorem queue_in (p n : Nat) (N : Int) (q : Nat → List Int) (S : Nat → Prop) (w : World) (k : Nat) (h : LP w S p n N q) (hk : k < n) :
    Calls Try.prog 20 #[.pointer (some ⟨p, 0, none⟩), .int .i64 k] w (LAll w (q k)) := by
  have C1 := Lib.hid (fun W (hb : But No w W) => isRes_any p n N q S W k (h.no hb))
  rw [resB_nat hk] at C1
  have h8 := h.n8
  obtain ⟨b, m, P, Sr, T, L, D, hx, hS⟩ := h
  have c0 := hx.queues
  have c1 := hx.ptr hk
  have HI := Lib.hid (hx.ids k hk)
  have CA := Lib.hid (fun W (hb : But No w W) => rin.all_any (P k) 24 (T k) (L k) (Sr k) W ((hx.no hb).rg k hk))
  have hk' : (k : Int) < (n : Int) := by omega
  clear hx hS
  go_enter Try.func20, Try.ntmps20
  go_wp2_with (first
    | (go_at_call 23; ((with_reducible refine (C1.out _ (But.refl _ _)).mono ?_); rintro e w1 ⟨rfl, rfl⟩))
    | (go_at_call 29; ((with_reducible refine (CA.out _ (But.refl _ _)).mono ?_); rintro e w2 ⟨b2, rfl, hz⟩; have HZ := Lib.hid hz; clear hz)))
  go_ret
  obtain ⟨z1, z2, z3⟩ := HZ.out
  unfold rin.Ints at z1
  rw [HI.out] at z1
  exact ⟨b2, by rw [ids_len HI.out]; rfl, z1, z2, z3⟩
end Go.Proofs.Ytimkdcpghhkloaa.lok
