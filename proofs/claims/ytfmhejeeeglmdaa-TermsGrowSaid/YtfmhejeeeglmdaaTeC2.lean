/- What the map of longest sections tells; the contract of wait. -/
import Derived.Test.YtfmhejeeeglmdaaTeC1
namespace Go.Proofs.Ytfmhejeeeglmdaa.ter
open Go.ChangeShapes Go.WideShapes Go.ChangeAt Go.RowKit Go.Deep ky2
structure LIs (D : DataW Unit) (L : List Sec) : Prop where
  map : Maps.IsMap D
  fit : ∀ x ∈ L, inR x.1 ∧ inR x.2.1
  has : ∀ c r, inR c → inR r → Maps.has D (kp c r) = decide (0 < mx L c r)
  at_ : ∀ c r, inR c → inR r → ∀ z, D.atKey (kp c r) z = if 0 < mx L c r then vl (mx L c r) else z
theorem LIs.nil : LIs (.map []) [] := ⟨⟨[], rfl⟩, by simp, fun _ _ _ _ => rfl, fun _ _ _ _ _ => rfl⟩
theorem LIs.put {D : DataW Unit} {L : List Sec} (h : LIs D L) {c r n : Int} (hc : inR c) (hr : inR r) (hn : 1 ≤ n) : LIs (D.put (kp c r) (vl (max (mx L c r) n))) (L ++ [(c, r, n)]) := by
  have hp : ∀ a b, mx (L ++ [(c, r, n)]) a b = if c = a ∧ r = b then max (mx L a b) n else mx L a b := fun a b => mx_snoc L (c, r, n) a b
  refine ⟨?_, ?_, fun a b ha hb => ?_, fun a b ha hb z => ?_⟩
  · obtain ⟨es, rfl⟩ := h.map
    exact ⟨_, rfl⟩
  · intro x hx
    rcases List.mem_append.1 hx with hx | hx
    · exact h.fit x hx
    · have : x = (c, r, n) := by simpa using hx
      subst this
      exact ⟨hc, hr⟩
  · rw [hp]
    by_cases e : c = a ∧ r = b
    · obtain ⟨rfl, rfl⟩ := e
      have hx : 0 < max (mx L c r) n := by omega
      simp only [and_self, if_true]
      rw [Maps.has_put_same h.map (kp_key c r)]
      simp [hx]
    · rw [if_neg e, Maps.has_put_other (kp_ne ha hb hc hr (by omega)), h.has a b ha hb]
  · rw [hp]
    by_cases e : c = a ∧ r = b
    · obtain ⟨rfl, rfl⟩ := e
      have hx : 0 < max (mx L c r) n := by omega
      simp only [and_self, if_true]
      rw [Maps.atKey_put_same h.map (kp_key c r), if_pos hx]
    · rw [if_neg e, Maps.atKey_put_other (kp_ne ha hb hc hr (by omega)), h.at_ a b ha hb]
theorem LIs.zero {D : DataW Unit} {L : List Sec} (h : LIs D L) {c r : Int} (hc : inR c) (hr : inR r) : D.atKey (kp c r) (vl 0) = vl (mx L c r) := by
  rw [h.at_ c r hc hr]
  have := mx_pos L c r
  by_cases e : 0 < mx L c r
  · rw [if_pos e]
  · rw [if_neg e]; have : mx L c r = 0 := by omega
    rw [this]
theorem vl_inj {a b : Int} (h : vl a = vl b) : a = b := by
  unfold vl at h
  cases h; rfl
theorem sm_in {L : List Sec} (hb : ∀ c r, mx L c r ≤ 1099511627776) (own r : Int) (n : Nat) (h : n ≤ 8) : 0 ≤ sm L own r n ∧ sm L own r n ≤ 8796093022216 := by
  refine ⟨sm_pos L own r n, ?_⟩
  have : ∀ k : Nat, sm L own r k ≤ (k : Int) * 1099511627777 := fun k => by
    induction k with
    | zero => simp [sm]
    | succ k ih =>
      rw [sm]
      have := hb k r
      push_cast
      split <;> omega
  have := this n
  omega
set_option maxRecDepth 100000 in
set_option maxHeartbeats 2000000 in
theorem wait_any (L : List Sec) (D : DataW Unit) (mb N : Nat) (co own res : Int) (w : World) (hO : OM w mb N D) (hI : LIs D L) (hb : ∀ c r, mx L c r ≤ 1099511627776) (h0 : 0 ≤ co) (h8 : co ≤ 8) (hr : inR res) :
    Calls Try.prog 24 #[.map (some mb), .int .i64 co, .int .i64 own, .int .i64 res] w fun e w' => e = .returned (.int .i64 (sm L own res co.toNat)) ∧ w' = w := by
  obtain ⟨n, rfl⟩ : ∃ n : Nat, co = (n : Int) := ⟨co.toNat, by omega⟩
  have h8' : n ≤ 8 := by omega
  clear h0 h8
  rw [Int.toNat_natCast]
  have OWN := Lib.hid hO
  have HI := Lib.hid hI
  have HBD := Lib.hid hb
  have HR := Lib.hid hr
  clear hO hI hb hr
  go_enter Try.func24, Try.ntmps24
  go_wp2_with fail
  go_loopw [9, 14] (fun a t wr => ∃ k : Nat, a = .int .i64 (sm L own res k) ∧ t = .int .i64 k ∧ k ≤ n ∧ Hid (wr = w)) (fun _ t _ => n - (intOf t).toNat)
  case atStart => exact ⟨0, rfl, rfl, by omega, rfl⟩
  case round =>
    obtain ⟨k, rfl, rfl, hk, hw⟩ := hrel
    obtain rfl := hw.out
    clear hw
    have KEY := Lib.hid (keyOf_two (a := (k : Int)) (b := res) (wf_of (inR_nat (by omega))) (wf_of HR.out))
    have HHAS := HI.out.has k res (inR_nat (by omega)) HR.out
    have HAT := HI.out.at_ k res (inR_nat (by omega)) HR.out
    have hs := sm_in HBD.out own res k (by omega)
    have hm := HBD.out k res
    have hm0 := mx_pos L k res
    have HSM := Lib.hid (show sm L own res (k + 1) = sm L own res k + (if 0 < mx L k res ∧ (k : Int) ≠ own then mx L k res + 1 else 0) from rfl)
    obtain ⟨S0, hS0⟩ : ∃ S0, sm L own res k = S0 := ⟨_, rfl⟩
    have HS0 := Lib.hid hS0
    rw [hS0] at HSM hs ⊢
    clear hS0
    generalize mx L (k : Int) res = M at *
    by_cases hlt : k < n
    · have kn' : (k : Int) < (n : Int) := by omega
      by_cases hM : 0 < M
      · have hH : Hid (Maps.has D (kp k res) = true) := Lib.hid (by rw [HHAS]; simp [hM])
        have AT : Hid (∀ z, D.atKey (kp k res) z = vl M) := Lib.hid (fun z => by rw [HAT, if_pos hM])
        clear HHAS HAT
        by_cases ho : (k : Int) = own
        · have hE : Hid (sm L own res (k + 1) = S0) := Lib.hid (by rw [HSM.out, if_neg (fun h => h.2 ho)]; omega)
          clear HSM
          obtain rfl : own = (k : Int) := ho.symm
          go_wp2_with (at_lookup; refine wpList_lookup_own_ok_int (H := Unit) _ rfl _ _ 41 rfl 44 3 .i64 keyed Try.underlying41 Try.underlying3 (zero3 _) mb N D rfl OWN.out _ (kp k res) rfl KEY.out ?_; intro cc hcc hwc; obtain rfl := at_eq hcc AT.out; clear hcc hwc; rw [hH.out])
          go_roundw
          case rel => exact ⟨k + 1, by rw [hE.out], by go_num, by omega, by first | exact rfl | exact trivial⟩
          case measure => simp [intOf]; omega
        · have hE : Hid (sm L own res (k + 1) = S0 + (M + 1)) := Lib.hid (by rw [HSM.out, if_pos ⟨hM, ho⟩])
          clear HSM
          have ho2 : decide ((k : Int) = own) = false := by simp [ho]
          go_wp2_with (at_lookup; refine wpList_lookup_own_ok_int (H := Unit) _ rfl _ _ 41 rfl 44 3 .i64 keyed Try.underlying41 Try.underlying3 (zero3 _) mb N D rfl OWN.out _ (kp k res) rfl KEY.out ?_; intro cc hcc hwc; obtain rfl := at_eq hcc AT.out; clear hcc hwc; rw [hH.out])
          go_roundw
          case rel => exact ⟨k + 1, by rw [hE.out], by go_num, by omega, by first | exact rfl | exact trivial⟩
          case measure => simp [intOf]; omega
      · have hH : Hid (Maps.has D (kp k res) = false) := Lib.hid (by rw [HHAS]; simp [hM])
        have hE : Hid (sm L own res (k + 1) = S0) := Lib.hid (by have e := HSM.out; rw [if_neg (fun h => hM h.1)] at e; omega)
        clear HHAS HAT HSM
        go_wp2_with (at_lookup; refine wpList_lookup_own_ok_int (H := Unit) _ rfl _ _ 41 rfl 44 3 .i64 keyed Try.underlying41 Try.underlying3 (zero3 _) mb N D rfl OWN.out _ (kp k res) rfl KEY.out ?_; intro cc hcc hwc; clear hcc hwc; rw [hH.out])
        go_roundw
        case rel => exact ⟨k + 1, by rw [hE.out], by go_num, by omega, by first | exact rfl | exact trivial⟩
        case measure => simp [intOf]; omega
    · have hE : Hid (k = n) := Lib.hid (by omega)
      have b3 : decide ((k : Int) < (n : Int)) = false := by simp; omega
      clear HHAS HAT HSM
      go_wp2
      go_ret
      exact ⟨ret1 (by rw [← HS0.out, hE.out]), rfl⟩
end Go.Proofs.Ytfmhejeeeglmdaa.ter
