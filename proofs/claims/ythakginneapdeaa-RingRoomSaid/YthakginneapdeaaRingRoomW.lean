/- A ring has never more than its room, and takes everybody that is not there while there is room: RingRoom returns true. (The walk.) -/
import Derived.Test.YthakginneapdeaaN
namespace Go.Proofs.Ythakginneapdeaa.ringRoom
open Go.ChangeShapes Go.WideShapes Go.ChangeAt Go.RowKit Go.Deep
def Rel (w wr : World) (p : Nat) (r : Int) (k : Nat) : Prop := ∃ S T L, Hw w wr S p r T L ∧ T ≤ k
set_option maxHeartbeats 4000000 in
set_option maxRecDepth 100000 in
theorem walk (a0 : Int) (w0 : (Lit.int .i64 a0).wf = true) (A : Option Addr) (n c : Nat) (zs : List Int) (hnc : n ≤ c) (w : World) (hd : Rd w A n zs) :
    Calls Try.prog 5 #[.int .i64 a0, .slice A n c] w fun e w' => e = .returned (.bool true) ∧ But No w w' := by
  have k0 := pk_lt a0 257 (by omega)
  obtain ⟨r, hr⟩ : ∃ r : Nat, pk a0 257 = (r : Int) := ⟨(pk a0 257).toNat, by omega⟩
  have hr256 : r ≤ 256 := by omega
  have CP0 : Hid (∀ w, Calls Try.prog 10 #[.int .i64 a0, .int .i64 257] w fun e w' => e = .returned (.int .i64 (r : Int)) ∧ w = w') := fun w => by rw [← hr]; exact pick_any a0 257 w (inR_of w0) (by omega) (by omega)
  have HD := Lib.hid hd
  have hmax := hd.max
  clear w0 hd k0 hr hnc
  go_enter Try.func5, Try.ntmps5
  go_wp2_with (first
    | (go_at_call 7; refine (examples_any _).mono ?_; rintro e we ⟨rfl, hbe⟩; have HE := Lib.hid hbe; clear hbe)
    | (go_at_call 10; refine (CP0.out _).mono ?_; rintro e w2 ⟨rfl, rfl⟩)
    | (go_at_call 8; refine (new_ok (r : Int) _ (by omega) (by omega)).mono ?_; rintro e w1 ⟨p, rfl, hne⟩; have HN1 := Lib.hid hne; clear hne))
  have H1 : Hid (Rel w w1 p r 0) := by
    obtain ⟨S, hp, hb, hs⟩ := HN1.out
    exact ⟨S, 0, [], ⟨hp, HE.out.trans hb, fun k hk => Nat.le_trans HE.out.size (hs k hk)⟩, by omega⟩
  clear HN1 HE
  go_loopw [8] (fun s wr => ∃ k : Nat, s = .int .i64 k ∧ k ≤ n ∧ k ≤ 300 ∧ Hid (Rel w wr p r k)) (fun s _ => n - (intOf s).toNat)
  case atStart => exact ⟨0, rfl, by omega, by omega, H1⟩
  case round =>
    obtain ⟨k, rfl, hk, hk3, hrel⟩ := hrel
    clear H1
    obtain ⟨S, T, L, hs, htk⟩ := hrel.out
    have HS := Lib.hid hs
    have HTK := Lib.hid htk
    have hT : T < 1000000 := by omega
    clear hs htk hrel
    by_cases hgo : k < n ∧ k < 300
    · obtain ⟨hlt, hl3⟩ := hgo
      obtain ⟨eb, eoff, rfl, hbl, hc⟩ := (HD.out.no HS.out.but).at_ (by omega)
      replace hc := hc k hlt
      have FI : Hid (inR (zs.getD k 0)) := HD.out.fit k
      generalize zs.getD k 0 = x at hc FI
      have kn' : (k : Int) < (n : Int) := by omega
      have k3' : (k : Int) < 300 := by omega
      have CPL : Hid (∀ w', Hw w w' S p r T L → Calls Try.prog 21 #[.pointer (some ⟨p, 0, none⟩), .int .i64 x] w' fun e w'' => e = .returned (.int .i64 (idx L x)) ∧ ∃ m, w'' = w'.drewN m) := fun w' h' => place_any p r T L S w' x h'.rp
      have CL1 : Hid (∀ w', Hw w w' S p r T L → Calls Try.prog 20 #[.pointer (some ⟨p, 0, none⟩)] w' fun e w'' => e = .returned (.int .i64 L.length) ∧ w'' = w') := fun w' h' => len_any p r T L S w' h'.rp
      have CPU : Hid (∀ w', Hw w w' S p r T L → Calls Try.prog 11 #[.pointer (some ⟨p, 0, none⟩), .int .i64 x] w' fun e w'' => e = .returned (.tuple #[.int .i64 (putK r T L x), .int .i64 (putE r L x)]) ∧ Mv w' S p r (putT r T L x) (putL r T L x) w'') := fun w' h' => put_any p r T L S w' x h'.rp FI.out hT
      have hlen := HS.out.rp.len
      obtain ⟨n8, hn8⟩ : ∃ n8, n8 = L.length := ⟨_, rfl⟩
      rw [← hn8] at CL1 hlen
      have hlenN : n8 ≤ r := by omega
      have HN8 := Lib.hid hn8
      clear hlen
      unfold putK putT putL at CPU
      by_cases hi : 0 ≤ idx L x
      · have e4 : putE r L x = 4 := by unfold putE; rw [if_pos hi]
        rw [e4, if_neg (by omega), if_neg (by omega), if_neg (by omega)] at CPU
        generalize idx L x = I at CPL hi
        have b1 : decide (0 ≤ I) = true := by simpa using hi
        have b2 : decide ((r : Int) < (n8 : Int)) = false := by simp; omega
        obtain ⟨fb, hfb⟩ : ∃ fb, ((n8 : Int) == (r : Int)) = fb := ⟨_, rfl⟩
        clear e4 hi hn8
        have CL2 : Hid (∀ w', Hw w w' S p r T L → Calls Try.prog 20 #[.pointer (some ⟨p, 0, none⟩)] w' fun e w'' => e = .returned (.int .i64 n8) ∧ w'' = w') := fun w' h' => by
          have := len_any p r _ _ S w' h'.rp
          rw [HN8.out]; exact this
        go_wp2_with (first | (go_at_call 21; refine (CPL.out _ HS.out).mono ?_; rintro e w2 ⟨rfl, hw⟩; have H2 := Lib.hid (HS.out.no (drewN_but hw)); have hxc : w2.cell? ⟨eb, eoff + k, none⟩ = some (.int .i64 x) := (by rw [(drewN_but hw).cell hbl (fun f => f)]; exact hc); clear hw) | (go_at_call 20; refine (CL1.out _ H2.out).mono ?_; rintro e w3 ⟨rfl, rfl⟩) | (go_at_call 11; refine (CPU.out _ H2.out).mono ?_; rintro e w4 ⟨rfl, hm⟩; have H4 := Lib.hid (H2.out.step hm); clear hm) | (go_at_call 20; refine (CL2.out _ H4.out).mono ?_; rintro e w5 ⟨rfl, rfl⟩))
        go_roundw
        case rel => exact ⟨k + 1, by go_num, by omega, by omega, S, T, L, H4.out, by have := HTK.out; omega⟩
        case measure => simp [intOf]; omega
      · by_cases hf : n8 = r
        · have e3 : putE r L x = 3 := by unfold putE; rw [if_neg hi, if_pos (by omega)]
          rw [e3, if_neg (by omega), if_neg (by omega), if_neg (by omega)] at CPU
          generalize idx L x = I at CPL hi
          have b1 : decide (0 ≤ I) = false := by simpa using hi
          have b2 : decide ((r : Int) < (n8 : Int)) = false := by simp; omega
          have b3 : ((n8 : Int) == (r : Int)) = true := by simp; omega
          clear e3 hi hn8
          have CL2 : Hid (∀ w', Hw w w' S p r T L → Calls Try.prog 20 #[.pointer (some ⟨p, 0, none⟩)] w' fun e w'' => e = .returned (.int .i64 n8) ∧ w'' = w') := fun w' h' => by
            have := len_any p r _ _ S w' h'.rp
            rw [HN8.out]; exact this
          go_wp2_with (first | (go_at_call 21; refine (CPL.out _ HS.out).mono ?_; rintro e w2 ⟨rfl, hw⟩; have H2 := Lib.hid (HS.out.no (drewN_but hw)); have hxc : w2.cell? ⟨eb, eoff + k, none⟩ = some (.int .i64 x) := (by rw [(drewN_but hw).cell hbl (fun f => f)]; exact hc); clear hw) | (go_at_call 20; refine (CL1.out _ H2.out).mono ?_; rintro e w3 ⟨rfl, rfl⟩) | (go_at_call 11; refine (CPU.out _ H2.out).mono ?_; rintro e w4 ⟨rfl, hm⟩; have H4 := Lib.hid (H2.out.step hm); clear hm) | (go_at_call 20; refine (CL2.out _ H4.out).mono ?_; rintro e w5 ⟨rfl, rfl⟩))
          go_roundw
          case rel => exact ⟨k + 1, by go_num, by omega, by omega, S, T, L, H4.out, by have := HTK.out; omega⟩
          case measure => simp [intOf]; omega
        · have e0 : putE r L x = 0 := by unfold putE; rw [if_neg hi, if_neg (by omega)]
          rw [e0, if_pos rfl, if_pos rfl, if_pos rfl] at CPU
          generalize idx L x = I at CPL hi
          have b1 : decide (0 ≤ I) = false := by simpa using hi
          obtain ⟨n9, hn9⟩ : ∃ n9, n9 = n8 + 1 := ⟨_, rfl⟩
          have b2 : decide ((r : Int) < (n9 : Int)) = false := by simp; omega
          have b4 : n9 ≤ r := by omega
          have b5 : ¬ r < n9 := by omega
          have b3 : ((n8 : Int) == (r : Int)) = false := by simp; omega
          clear e0 hi hn8
          have CL2 : Hid (∀ w', Hw w w' S p r (T + 1) (L ++ [⟨x, T + 1⟩]) → Calls Try.prog 20 #[.pointer (some ⟨p, 0, none⟩)] w' fun e w'' => e = .returned (.int .i64 n9) ∧ w'' = w') := fun w' h' => by
            have := len_any p r _ _ S w' h'.rp
            rw [List.length_append, ← HN8.out] at this; rw [hn9]; exact this
          clear hn9
          go_wp2_with (first | (go_at_call 21; refine (CPL.out _ HS.out).mono ?_; rintro e w2 ⟨rfl, hw⟩; have H2 := Lib.hid (HS.out.no (drewN_but hw)); have hxc : w2.cell? ⟨eb, eoff + k, none⟩ = some (.int .i64 x) := (by rw [(drewN_but hw).cell hbl (fun f => f)]; exact hc); clear hw) | (go_at_call 20; refine (CL1.out _ H2.out).mono ?_; rintro e w3 ⟨rfl, rfl⟩) | (go_at_call 11; refine (CPU.out _ H2.out).mono ?_; rintro e w4 ⟨rfl, hm⟩; have H4 := Lib.hid (H2.out.step hm); clear hm) | (go_at_call 20; refine (CL2.out _ H4.out).mono ?_; rintro e w5 ⟨rfl, rfl⟩))
          go_roundw
          case rel => exact ⟨k + 1, by go_num, by omega, by omega, S, (T + 1), (L ++ [⟨x, T + 1⟩]), H4.out, by have := HTK.out; omega⟩
          case measure => simp [intOf]; omega
    · by_cases hlt : k < n
      · have b1 : (k : Int) < (n : Int) := by omega
        have b2 : decide ((k : Int) < 300) = false := by simp; omega
        go_wp2
        go_ret
        exact ⟨rfl, HS.out.but⟩
      · have b1 : decide ((k : Int) < (n : Int)) = false := by simp; omega
        go_wp2
        go_ret
        exact ⟨rfl, HS.out.but⟩
end Go.Proofs.Ythakginneapdeaa.ringRoom
