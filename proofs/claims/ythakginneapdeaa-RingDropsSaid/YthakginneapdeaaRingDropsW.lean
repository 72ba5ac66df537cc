/- Who is dropped leaves the others in their order, with their tickets; dropping the first one is taking it: RingDrops returns true. (The walk.) -/
import Derived.Test.YthakginneapdeaaV
import Derived.Test.YthakginneapdeaaRingFirstW
namespace Go.Proofs.Ythakginneapdeaa
open Go.ChangeShapes Go.WideShapes Go.ChangeAt Go.RowKit Go.Deep
theorem tkt_mem {L : List It} (h : L.Pairwise (fun a b => a.id ≠ b.id)) {x : It} (hx : x ∈ L) : tkt L x.id = x.tk := by
  obtain ⟨k, hk, rfl⟩ := mem_getD hx
  exact tkt_get h hk
theorem mem_erase {L : List It} {j k : Nat} (hj : j < L.length) (h : k ≠ j) : L.getD j it0 ∈ L.eraseIdx k := by
  rw [List.mem_eraseIdx_iff_getElem?]
  exact ⟨j, fun e => h e.symm, by simp [List.getD, List.getElem?_eq_getElem hj]⟩
theorem reads_take {w : World} {b k : Nat} {y : It} {t : List It} (h : Ints w b ((y :: t).map It.id)) (hk : k < t.length) : Reads w w.heap.size 1 (some ⟨b, 1, none⟩) k (((t.map It.id).take k).map (Value.int .i64)) := by
  refine ⟨by simp; omega, fun _ => ⟨_, rfl, h.lt, fun j u hu => ?_⟩⟩
  rw [List.getElem?_map, List.getElem?_take] at hu
  split at hu
  · rename_i hj
    have hjt : j < t.length := by omega
    rw [add_plain, show 1 + j = j + 1 by omega, ids_cell (j := j + 1) h (by simpa using hjt)]
    simp [List.getElem?_eq_getElem hjt] at hu
    simp [List.getD, List.getElem?_eq_getElem hjt, hu]
  · simp at hu
theorem reads_drop {w : World} {b k : Nat} {y : It} {t : List It} (h : Ints w b ((y :: t).map It.id)) (hk : k ≤ t.length) : Reads w w.heap.size 1 (if t.length = k then some ⟨b, 1, none⟩ else some ⟨b, 1 + k, none⟩) (t.length - k) (((t.map It.id).drop k).map (Value.int .i64)) := by
  refine ⟨by simp, fun hp => ?_⟩
  rw [if_neg (by omega)]
  refine ⟨_, rfl, h.lt, fun j u hu => ?_⟩
  rw [List.getElem?_map, List.getElem?_drop] at hu
  by_cases hjt : k + j < t.length
  · rw [add_plain, show 1 + k + j = (k + j) + 1 by omega, ids_cell (j := k + j + 1) h (by simpa using hjt)]
    simp [List.getElem?_eq_getElem hjt] at hu
    simp [List.getD, List.getElem?_eq_getElem hjt, hu]
  · rw [List.getElem?_eq_none (by simpa using hjt)] at hu; simp at hu
theorem putT_le (R T : Int) (L : List It) (a : Int) : putT R T L a ≤ T + 1 := by unfold putT; split <;> omega
theorem putL_le (R T : Int) (L : List It) (a : Int) : (putL R T L a).length ≤ L.length + 1 := by unfold putL; split <;> simp
theorem putL_pos (R T : Int) (L : List It) (a : Int) (hR : 0 < R) : 0 < (putL R T L a).length := by
  unfold putL
  split
  · simp
  · rename_i h
    unfold putE at h
    by_cases h1 : 0 ≤ idx L a
    · have := idx_lt L a; omega
    · rw [if_neg h1] at h
      by_cases h2 : R ≤ L.length
      · omega
      · rw [if_neg h2] at h; exact absurd rfl h
/-- Two rings of the law's that hold the same. -/
structure PS (w wr : World) (p x : Nat) (T : Int) (L : List It) (S Sx : Nat → Prop) : Prop where
  hw : Hw w wr S p 256 T L
  hx : Hw w wr Sx x 256 T L
  ds : ∀ k, S k → ¬ Sx k
theorem PS.no {w wr wd : World} {p x : Nat} {T : Int} {L : List It} {S Sx : Nat → Prop} (h : PS w wr p x T L S Sx) (hb : But No wr wd) : PS w wd p x T L S Sx := ⟨h.hw.no hb, h.hx.no hb, h.ds⟩
theorem PS.mid {w wd w2 : World} {p x : Nat} {T T' : Int} {L L' : List It} {S Sx : Nat → Prop} (h : PS w wd p x T L S Sx) (hm : Mv wd S p 256 T' L' w2) : Hw w w2 Sx x 256 T L :=
  ⟨h.hx.rp.but hm.2 (fun k hk hs => h.ds k hs hk), h.hx.but.andThen hm.2 (fun k hk => .inr (h.hw.new k hk)), h.hx.new⟩
theorem PS.step {w wd w2 w3 : World} {p x : Nat} {T T' : Int} {L L' : List It} {S Sx : Nat → Prop} (h : PS w wd p x T L S Sx) (hm : Mv wd S p 256 T' L' w2) (hr : Mv w2 Sx x 256 T' L' w3) : PS w w3 p x T' L' S Sx :=
  ⟨⟨hm.1.but hr.2 (fun k hk hx => h.ds k hk hx), (h.hw.step hm).but.andThen hr.2 (fun k hk => .inr (h.hx.new k hk)), h.hw.new⟩, (h.mid hm).step hr, h.ds⟩
namespace ringDrops
def Rel (w wr : World) (p x k : Nat) : Prop := ∃ S Sx T L, PS w wr p x T L S Sx ∧ T ≤ k ∧ L.length ≤ k ∧ (k = 0 ∨ 0 < L.length)
set_option maxHeartbeats 8000000 in
set_option maxRecDepth 100000 in
theorem walk (A : Option Addr) (n c : Nat) (zs : List Int) (hnc : n ≤ c) (a1 : Int) (w1 : (Lit.int .i64 a1).wf = true) (w : World) (hd : Rd w A n zs) :
    Calls Try.prog 6 #[.slice A n c, .int .i64 a1] w fun e w' => e = .returned (.bool true) ∧ But No w w' := by
  have HD := Lib.hid hd
  have HW1 := Lib.hid w1
  have hmax := hd.max
  clear hd hnc w1
  go_enter Try.func6, Try.ntmps6
  go_wp2_with (first
    | (go_at_call 7; refine (examples_any _).mono ?_; rintro e we ⟨rfl, hbe⟩; have HE := Lib.hid hbe; clear hbe)
    | (go_at_call 8; (with_reducible refine (new_ok 256 we (by omega) (by omega)).mono ?_); rintro e wa ⟨p, rfl, hne⟩; have HN1 := Lib.hid hne; clear hne)
    | (go_at_call 8; (with_reducible refine (new_ok 256 wa (by omega) (by omega)).mono ?_); rintro e wb ⟨x, rfl, hne⟩; have HN2 := Lib.hid hne; clear hne))
  have H1 : Hid (Rel w wb p x 0) := by
    obtain ⟨S, hp, hb, hs⟩ := HN1.out
    obtain ⟨Sx, hp2, hb2, hs2⟩ := HN2.out
    have hw : Hw w wa S p 256 0 [] := ⟨hp, HE.out.trans hb, fun k hk => Nat.le_trans HE.out.size (hs k hk)⟩
    exact ⟨S, Sx, 0, [], ⟨hw.no hb2, ⟨hp2, hw.but.trans hb2, fun k hk => Nat.le_trans hw.but.size (hs2 k hk)⟩, fun k hk hx => by have := hp.lt k hk; have := hs2 k hx; omega⟩, by omega, by simp, .inl rfl⟩
  clear HN1 HN2 HE
  go_loopw [10] (fun s wr => ∃ k : Nat, s = .int .i64 k ∧ k ≤ n ∧ k ≤ 60 ∧ Hid (Rel w wr p x k)) (fun s _ => n - (intOf s).toNat)
  case atStart => exact ⟨0, rfl, by omega, by omega, H1⟩
  case round =>
    obtain ⟨k, rfl, hk, hk3, hrel⟩ := hrel
    clear H1
    obtain ⟨S, Sx, T, L, hps, htk, hlk, hk0⟩ := hrel.out
    have HPS := Lib.hid hps
    have HTK := Lib.hid htk
    have HLK : Hid (L.length ≤ 60) := by show _ ≤ _; omega
    have hT : T < 1000000 := by omega
    by_cases hgo : k < n ∧ k < 60
    · obtain ⟨hlt, hl3⟩ := hgo
      obtain ⟨eb, eoff, rfl, hbl, hc⟩ := HD.out.at_ (by omega)
      replace hc := hc k hlt
      have FI : Hid (inR (zs.getD k 0)) := HD.out.fit k
      generalize zs.getD k 0 = z at hc FI
      have CC : Hid (∀ w', But No w w' → w'.cell? ⟨eb, eoff + k, none⟩ = some (.int .i64 z)) := fun w' hb => by rw [hb.cell hbl (fun f => f)]; exact hc
      have HF : Hid (putT 256 T L z ≤ ((k + 1 : Nat) : Int) ∧ (putL 256 T L z).length ≤ k + 1 ∧ (k + 1 = 0 ∨ 0 < (putL 256 T L z).length)) := ⟨by have := putT_le 256 T L z; omega, by have := putL_le 256 T L z; omega, .inr (putL_pos 256 T L z (by omega))⟩
      have C1 : Hid (∀ w', Hw w w' S p 256 T L → Calls Try.prog 11 #[.pointer (some ⟨p, 0, none⟩), .int .i64 z] w' fun e w'' => e = .returned (.tuple #[.int .i64 (putK 256 T L z), .int .i64 (putE 256 L z)]) ∧ Mv w' S p 256 (putT 256 T L z) (putL 256 T L z) w'') := fun w' h' => put_any p 256 T L S w' z h'.rp FI.out hT
      have C2 : Hid (∀ w', Hw w w' Sx x 256 T L → Calls Try.prog 11 #[.pointer (some ⟨x, 0, none⟩), .int .i64 z] w' fun e w'' => e = .returned (.tuple #[.int .i64 (putK 256 T L z), .int .i64 (putE 256 L z)]) ∧ Mv w' Sx x 256 (putT 256 T L z) (putL 256 T L z) w'') := fun w' h' => put_any x 256 T L Sx w' z h'.rp FI.out hT
      generalize putK 256 T L z = kz at C1 C2
      generalize putE 256 L z = ez at C1 C2
      generalize putT 256 T L z = T2 at C1 C2 HF
      generalize putL 256 T L z = L2 at C1 C2 HF
      have c1 := CC.out _ HPS.out.hw.but
      have kn' : (k : Int) < (n : Int) := by omega
      have k3' : (k : Int) < 60 := by omega
      clear hc hbl hps htk hlk hk0 hrel
      go_wp2_with (first | (go_at_call 11; (with_reducible refine (C1.out _ HPS.out.hw).mono ?_); rintro e w2 ⟨rfl, hm⟩; have HX2 := Lib.hid (HPS.out.mid hm); have HM2 := Lib.hid hm; have c2 := CC.out _ HX2.out.but; clear hm) | (go_at_call 11; (with_reducible refine (C2.out _ HX2.out).mono ?_); rintro e w3 ⟨rfl, hr⟩; have HP3 := Lib.hid (HPS.out.step HM2.out hr); clear hr))
      go_roundw
      case rel => exact ⟨k + 1, by go_num, by omega, by omega, S, Sx, T2, L2, HP3.out, HF.out.1, HF.out.2.1, HF.out.2.2⟩
      case measure => simp [intOf]; omega
    · by_cases hlt : k < n
      · have b1 : (k : Int) < (n : Int) := by omega
        have b2 : decide ((k : Int) < 60) = false := by simp; omega
        have HK0 : Hid (L.length = 0 → n = 0) := fun h => by omega
        clear hps htk hlk hk0 hrel hgo
        obtain ⟨n8, hn8⟩ : ∃ n8, n8 = L.length := ⟨_, rfl⟩
        have HN8 := Lib.hid hn8
        have hn8l : n8 ≤ 60 := by rw [hn8]; have := HLK.out; omega
        have CA0 : Hid (∀ w', Hw w w' S p 256 T L → Calls Try.prog 17 #[.pointer (some ⟨p, 0, none⟩)] w' fun e w'' => ∃ b, e = .returned (.slice (some ⟨b, 0, none⟩) n8 n8) ∧ Ints w'' b (L.map It.id) ∧ But No w' w'' ∧ w'.heap.size ≤ b) := fun w' h' => by rw [hn8]; exact all_any p 256 _ _ S w' h'.rp
        clear hn8
        by_cases h8 : n8 = 0
        · have b8 : ((n8 : Int) == 0) = true := by simp; omega
          have bn : ((n : Int) == 0) = true := by
            have := HK0.out; have := HN8.out; simp; omega
          clear h8
          go_wp2_with (first | (go_at_call 17; (with_reducible refine (CA0.out _ HPS.out.hw).mono ?_); rintro e w6 ⟨b0, rfl, hI, hb6, hbl⟩; have HP6 := Lib.hid (HPS.out.no hb6); have HI6 := Lib.hid hI; have HNS : Hid (¬ S b0 ∧ ¬ Sx b0) := ⟨fun hk => (by have := HPS.out.hw.rp.lt b0 hk; omega), fun hk => (by have := HPS.out.hx.rp.lt b0 hk; omega)⟩;  clear hI hb6 hbl))
          go_ret
          exact ⟨rfl, HP6.out.hw.but⟩
        · obtain ⟨y, t, rfl⟩ : ∃ y t, L = y :: t := by
            cases L with
            | nil => exact absurd HN8.out h8
            | cons y t => exact ⟨y, t, rfl⟩
          have b8 : ((n8 : Int) == 0) = false := by simp; omega
          have b81 : (1 : Int) ≤ (n8 : Int) := by omega
          have b80 : (0 : Int) < (n8 : Int) := by omega
          obtain ⟨n7, hn7⟩ : ∃ n7, n7 = t.length := ⟨_, rfl⟩
          have HN7 := Lib.hid hn7
          have e8 : n8 - 1 = n7 := by rw [HN8.out, hn7]; rfl
          have hn7l : n7 ≤ 60 := by omega
          have ND := Lib.hid HPS.out.hw.rp.nd
          have NDT := Lib.hid (List.pairwise_cons.1 ND.out).2
          have CT : Hid (∀ w', Hw w w' S p 256 T (y :: t) → Calls Try.prog 13 #[.pointer (some ⟨p, 0, none⟩)] w' fun r w'' => r = .returned (.tuple #[.int .i64 y.id, .bool true]) ∧ Mv w' S p 256 T t w'') := fun w' h' => take_any p 256 T (y :: t) S w' h'.rp
          have e0 : idx (y :: t) y.id = (0 : Nat) := idx_get (j := 0) ND.out (by simp)
          have CD : Hid (∀ w', Hw w w' Sx x 256 T (y :: t) → Calls Try.prog 15 #[.pointer (some ⟨x, 0, none⟩), .int .i64 y.id] w' fun r w'' => r = .returned (.bool true) ∧ Mv w' Sx x 256 T t w'') := fun w' h' => by
            have := drop_any x 256 T (y :: t) Sx w' y.id h'.rp
            unfold hasI rmv at this
            rw [e0] at this
            exact this
          have CA1 : Hid (∀ w', Hw w w' S p 256 T t → Calls Try.prog 17 #[.pointer (some ⟨p, 0, none⟩)] w' fun e w'' => ∃ b, e = .returned (.slice (some ⟨b, 0, none⟩) n7 n7) ∧ Ints w'' b (t.map It.id) ∧ But No w' w'' ∧ w'.heap.size ≤ b) := fun w' h' => by rw [hn7]; exact all_any p 256 _ _ S w' h'.rp
          have CA2 : Hid (∀ w', Hw w w' Sx x 256 T t → Calls Try.prog 17 #[.pointer (some ⟨x, 0, none⟩)] w' fun e w'' => ∃ b, e = .returned (.slice (some ⟨b, 0, none⟩) n7 n7) ∧ Ints w'' b (t.map It.id) ∧ But No w' w'' ∧ w'.heap.size ≤ b) := fun w' h' => by rw [hn7]; exact all_any x 256 _ _ Sx w' h'.rp
          have CN : Hid (∀ w' b1 b2, Ints w' b1 (t.map It.id) → Ints w' b2 (t.map It.id) → Calls Try.prog 18 #[.slice (some ⟨b1, 0, none⟩) n7 n7, .slice (some ⟨b2, 0, none⟩) n7 n7] w' fun e w'' => e = .returned (.bool true) ∧ But No w' w'') := fun w' b1 b2 h1 h2 => by
            have hlm : (t.map It.id).length = n7 := by rw [List.length_map, hn7]
            have r1 := h1.rl (by omega)
            have r2 := h2.rl (by omega)
            rw [hlm] at r1 r2
            have := numbers_any (some ⟨b1, 0, none⟩) (some ⟨b2, 0, none⟩) n7 n7 n7 n7 _ _ w' r1 r2
            simp only [decide_true] at this
            exact this
          have CL : Hid (∀ w', Hw w w' S p 256 T t → Calls Try.prog 20 #[.pointer (some ⟨p, 0, none⟩)] w' fun e w'' => e = .returned (.int .i64 n7) ∧ w'' = w') := fun w' h' => by rw [hn7]; exact len_any p 256 T t S w' h'.rp
          obtain ⟨yi, hyi⟩ : ∃ yi, y.id = yi := ⟨_, rfl⟩
          have C0 : Hid (∀ w' b, Ints w' b ((y :: t).map It.id) → w'.cell? ⟨b, 0, none⟩ = some (.int .i64 yi)) := fun w' b h' => by rw [← hyi]; exact ids_cell (j := 0) h' (by simp)
          rw [hyi] at CT CD
          have bs : (yi != yi) = false := by simp
          clear e0 hyi hn7
          by_cases h7 : n7 = 0
          · have b7 : ((n7 : Int) == 0) = true := by simp; omega
            clear h7 h8
            go_wp2_with (first | (go_at_call 17; (with_reducible refine (CA0.out _ HPS.out.hw).mono ?_); rintro e w6 ⟨b0, rfl, hI, hb6, hbl⟩; have HP6 := Lib.hid (HPS.out.no hb6); have HI6 := Lib.hid hI; have HNS : Hid (¬ S b0 ∧ ¬ Sx b0) := ⟨fun hk => (by have := HPS.out.hw.rp.lt b0 hk; omega), fun hk => (by have := HPS.out.hx.rp.lt b0 hk; omega)⟩; obtain ⟨A1, hA1⟩ : ∃ A1, (if n8 = 1 then some (⟨b0, 0, none⟩ : Addr) else some ⟨b0, 1, none⟩) = A1 := ⟨_, rfl⟩; clear hI hb6 hbl) | (go_at_call 13; (with_reducible refine (CT.out _ HP6.out.hw).mono ?_); rintro e w7 ⟨rfl, hm⟩; have HX7 := Lib.hid (HP6.out.mid hm); have HI7 := Lib.hid (HI6.out.but hm.2 HNS.out.1); have c7 := C0.out _ _ HI7.out; have HM7 := Lib.hid hm; clear hm) | (go_at_call 15; (with_reducible refine (CD.out _ HX7.out).mono ?_); rintro e w8 ⟨rfl, hr⟩; have HP8 := Lib.hid (HP6.out.step HM7.out hr); have HI8 := Lib.hid (HI7.out.but hr.2 HNS.out.2); clear hr) | (go_at_call 17; (with_reducible refine (CA1.out _ HP8.out.hw).mono ?_); rintro e w9 ⟨b1, rfl, hI, hb, hbl⟩; have HP9 := Lib.hid (HP8.out.no hb); have HI9 := Lib.hid (HI8.out.but hb (fun f => f)); have HJ9 := Lib.hid hI; clear hI hb hbl) | (go_at_call 17; (with_reducible refine (CA2.out _ HP9.out.hx).mono ?_); rintro e w10 ⟨b2, rfl, hI, hb, hbl⟩; have HP10 := Lib.hid (HP9.out.no hb); have HI10 := Lib.hid (HI9.out.but hb (fun f => f)); have HJ10 := Lib.hid (HJ9.out.but hb (fun f => f)); have HK10 := Lib.hid hI; clear hI hb hbl) | (go_at_call 18; (with_reducible refine (CN.out _ _ _ HJ10.out HK10.out).mono ?_); rintro e w11 ⟨rfl, hb⟩; have HP11 := Lib.hid (HP10.out.no hb); have HI11 := Lib.hid (HI10.out.but hb (fun f => f)); have c11 := C0.out _ _ HI11.out;  clear hb) | (go_at_call 20; (with_reducible refine (CL.out _ HP11.out.hw).mono ?_); rintro e w12 ⟨rfl, rfl⟩))
            go_ret
            exact ⟨rfl, HP11.out.hw.but⟩
          · have b7 : ((n7 : Int) == 0) = false := by simp; omega
            have h81 : ¬ n8 = 1 := by omega
            have k0 := pk_lt a1 n7 (by omega)
            obtain ⟨kk, hkk⟩ : ∃ r : Nat, pk a1 n7 = (r : Int) := ⟨(pk a1 n7).toNat, by omega⟩
            have hkn : kk < n7 := by omega
            have CK : Hid (∀ w, Calls Try.prog 10 #[.int .i64 a1, .int .i64 n7] w fun e w' => e = .returned (.int .i64 kk) ∧ w = w') := fun w => by rw [← hkk]; exact pick_any a1 n7 w (inR_of HW1.out) (by omega) (by omega)
            clear k0 hkk
            obtain ⟨m7, hm7⟩ : ∃ m7, m7 = n7 - 1 := ⟨_, rfl⟩
            have e7 : (n7 : Int) - 1 = (m7 : Int) := by omega
            have hkt : kk < t.length := by rw [← HN7.out]; exact hkn
            have hmt : m7 < t.length := by rw [← HN7.out]; omega
            obtain ⟨zl, hzl⟩ : ∃ z, (t.getD m7 it0).id = z := ⟨_, rfl⟩
            obtain ⟨tl, htl⟩ : ∃ z, (t.getD m7 it0).tk = z := ⟨_, rfl⟩
            obtain ⟨zk, hzk⟩ : ∃ z, (t.getD kk it0).id = z := ⟨_, rfl⟩
            have CX : Hid (∀ w', Hw w w' S p 256 T t → Calls Try.prog 23 #[.pointer (some ⟨p, 0, none⟩), .int .i64 zl] w' fun r w'' => r = .returned (.int .i64 tl) ∧ ∃ m, w'' = w'.drewN m) := fun w' h' => by
              have := ticket_any p 256 T t S w' zl h'.rp
              rw [← hzl, tkt_get NDT.out hmt, htl, hzl] at this; exact this
            have CD2 : Hid (∀ w', Hw w w' S p 256 T t → Calls Try.prog 15 #[.pointer (some ⟨p, 0, none⟩), .int .i64 zk] w' fun r w'' => r = .returned (.bool true) ∧ Mv w' S p 256 T (t.eraseIdx kk) w'') := fun w' h' => by
              have := drop_any p 256 T t S w' zk h'.rp
              unfold hasI rmv at this
              rw [← hzk, idx_get NDT.out hkt, if_pos (by omega)] at this
              rw [← hzk]
              simpa using this
            have hle : (t.eraseIdx kk).length = m7 := by rw [List.length_eraseIdx, if_pos hkt, ← HN7.out, hm7]
            have CA3 : Hid (∀ w', Hw w w' S p 256 T (t.eraseIdx kk) → Calls Try.prog 17 #[.pointer (some ⟨p, 0, none⟩)] w' fun e w'' => ∃ b, e = .returned (.slice (some ⟨b, 0, none⟩) m7 m7) ∧ Ints w'' b ((t.eraseIdx kk).map It.id) ∧ But No w' w'' ∧ w'.heap.size ≤ b) := fun w' h' => by rw [← hle]; exact all_any p 256 _ _ S w' h'.rp
            obtain ⟨k1, hk1⟩ : ∃ k1, k1 = kk + 1 := ⟨_, rfl⟩
            have X1 : Hid ((t.map It.id).take kk ++ (t.map It.id).drop k1 = (t.eraseIdx kk).map It.id) := by show _ = _; rw [hk1, List.eraseIdx_eq_take_drop_succ, List.map_append, List.map_take, List.map_drop]
            have hnn : kk + (n7 - k1) = m7 := by omega
            have CN2 : Hid (∀ w' A' c' b2, w'.ownsRow 0 3 1 (.slice A' m7 c') m7 (((t.map It.id).take kk ++ (t.map It.id).drop k1).map (Value.int .i64)) → Ints w' b2 ((t.eraseIdx kk).map It.id) → Calls Try.prog 18 #[.slice A' m7 c', .slice (some ⟨b2, 0, none⟩) m7 m7] w' fun e w'' => e = .returned (.bool true) ∧ But No w' w'') := fun w' A' c' b2 h1 h2 => by
              rw [X1.out] at h1
              have hlm : ((t.eraseIdx kk).map It.id).length = m7 := by rw [List.length_map, hle]
              have r1 := (Ov.rl (w := w') (A := A') (n := m7) (c := c') (zs := (t.eraseIdx kk).map It.id) (by unfold Ov; rw [hlm]; exact h1) (by omega)).1
              have r2 := h2.rl (by omega)
              rw [hlm] at r2
              have := numbers_any A' (some ⟨b2, 0, none⟩) m7 m7 c' m7 _ _ w' r1 r2
              simp only [decide_true] at this
              exact this
            have CE : Hid (∀ w' b, Ints w' b ((y :: t).map It.id) → w'.cell? ⟨b, 1 + m7, none⟩ = some (.int .i64 zl) ∧ w'.cell? ⟨b, 1 + kk, none⟩ = some (.int .i64 zk)) := fun w' b h' => by
              refine ⟨?_, ?_⟩
              · rw [← hzl, show 1 + m7 = m7 + 1 by omega]; exact ids_cell (j := m7 + 1) h' (by simpa using hmt)
              · rw [← hzk, show 1 + kk = kk + 1 by omega]; exact ids_cell (j := kk + 1) h' (by simpa using hkt)
            have CX3 : Hid (kk ≠ m7 → ∀ w', Hw w w' S p 256 T (t.eraseIdx kk) → Calls Try.prog 23 #[.pointer (some ⟨p, 0, none⟩), .int .i64 zl] w' fun r w'' => r = .returned (.int .i64 tl) ∧ ∃ m, w'' = w'.drewN m) := fun hne w' h' => by
              have := ticket_any p 256 T (t.eraseIdx kk) S w' zl h'.rp
              rw [← hzl, tkt_mem h'.rp.nd (mem_erase hmt hne), htl, hzl] at this; exact this
            have bt : (tl == tl) = true := by simp
            have bk : (kk : Int) < (n7 : Int) := by omega
            have bm : (m7 : Int) < (n7 : Int) := by omega
            have RD1 : Hid (∀ w' b, Ints w' b ((y :: t).map It.id) → Reads w' w'.heap.size 1 (some ⟨b, 1, none⟩) kk (((t.map It.id).take kk).map (Value.int .i64))) := fun w' b h' => reads_take h' hkt
            have RD2 : Hid (∀ w' b, Ints w' b ((y :: t).map It.id) → Reads w' w'.heap.size 1 (if n7 = k1 then some ⟨b, 1, none⟩ else some ⟨b, 1 + k1, none⟩) (n7 - k1) (((t.map It.id).drop k1).map (Value.int .i64))) := fun w' b h' => by
              rw [HN7.out]; exact reads_drop h' (by omega)
            have ek1 := wr1 hk1 (by omega)
            have ek2 := wr0 (a := k1) (by omega)
            have bk1 : (k1 : Int) ≤ (n7 : Int) := by omega
            have bkl : (kk : Int) ≤ (n7 : Int) := by omega
            have HLN : Hid (((t.map It.id).take kk).map (Value.int .i64) ++ ((t.map It.id).drop k1).map (Value.int .i64) = (((t.map It.id).take kk ++ (t.map It.id).drop k1).map (Value.int .i64))) := by show _ = _; rw [List.map_append]
            clear h8 hm7 hkt hmt hzl htl hzk hle hk1 X1
            have HB3 : Hid (But No w wr) := HPS.out.hw.but
            obtain ⟨i0, hi0, hz0, hz1, hz2⟩ := info_parts info3
            have I0 : Hid (Try.prog.info? 3 = some i0 ∧ i0.zero = some (.int .i64 0) ∧ i0.size = 1 ∧ i0.bytes = 8) := ⟨hi0, hz0, hz1, hz2⟩
            clear hi0 hz0 hz1 hz2
            obtain ⟨zs1, hzs1⟩ : ∃ z, z = ((t.map It.id).take kk).map (Value.int .i64) := ⟨_, rfl⟩
            obtain ⟨zs2, hzs2⟩ : ∃ z, z = ((t.map It.id).drop k1).map (Value.int .i64) := ⟨_, rfl⟩
            rw [← hzs1] at RD1 HLN
            rw [← hzs2] at RD2 HLN
            have ON1 : Hid (∀ u ∈ zs1, u.oneCell' = true) := by intro u hu; rw [hzs1] at hu; obtain ⟨z, _, rfl⟩ := List.mem_map.1 hu; rfl
            have ON2 : Hid (∀ u ∈ zs2, u.oneCell' = true) := by intro u hu; rw [hzs2] at hu; obtain ⟨z, _, rfl⟩ := List.mem_map.1 hu; rfl
            clear hzs1 hzs2
            by_cases hkm : kk = m7
            · have bkm : ((kk : Int) == (m7 : Int)) = true := by simp; omega
              clear hkm
              go_wp2_with (first | (go_at_call 17; (with_reducible refine (CA0.out _ HPS.out.hw).mono ?_); rintro e w6 ⟨b0, rfl, hI, hb6, hbl⟩; have HP6 := Lib.hid (HPS.out.no hb6); have HI6 := Lib.hid hI; have HNS : Hid (¬ S b0 ∧ ¬ Sx b0) := ⟨fun hk => (by have := HPS.out.hw.rp.lt b0 hk; omega), fun hk => (by have := HPS.out.hx.rp.lt b0 hk; omega)⟩;  clear hI hb6 hbl) | (go_at_call 13; (with_reducible refine (CT.out _ HP6.out.hw).mono ?_); rintro e w7 ⟨rfl, hm⟩; have HX7 := Lib.hid (HP6.out.mid hm); have HI7 := Lib.hid (HI6.out.but hm.2 HNS.out.1); have c7 := C0.out _ _ HI7.out; have HM7 := Lib.hid hm; clear hm) | (go_at_call 15; (with_reducible refine (CD.out _ HX7.out).mono ?_); rintro e w8 ⟨rfl, hr⟩; have HP8 := Lib.hid (HP6.out.step HM7.out hr); have HI8 := Lib.hid (HI7.out.but hr.2 HNS.out.2); clear hr) | (go_at_call 17; (with_reducible refine (CA1.out _ HP8.out.hw).mono ?_); rintro e w9 ⟨b1, rfl, hI, hb, hbl⟩; have HP9 := Lib.hid (HP8.out.no hb); have HI9 := Lib.hid (HI8.out.but hb (fun f => f)); have HJ9 := Lib.hid hI; clear hI hb hbl) | (go_at_call 17; (with_reducible refine (CA2.out _ HP9.out.hx).mono ?_); rintro e w10 ⟨b2, rfl, hI, hb, hbl⟩; have HP10 := Lib.hid (HP9.out.no hb); have HI10 := Lib.hid (HI9.out.but hb (fun f => f)); have HJ10 := Lib.hid (HJ9.out.but hb (fun f => f)); have HK10 := Lib.hid hI; clear hI hb hbl) | (go_at_call 18; (with_reducible refine (CN.out _ _ _ HJ10.out HK10.out).mono ?_); rintro e w11 ⟨rfl, hb⟩; have HP11 := Lib.hid (HP10.out.no hb); have HI11 := Lib.hid (HI10.out.but hb (fun f => f)); have c11 := C0.out _ _ HI11.out; have c12 := (CE.out _ _ HI11.out).1; clear hb) | (go_at_call 10; ((with_reducible refine (CK.out _).mono ?_); rintro e w2 ⟨rfl, rfl⟩)) | (go_at_call 23; (with_reducible refine (CX.out _ HP11.out.hw).mono ?_); rintro e w12 ⟨rfl, hw⟩; have HW12 := Lib.hid (HP11.out.hw.no (drewN_but hw)); have HI12 := Lib.hid (HI11.out.but (drewN_but hw) (fun f => f)); have c13 := (CE.out _ _ HI12.out).2; clear hw) | (go_at_call 15; (with_reducible refine (CD2.out _ HW12.out).mono ?_); rintro e w13 ⟨rfl, hm⟩; have HW13 := Lib.hid (HW12.out.step hm); have HI13 := Lib.hid (HI12.out.but hm.2 HNS.out.1); clear hm))
              obtain ⟨A', hA'⟩ : ∃ A', (if n7 = k1 then some (⟨b0, 1, none⟩ : Addr) else some ⟨b0, 1 + k1, none⟩) = A' := ⟨_, rfl⟩
              have R1 : Hid (Reads w13.drew w13.heap.size 1 (some ⟨b0, 1, none⟩) kk zs1) := RD1.out _ _ HI13.out
              have R2 : Hid (Reads w13.drew w13.heap.size 1 A' (n7 - k1) zs2) := by have := RD2.out _ _ HI13.out; rw [hA'] at this; exact this
              have KEEP : Hid (∀ w', But No w13 w' → Reads w' w13.heap.size 1 A' (n7 - k1) zs2) := fun w' hb => R2.out.keep fun p hp => World.cell?_of_block (hb.block p.block hp (fun f => f))
              clear c7 c11 c12 c13 h7 hkn
              go_region_law (first | (refine step_append_sh rfl _ _ 40 rfl 3 i0 _ 1 8 Try.underlying40 I0.out.1 I0.out.2.1 I0.out.2.2.1 I0.out.2.2.2 rfl (by omega) (.slice none 0 0) 0 [] (by simp [Act.eval, Act.put]) (World.ownsRow_nil _ _ _ _) w13.heap.size (some ⟨b0, 1, none⟩) kk n7 zs1 (by simp [Act.eval, Act.put]) R1.out ON1.out (by unfold maxLen; omega) (by omega) ?_; intro A2 cc2 w14 hown1 hgrow1 hat1; have HB14 : Hid (But No w13 w14) := ((But.refl No w13).drew).grown hgrow1.out (fun k e => by simp [Value.ownBlock] at e)) | (refine step_append_sh rfl _ _ 40 rfl 3 i0 _ 1 8 Try.underlying40 I0.out.1 I0.out.2.1 I0.out.2.2.1 I0.out.2.2.2 rfl (by omega) (.slice A2 (0 + kk) cc2) (0 + kk) _ (by simp [Act.eval, Act.put]) hown1.out w13.heap.size A' (n7 - k1) (n7 - k1) zs2 (by simp [Act.eval, Act.put]) (KEEP.out _ HB14.out) ON2.out (by unfold maxLen; omega) (by omega) ?_; intro A3 cc3 w15 hown2 hgrow2 hat2; have HB15 : Hid (But No w13 w15) := HB14.out.grown hgrow2.out (fun j e => .inr (own_new own_none hat1.out (Nat.le_refl _) j e))))
              have HO15 : Hid (w15.ownsRow 0 3 1 (.slice A3 (0 + kk + (n7 - k1)) cc3) (0 + kk + (n7 - k1)) ([] ++ zs1 ++ zs2)) := hown2
              simp only [Nat.zero_add, hnn, List.nil_append] at HO15
              rw [HLN.out] at HO15
              have HW15 := Lib.hid (HW13.out.no HB15.out)
              have HI15 := Lib.hid (HI13.out.but HB15.out (fun f => f))
              clear hown1 hgrow1 hat1 hown2 hgrow2 hat2
              try simp only [Nat.zero_add, hnn]
              go_wp2_with (first | (go_at_call 17; (with_reducible refine (CA3.out _ HW15.out).mono ?_); rintro e w16 ⟨b3, rfl, hI, hb, hbl⟩; have HO16 := Lib.hid (owns_but HO15.out hb (fun _ _ f => f)); have HW16 := Lib.hid (HW15.out.no hb); have HJ16 := Lib.hid hI; have HI16 := Lib.hid (HI15.out.but hb (fun f => f)); clear hI hb hbl) | (go_at_call 18; (with_reducible refine (CN2.out _ _ _ _ HO16.out HJ16.out).mono ?_); rintro e w17 ⟨rfl, hb⟩; have HW17 := Lib.hid (HW16.out.no hb); have HI17 := Lib.hid (HI16.out.but hb (fun f => f)); clear hb))
              go_ret
              exact ⟨rfl, HW17.out.but⟩
            · have bkm : ((kk : Int) == (m7 : Int)) = false := by simp; omega
              have CX4 := Lib.hid (CX3.out hkm)
              clear hkm
              go_wp2_with (first | (go_at_call 17; (with_reducible refine (CA0.out _ HPS.out.hw).mono ?_); rintro e w6 ⟨b0, rfl, hI, hb6, hbl⟩; have HP6 := Lib.hid (HPS.out.no hb6); have HI6 := Lib.hid hI; have HNS : Hid (¬ S b0 ∧ ¬ Sx b0) := ⟨fun hk => (by have := HPS.out.hw.rp.lt b0 hk; omega), fun hk => (by have := HPS.out.hx.rp.lt b0 hk; omega)⟩;  clear hI hb6 hbl) | (go_at_call 13; (with_reducible refine (CT.out _ HP6.out.hw).mono ?_); rintro e w7 ⟨rfl, hm⟩; have HX7 := Lib.hid (HP6.out.mid hm); have HI7 := Lib.hid (HI6.out.but hm.2 HNS.out.1); have c7 := C0.out _ _ HI7.out; have HM7 := Lib.hid hm; clear hm) | (go_at_call 15; (with_reducible refine (CD.out _ HX7.out).mono ?_); rintro e w8 ⟨rfl, hr⟩; have HP8 := Lib.hid (HP6.out.step HM7.out hr); have HI8 := Lib.hid (HI7.out.but hr.2 HNS.out.2); clear hr) | (go_at_call 17; (with_reducible refine (CA1.out _ HP8.out.hw).mono ?_); rintro e w9 ⟨b1, rfl, hI, hb, hbl⟩; have HP9 := Lib.hid (HP8.out.no hb); have HI9 := Lib.hid (HI8.out.but hb (fun f => f)); have HJ9 := Lib.hid hI; clear hI hb hbl) | (go_at_call 17; (with_reducible refine (CA2.out _ HP9.out.hx).mono ?_); rintro e w10 ⟨b2, rfl, hI, hb, hbl⟩; have HP10 := Lib.hid (HP9.out.no hb); have HI10 := Lib.hid (HI9.out.but hb (fun f => f)); have HJ10 := Lib.hid (HJ9.out.but hb (fun f => f)); have HK10 := Lib.hid hI; clear hI hb hbl) | (go_at_call 18; (with_reducible refine (CN.out _ _ _ HJ10.out HK10.out).mono ?_); rintro e w11 ⟨rfl, hb⟩; have HP11 := Lib.hid (HP10.out.no hb); have HI11 := Lib.hid (HI10.out.but hb (fun f => f)); have c11 := C0.out _ _ HI11.out; have c12 := (CE.out _ _ HI11.out).1; clear hb) | (go_at_call 10; ((with_reducible refine (CK.out _).mono ?_); rintro e w2 ⟨rfl, rfl⟩)) | (go_at_call 23; (with_reducible refine (CX.out _ HP11.out.hw).mono ?_); rintro e w12 ⟨rfl, hw⟩; have HW12 := Lib.hid (HP11.out.hw.no (drewN_but hw)); have HI12 := Lib.hid (HI11.out.but (drewN_but hw) (fun f => f)); have c13 := (CE.out _ _ HI12.out).2; clear hw) | (go_at_call 15; (with_reducible refine (CD2.out _ HW12.out).mono ?_); rintro e w13 ⟨rfl, hm⟩; have HW13 := Lib.hid (HW12.out.step hm); have HI13 := Lib.hid (HI12.out.but hm.2 HNS.out.1); clear hm))
              obtain ⟨A', hA'⟩ : ∃ A', (if n7 = k1 then some (⟨b0, 1, none⟩ : Addr) else some ⟨b0, 1 + k1, none⟩) = A' := ⟨_, rfl⟩
              have R1 : Hid (Reads w13.drew w13.heap.size 1 (some ⟨b0, 1, none⟩) kk zs1) := RD1.out _ _ HI13.out
              have R2 : Hid (Reads w13.drew w13.heap.size 1 A' (n7 - k1) zs2) := by have := RD2.out _ _ HI13.out; rw [hA'] at this; exact this
              have KEEP : Hid (∀ w', But No w13 w' → Reads w' w13.heap.size 1 A' (n7 - k1) zs2) := fun w' hb => R2.out.keep fun p hp => World.cell?_of_block (hb.block p.block hp (fun f => f))
              clear c7 c11 c12 c13 h7 hkn
              go_region_law (first | (refine step_append_sh rfl _ _ 40 rfl 3 i0 _ 1 8 Try.underlying40 I0.out.1 I0.out.2.1 I0.out.2.2.1 I0.out.2.2.2 rfl (by omega) (.slice none 0 0) 0 [] (by simp [Act.eval, Act.put]) (World.ownsRow_nil _ _ _ _) w13.heap.size (some ⟨b0, 1, none⟩) kk n7 zs1 (by simp [Act.eval, Act.put]) R1.out ON1.out (by unfold maxLen; omega) (by omega) ?_; intro A2 cc2 w14 hown1 hgrow1 hat1; have HB14 : Hid (But No w13 w14) := ((But.refl No w13).drew).grown hgrow1.out (fun k e => by simp [Value.ownBlock] at e)) | (refine step_append_sh rfl _ _ 40 rfl 3 i0 _ 1 8 Try.underlying40 I0.out.1 I0.out.2.1 I0.out.2.2.1 I0.out.2.2.2 rfl (by omega) (.slice A2 (0 + kk) cc2) (0 + kk) _ (by simp [Act.eval, Act.put]) hown1.out w13.heap.size A' (n7 - k1) (n7 - k1) zs2 (by simp [Act.eval, Act.put]) (KEEP.out _ HB14.out) ON2.out (by unfold maxLen; omega) (by omega) ?_; intro A3 cc3 w15 hown2 hgrow2 hat2; have HB15 : Hid (But No w13 w15) := HB14.out.grown hgrow2.out (fun j e => .inr (own_new own_none hat1.out (Nat.le_refl _) j e))))
              have HO15 : Hid (w15.ownsRow 0 3 1 (.slice A3 (0 + kk + (n7 - k1)) cc3) (0 + kk + (n7 - k1)) ([] ++ zs1 ++ zs2)) := hown2
              simp only [Nat.zero_add, hnn, List.nil_append] at HO15
              rw [HLN.out] at HO15
              have HW15 := Lib.hid (HW13.out.no HB15.out)
              have HI15 := Lib.hid (HI13.out.but HB15.out (fun f => f))
              have c15 := (CE.out _ _ HI15.out).1
              clear hown1 hgrow1 hat1 hown2 hgrow2 hat2
              try simp only [Nat.zero_add, hnn]
              go_wp2_with (first | (go_at_call 17; (with_reducible refine (CA3.out _ HW15.out).mono ?_); rintro e w16 ⟨b3, rfl, hI, hb, hbl⟩; have HO16 := Lib.hid (owns_but HO15.out hb (fun _ _ f => f)); have HW16 := Lib.hid (HW15.out.no hb); have HJ16 := Lib.hid hI; have HI16 := Lib.hid (HI15.out.but hb (fun f => f)); clear hI hb hbl) | (go_at_call 18; (with_reducible refine (CN2.out _ _ _ _ HO16.out HJ16.out).mono ?_); rintro e w17 ⟨rfl, hb⟩; have HW17 := Lib.hid (HW16.out.no hb); have HI17 := Lib.hid (HI16.out.but hb (fun f => f)); have c17 := (CE.out _ _ HI17.out).1; clear hb) | (go_at_call 23; (with_reducible refine (CX4.out _ HW17.out).mono ?_); rintro e w18 ⟨rfl, hw⟩; have HW18 := Lib.hid (HW17.out.no (drewN_but hw)); clear hw))
              go_ret
              exact ⟨rfl, HW18.out.but⟩
      · have b1 : decide ((k : Int) < (n : Int)) = false := by simp; omega
        have HK0 : Hid (L.length = 0 → n = 0) := fun h => by omega
        clear hps htk hlk hk0 hrel hgo
        obtain ⟨n8, hn8⟩ : ∃ n8, n8 = L.length := ⟨_, rfl⟩
        have HN8 := Lib.hid hn8
        have hn8l : n8 ≤ 60 := by rw [hn8]; have := HLK.out; omega
        have CA0 : Hid (∀ w', Hw w w' S p 256 T L → Calls Try.prog 17 #[.pointer (some ⟨p, 0, none⟩)] w' fun e w'' => ∃ b, e = .returned (.slice (some ⟨b, 0, none⟩) n8 n8) ∧ Ints w'' b (L.map It.id) ∧ But No w' w'' ∧ w'.heap.size ≤ b) := fun w' h' => by rw [hn8]; exact all_any p 256 _ _ S w' h'.rp
        clear hn8
        by_cases h8 : n8 = 0
        · have b8 : ((n8 : Int) == 0) = true := by simp; omega
          have bn : ((n : Int) == 0) = true := by
            have := HK0.out; have := HN8.out; simp; omega
          clear h8
          go_wp2_with (first | (go_at_call 17; (with_reducible refine (CA0.out _ HPS.out.hw).mono ?_); rintro e w6 ⟨b0, rfl, hI, hb6, hbl⟩; have HP6 := Lib.hid (HPS.out.no hb6); have HI6 := Lib.hid hI; have HNS : Hid (¬ S b0 ∧ ¬ Sx b0) := ⟨fun hk => (by have := HPS.out.hw.rp.lt b0 hk; omega), fun hk => (by have := HPS.out.hx.rp.lt b0 hk; omega)⟩;  clear hI hb6 hbl))
          go_ret
          exact ⟨rfl, HP6.out.hw.but⟩
        · obtain ⟨y, t, rfl⟩ : ∃ y t, L = y :: t := by
            cases L with
            | nil => exact absurd HN8.out h8
            | cons y t => exact ⟨y, t, rfl⟩
          have b8 : ((n8 : Int) == 0) = false := by simp; omega
          have b81 : (1 : Int) ≤ (n8 : Int) := by omega
          have b80 : (0 : Int) < (n8 : Int) := by omega
          obtain ⟨n7, hn7⟩ : ∃ n7, n7 = t.length := ⟨_, rfl⟩
          have HN7 := Lib.hid hn7
          have e8 : n8 - 1 = n7 := by rw [HN8.out, hn7]; rfl
          have hn7l : n7 ≤ 60 := by omega
          have ND := Lib.hid HPS.out.hw.rp.nd
          have NDT := Lib.hid (List.pairwise_cons.1 ND.out).2
          have CT : Hid (∀ w', Hw w w' S p 256 T (y :: t) → Calls Try.prog 13 #[.pointer (some ⟨p, 0, none⟩)] w' fun r w'' => r = .returned (.tuple #[.int .i64 y.id, .bool true]) ∧ Mv w' S p 256 T t w'') := fun w' h' => take_any p 256 T (y :: t) S w' h'.rp
          have e0 : idx (y :: t) y.id = (0 : Nat) := idx_get (j := 0) ND.out (by simp)
          have CD : Hid (∀ w', Hw w w' Sx x 256 T (y :: t) → Calls Try.prog 15 #[.pointer (some ⟨x, 0, none⟩), .int .i64 y.id] w' fun r w'' => r = .returned (.bool true) ∧ Mv w' Sx x 256 T t w'') := fun w' h' => by
            have := drop_any x 256 T (y :: t) Sx w' y.id h'.rp
            unfold hasI rmv at this
            rw [e0] at this
            exact this
          have CA1 : Hid (∀ w', Hw w w' S p 256 T t → Calls Try.prog 17 #[.pointer (some ⟨p, 0, none⟩)] w' fun e w'' => ∃ b, e = .returned (.slice (some ⟨b, 0, none⟩) n7 n7) ∧ Ints w'' b (t.map It.id) ∧ But No w' w'' ∧ w'.heap.size ≤ b) := fun w' h' => by rw [hn7]; exact all_any p 256 _ _ S w' h'.rp
          have CA2 : Hid (∀ w', Hw w w' Sx x 256 T t → Calls Try.prog 17 #[.pointer (some ⟨x, 0, none⟩)] w' fun e w'' => ∃ b, e = .returned (.slice (some ⟨b, 0, none⟩) n7 n7) ∧ Ints w'' b (t.map It.id) ∧ But No w' w'' ∧ w'.heap.size ≤ b) := fun w' h' => by rw [hn7]; exact all_any x 256 _ _ Sx w' h'.rp
          have CN : Hid (∀ w' b1 b2, Ints w' b1 (t.map It.id) → Ints w' b2 (t.map It.id) → Calls Try.prog 18 #[.slice (some ⟨b1, 0, none⟩) n7 n7, .slice (some ⟨b2, 0, none⟩) n7 n7] w' fun e w'' => e = .returned (.bool true) ∧ But No w' w'') := fun w' b1 b2 h1 h2 => by
            have hlm : (t.map It.id).length = n7 := by rw [List.length_map, hn7]
            have r1 := h1.rl (by omega)
            have r2 := h2.rl (by omega)
            rw [hlm] at r1 r2
            have := numbers_any (some ⟨b1, 0, none⟩) (some ⟨b2, 0, none⟩) n7 n7 n7 n7 _ _ w' r1 r2
            simp only [decide_true] at this
            exact this
          have CL : Hid (∀ w', Hw w w' S p 256 T t → Calls Try.prog 20 #[.pointer (some ⟨p, 0, none⟩)] w' fun e w'' => e = .returned (.int .i64 n7) ∧ w'' = w') := fun w' h' => by rw [hn7]; exact len_any p 256 T t S w' h'.rp
          obtain ⟨yi, hyi⟩ : ∃ yi, y.id = yi := ⟨_, rfl⟩
          have C0 : Hid (∀ w' b, Ints w' b ((y :: t).map It.id) → w'.cell? ⟨b, 0, none⟩ = some (.int .i64 yi)) := fun w' b h' => by rw [← hyi]; exact ids_cell (j := 0) h' (by simp)
          rw [hyi] at CT CD
          have bs : (yi != yi) = false := by simp
          clear e0 hyi hn7
          by_cases h7 : n7 = 0
          · have b7 : ((n7 : Int) == 0) = true := by simp; omega
            clear h7 h8
            go_wp2_with (first | (go_at_call 17; (with_reducible refine (CA0.out _ HPS.out.hw).mono ?_); rintro e w6 ⟨b0, rfl, hI, hb6, hbl⟩; have HP6 := Lib.hid (HPS.out.no hb6); have HI6 := Lib.hid hI; have HNS : Hid (¬ S b0 ∧ ¬ Sx b0) := ⟨fun hk => (by have := HPS.out.hw.rp.lt b0 hk; omega), fun hk => (by have := HPS.out.hx.rp.lt b0 hk; omega)⟩; obtain ⟨A1, hA1⟩ : ∃ A1, (if n8 = 1 then some (⟨b0, 0, none⟩ : Addr) else some ⟨b0, 1, none⟩) = A1 := ⟨_, rfl⟩; clear hI hb6 hbl) | (go_at_call 13; (with_reducible refine (CT.out _ HP6.out.hw).mono ?_); rintro e w7 ⟨rfl, hm⟩; have HX7 := Lib.hid (HP6.out.mid hm); have HI7 := Lib.hid (HI6.out.but hm.2 HNS.out.1); have c7 := C0.out _ _ HI7.out; have HM7 := Lib.hid hm; clear hm) | (go_at_call 15; (with_reducible refine (CD.out _ HX7.out).mono ?_); rintro e w8 ⟨rfl, hr⟩; have HP8 := Lib.hid (HP6.out.step HM7.out hr); have HI8 := Lib.hid (HI7.out.but hr.2 HNS.out.2); clear hr) | (go_at_call 17; (with_reducible refine (CA1.out _ HP8.out.hw).mono ?_); rintro e w9 ⟨b1, rfl, hI, hb, hbl⟩; have HP9 := Lib.hid (HP8.out.no hb); have HI9 := Lib.hid (HI8.out.but hb (fun f => f)); have HJ9 := Lib.hid hI; clear hI hb hbl) | (go_at_call 17; (with_reducible refine (CA2.out _ HP9.out.hx).mono ?_); rintro e w10 ⟨b2, rfl, hI, hb, hbl⟩; have HP10 := Lib.hid (HP9.out.no hb); have HI10 := Lib.hid (HI9.out.but hb (fun f => f)); have HJ10 := Lib.hid (HJ9.out.but hb (fun f => f)); have HK10 := Lib.hid hI; clear hI hb hbl) | (go_at_call 18; (with_reducible refine (CN.out _ _ _ HJ10.out HK10.out).mono ?_); rintro e w11 ⟨rfl, hb⟩; have HP11 := Lib.hid (HP10.out.no hb); have HI11 := Lib.hid (HI10.out.but hb (fun f => f)); have c11 := C0.out _ _ HI11.out;  clear hb) | (go_at_call 20; (with_reducible refine (CL.out _ HP11.out.hw).mono ?_); rintro e w12 ⟨rfl, rfl⟩))
            go_ret
            exact ⟨rfl, HP11.out.hw.but⟩
          · have b7 : ((n7 : Int) == 0) = false := by simp; omega
            have h81 : ¬ n8 = 1 := by omega
            have k0 := pk_lt a1 n7 (by omega)
            obtain ⟨kk, hkk⟩ : ∃ r : Nat, pk a1 n7 = (r : Int) := ⟨(pk a1 n7).toNat, by omega⟩
            have hkn : kk < n7 := by omega
            have CK : Hid (∀ w, Calls Try.prog 10 #[.int .i64 a1, .int .i64 n7] w fun e w' => e = .returned (.int .i64 kk) ∧ w = w') := fun w => by rw [← hkk]; exact pick_any a1 n7 w (inR_of HW1.out) (by omega) (by omega)
            clear k0 hkk
            obtain ⟨m7, hm7⟩ : ∃ m7, m7 = n7 - 1 := ⟨_, rfl⟩
            have e7 : (n7 : Int) - 1 = (m7 : Int) := by omega
            have hkt : kk < t.length := by rw [← HN7.out]; exact hkn
            have hmt : m7 < t.length := by rw [← HN7.out]; omega
            obtain ⟨zl, hzl⟩ : ∃ z, (t.getD m7 it0).id = z := ⟨_, rfl⟩
            obtain ⟨tl, htl⟩ : ∃ z, (t.getD m7 it0).tk = z := ⟨_, rfl⟩
            obtain ⟨zk, hzk⟩ : ∃ z, (t.getD kk it0).id = z := ⟨_, rfl⟩
            have CX : Hid (∀ w', Hw w w' S p 256 T t → Calls Try.prog 23 #[.pointer (some ⟨p, 0, none⟩), .int .i64 zl] w' fun r w'' => r = .returned (.int .i64 tl) ∧ ∃ m, w'' = w'.drewN m) := fun w' h' => by
              have := ticket_any p 256 T t S w' zl h'.rp
              rw [← hzl, tkt_get NDT.out hmt, htl, hzl] at this; exact this
            have CD2 : Hid (∀ w', Hw w w' S p 256 T t → Calls Try.prog 15 #[.pointer (some ⟨p, 0, none⟩), .int .i64 zk] w' fun r w'' => r = .returned (.bool true) ∧ Mv w' S p 256 T (t.eraseIdx kk) w'') := fun w' h' => by
              have := drop_any p 256 T t S w' zk h'.rp
              unfold hasI rmv at this
              rw [← hzk, idx_get NDT.out hkt, if_pos (by omega)] at this
              rw [← hzk]
              simpa using this
            have hle : (t.eraseIdx kk).length = m7 := by rw [List.length_eraseIdx, if_pos hkt, ← HN7.out, hm7]
            have CA3 : Hid (∀ w', Hw w w' S p 256 T (t.eraseIdx kk) → Calls Try.prog 17 #[.pointer (some ⟨p, 0, none⟩)] w' fun e w'' => ∃ b, e = .returned (.slice (some ⟨b, 0, none⟩) m7 m7) ∧ Ints w'' b ((t.eraseIdx kk).map It.id) ∧ But No w' w'' ∧ w'.heap.size ≤ b) := fun w' h' => by rw [← hle]; exact all_any p 256 _ _ S w' h'.rp
            obtain ⟨k1, hk1⟩ : ∃ k1, k1 = kk + 1 := ⟨_, rfl⟩
            have X1 : Hid ((t.map It.id).take kk ++ (t.map It.id).drop k1 = (t.eraseIdx kk).map It.id) := by show _ = _; rw [hk1, List.eraseIdx_eq_take_drop_succ, List.map_append, List.map_take, List.map_drop]
            have hnn : kk + (n7 - k1) = m7 := by omega
            have CN2 : Hid (∀ w' A' c' b2, w'.ownsRow 0 3 1 (.slice A' m7 c') m7 (((t.map It.id).take kk ++ (t.map It.id).drop k1).map (Value.int .i64)) → Ints w' b2 ((t.eraseIdx kk).map It.id) → Calls Try.prog 18 #[.slice A' m7 c', .slice (some ⟨b2, 0, none⟩) m7 m7] w' fun e w'' => e = .returned (.bool true) ∧ But No w' w'') := fun w' A' c' b2 h1 h2 => by
              rw [X1.out] at h1
              have hlm : ((t.eraseIdx kk).map It.id).length = m7 := by rw [List.length_map, hle]
              have r1 := (Ov.rl (w := w') (A := A') (n := m7) (c := c') (zs := (t.eraseIdx kk).map It.id) (by unfold Ov; rw [hlm]; exact h1) (by omega)).1
              have r2 := h2.rl (by omega)
              rw [hlm] at r2
              have := numbers_any A' (some ⟨b2, 0, none⟩) m7 m7 c' m7 _ _ w' r1 r2
              simp only [decide_true] at this
              exact this
            have CE : Hid (∀ w' b, Ints w' b ((y :: t).map It.id) → w'.cell? ⟨b, 1 + m7, none⟩ = some (.int .i64 zl) ∧ w'.cell? ⟨b, 1 + kk, none⟩ = some (.int .i64 zk)) := fun w' b h' => by
              refine ⟨?_, ?_⟩
              · rw [← hzl, show 1 + m7 = m7 + 1 by omega]; exact ids_cell (j := m7 + 1) h' (by simpa using hmt)
              · rw [← hzk, show 1 + kk = kk + 1 by omega]; exact ids_cell (j := kk + 1) h' (by simpa using hkt)
            have CX3 : Hid (kk ≠ m7 → ∀ w', Hw w w' S p 256 T (t.eraseIdx kk) → Calls Try.prog 23 #[.pointer (some ⟨p, 0, none⟩), .int .i64 zl] w' fun r w'' => r = .returned (.int .i64 tl) ∧ ∃ m, w'' = w'.drewN m) := fun hne w' h' => by
              have := ticket_any p 256 T (t.eraseIdx kk) S w' zl h'.rp
              rw [← hzl, tkt_mem h'.rp.nd (mem_erase hmt hne), htl, hzl] at this; exact this
            have bt : (tl == tl) = true := by simp
            have bk : (kk : Int) < (n7 : Int) := by omega
            have bm : (m7 : Int) < (n7 : Int) := by omega
            have RD1 : Hid (∀ w' b, Ints w' b ((y :: t).map It.id) → Reads w' w'.heap.size 1 (some ⟨b, 1, none⟩) kk (((t.map It.id).take kk).map (Value.int .i64))) := fun w' b h' => reads_take h' hkt
            have RD2 : Hid (∀ w' b, Ints w' b ((y :: t).map It.id) → Reads w' w'.heap.size 1 (if n7 = k1 then some ⟨b, 1, none⟩ else some ⟨b, 1 + k1, none⟩) (n7 - k1) (((t.map It.id).drop k1).map (Value.int .i64))) := fun w' b h' => by
              rw [HN7.out]; exact reads_drop h' (by omega)
            have ek1 := wr1 hk1 (by omega)
            have ek2 := wr0 (a := k1) (by omega)
            have bk1 : (k1 : Int) ≤ (n7 : Int) := by omega
            have bkl : (kk : Int) ≤ (n7 : Int) := by omega
            have HLN : Hid (((t.map It.id).take kk).map (Value.int .i64) ++ ((t.map It.id).drop k1).map (Value.int .i64) = (((t.map It.id).take kk ++ (t.map It.id).drop k1).map (Value.int .i64))) := by show _ = _; rw [List.map_append]
            clear h8 hm7 hkt hmt hzl htl hzk hle hk1 X1
            have HB3 : Hid (But No w wr) := HPS.out.hw.but
            obtain ⟨i0, hi0, hz0, hz1, hz2⟩ := info_parts info3
            have I0 : Hid (Try.prog.info? 3 = some i0 ∧ i0.zero = some (.int .i64 0) ∧ i0.size = 1 ∧ i0.bytes = 8) := ⟨hi0, hz0, hz1, hz2⟩
            clear hi0 hz0 hz1 hz2
            obtain ⟨zs1, hzs1⟩ : ∃ z, z = ((t.map It.id).take kk).map (Value.int .i64) := ⟨_, rfl⟩
            obtain ⟨zs2, hzs2⟩ : ∃ z, z = ((t.map It.id).drop k1).map (Value.int .i64) := ⟨_, rfl⟩
            rw [← hzs1] at RD1 HLN
            rw [← hzs2] at RD2 HLN
            have ON1 : Hid (∀ u ∈ zs1, u.oneCell' = true) := by intro u hu; rw [hzs1] at hu; obtain ⟨z, _, rfl⟩ := List.mem_map.1 hu; rfl
            have ON2 : Hid (∀ u ∈ zs2, u.oneCell' = true) := by intro u hu; rw [hzs2] at hu; obtain ⟨z, _, rfl⟩ := List.mem_map.1 hu; rfl
            clear hzs1 hzs2
            by_cases hkm : kk = m7
            · have bkm : ((kk : Int) == (m7 : Int)) = true := by simp; omega
              clear hkm
              go_wp2_with (first | (go_at_call 17; (with_reducible refine (CA0.out _ HPS.out.hw).mono ?_); rintro e w6 ⟨b0, rfl, hI, hb6, hbl⟩; have HP6 := Lib.hid (HPS.out.no hb6); have HI6 := Lib.hid hI; have HNS : Hid (¬ S b0 ∧ ¬ Sx b0) := ⟨fun hk => (by have := HPS.out.hw.rp.lt b0 hk; omega), fun hk => (by have := HPS.out.hx.rp.lt b0 hk; omega)⟩;  clear hI hb6 hbl) | (go_at_call 13; (with_reducible refine (CT.out _ HP6.out.hw).mono ?_); rintro e w7 ⟨rfl, hm⟩; have HX7 := Lib.hid (HP6.out.mid hm); have HI7 := Lib.hid (HI6.out.but hm.2 HNS.out.1); have c7 := C0.out _ _ HI7.out; have HM7 := Lib.hid hm; clear hm) | (go_at_call 15; (with_reducible refine (CD.out _ HX7.out).mono ?_); rintro e w8 ⟨rfl, hr⟩; have HP8 := Lib.hid (HP6.out.step HM7.out hr); have HI8 := Lib.hid (HI7.out.but hr.2 HNS.out.2); clear hr) | (go_at_call 17; (with_reducible refine (CA1.out _ HP8.out.hw).mono ?_); rintro e w9 ⟨b1, rfl, hI, hb, hbl⟩; have HP9 := Lib.hid (HP8.out.no hb); have HI9 := Lib.hid (HI8.out.but hb (fun f => f)); have HJ9 := Lib.hid hI; clear hI hb hbl) | (go_at_call 17; (with_reducible refine (CA2.out _ HP9.out.hx).mono ?_); rintro e w10 ⟨b2, rfl, hI, hb, hbl⟩; have HP10 := Lib.hid (HP9.out.no hb); have HI10 := Lib.hid (HI9.out.but hb (fun f => f)); have HJ10 := Lib.hid (HJ9.out.but hb (fun f => f)); have HK10 := Lib.hid hI; clear hI hb hbl) | (go_at_call 18; (with_reducible refine (CN.out _ _ _ HJ10.out HK10.out).mono ?_); rintro e w11 ⟨rfl, hb⟩; have HP11 := Lib.hid (HP10.out.no hb); have HI11 := Lib.hid (HI10.out.but hb (fun f => f)); have c11 := C0.out _ _ HI11.out; have c12 := (CE.out _ _ HI11.out).1; clear hb) | (go_at_call 10; ((with_reducible refine (CK.out _).mono ?_); rintro e w2 ⟨rfl, rfl⟩)) | (go_at_call 23; (with_reducible refine (CX.out _ HP11.out.hw).mono ?_); rintro e w12 ⟨rfl, hw⟩; have HW12 := Lib.hid (HP11.out.hw.no (drewN_but hw)); have HI12 := Lib.hid (HI11.out.but (drewN_but hw) (fun f => f)); have c13 := (CE.out _ _ HI12.out).2; clear hw) | (go_at_call 15; (with_reducible refine (CD2.out _ HW12.out).mono ?_); rintro e w13 ⟨rfl, hm⟩; have HW13 := Lib.hid (HW12.out.step hm); have HI13 := Lib.hid (HI12.out.but hm.2 HNS.out.1); clear hm))
              obtain ⟨A', hA'⟩ : ∃ A', (if n7 = k1 then some (⟨b0, 1, none⟩ : Addr) else some ⟨b0, 1 + k1, none⟩) = A' := ⟨_, rfl⟩
              have R1 : Hid (Reads w13.drew w13.heap.size 1 (some ⟨b0, 1, none⟩) kk zs1) := RD1.out _ _ HI13.out
              have R2 : Hid (Reads w13.drew w13.heap.size 1 A' (n7 - k1) zs2) := by have := RD2.out _ _ HI13.out; rw [hA'] at this; exact this
              have KEEP : Hid (∀ w', But No w13 w' → Reads w' w13.heap.size 1 A' (n7 - k1) zs2) := fun w' hb => R2.out.keep fun p hp => World.cell?_of_block (hb.block p.block hp (fun f => f))
              clear c7 c11 c12 c13 h7 hkn
              go_region_law (first | (refine step_append_sh rfl _ _ 40 rfl 3 i0 _ 1 8 Try.underlying40 I0.out.1 I0.out.2.1 I0.out.2.2.1 I0.out.2.2.2 rfl (by omega) (.slice none 0 0) 0 [] (by simp [Act.eval, Act.put]) (World.ownsRow_nil _ _ _ _) w13.heap.size (some ⟨b0, 1, none⟩) kk n7 zs1 (by simp [Act.eval, Act.put]) R1.out ON1.out (by unfold maxLen; omega) (by omega) ?_; intro A2 cc2 w14 hown1 hgrow1 hat1; have HB14 : Hid (But No w13 w14) := ((But.refl No w13).drew).grown hgrow1.out (fun k e => by simp [Value.ownBlock] at e)) | (refine step_append_sh rfl _ _ 40 rfl 3 i0 _ 1 8 Try.underlying40 I0.out.1 I0.out.2.1 I0.out.2.2.1 I0.out.2.2.2 rfl (by omega) (.slice A2 (0 + kk) cc2) (0 + kk) _ (by simp [Act.eval, Act.put]) hown1.out w13.heap.size A' (n7 - k1) (n7 - k1) zs2 (by simp [Act.eval, Act.put]) (KEEP.out _ HB14.out) ON2.out (by unfold maxLen; omega) (by omega) ?_; intro A3 cc3 w15 hown2 hgrow2 hat2; have HB15 : Hid (But No w13 w15) := HB14.out.grown hgrow2.out (fun j e => .inr (own_new own_none hat1.out (Nat.le_refl _) j e))))
              have HO15 : Hid (w15.ownsRow 0 3 1 (.slice A3 (0 + kk + (n7 - k1)) cc3) (0 + kk + (n7 - k1)) ([] ++ zs1 ++ zs2)) := hown2
              simp only [Nat.zero_add, hnn, List.nil_append] at HO15
              rw [HLN.out] at HO15
              have HW15 := Lib.hid (HW13.out.no HB15.out)
              have HI15 := Lib.hid (HI13.out.but HB15.out (fun f => f))
              clear hown1 hgrow1 hat1 hown2 hgrow2 hat2
              try simp only [Nat.zero_add, hnn]
              go_wp2_with (first | (go_at_call 17; (with_reducible refine (CA3.out _ HW15.out).mono ?_); rintro e w16 ⟨b3, rfl, hI, hb, hbl⟩; have HO16 := Lib.hid (owns_but HO15.out hb (fun _ _ f => f)); have HW16 := Lib.hid (HW15.out.no hb); have HJ16 := Lib.hid hI; have HI16 := Lib.hid (HI15.out.but hb (fun f => f)); clear hI hb hbl) | (go_at_call 18; (with_reducible refine (CN2.out _ _ _ _ HO16.out HJ16.out).mono ?_); rintro e w17 ⟨rfl, hb⟩; have HW17 := Lib.hid (HW16.out.no hb); have HI17 := Lib.hid (HI16.out.but hb (fun f => f)); clear hb))
              go_ret
              exact ⟨rfl, HW17.out.but⟩
            · have bkm : ((kk : Int) == (m7 : Int)) = false := by simp; omega
              have CX4 := Lib.hid (CX3.out hkm)
              clear hkm
              go_wp2_with (first | (go_at_call 17; (with_reducible refine (CA0.out _ HPS.out.hw).mono ?_); rintro e w6 ⟨b0, rfl, hI, hb6, hbl⟩; have HP6 := Lib.hid (HPS.out.no hb6); have HI6 := Lib.hid hI; have HNS : Hid (¬ S b0 ∧ ¬ Sx b0) := ⟨fun hk => (by have := HPS.out.hw.rp.lt b0 hk; omega), fun hk => (by have := HPS.out.hx.rp.lt b0 hk; omega)⟩;  clear hI hb6 hbl) | (go_at_call 13; (with_reducible refine (CT.out _ HP6.out.hw).mono ?_); rintro e w7 ⟨rfl, hm⟩; have HX7 := Lib.hid (HP6.out.mid hm); have HI7 := Lib.hid (HI6.out.but hm.2 HNS.out.1); have c7 := C0.out _ _ HI7.out; have HM7 := Lib.hid hm; clear hm) | (go_at_call 15; (with_reducible refine (CD.out _ HX7.out).mono ?_); rintro e w8 ⟨rfl, hr⟩; have HP8 := Lib.hid (HP6.out.step HM7.out hr); have HI8 := Lib.hid (HI7.out.but hr.2 HNS.out.2); clear hr) | (go_at_call 17; (with_reducible refine (CA1.out _ HP8.out.hw).mono ?_); rintro e w9 ⟨b1, rfl, hI, hb, hbl⟩; have HP9 := Lib.hid (HP8.out.no hb); have HI9 := Lib.hid (HI8.out.but hb (fun f => f)); have HJ9 := Lib.hid hI; clear hI hb hbl) | (go_at_call 17; (with_reducible refine (CA2.out _ HP9.out.hx).mono ?_); rintro e w10 ⟨b2, rfl, hI, hb, hbl⟩; have HP10 := Lib.hid (HP9.out.no hb); have HI10 := Lib.hid (HI9.out.but hb (fun f => f)); have HJ10 := Lib.hid (HJ9.out.but hb (fun f => f)); have HK10 := Lib.hid hI; clear hI hb hbl) | (go_at_call 18; (with_reducible refine (CN.out _ _ _ HJ10.out HK10.out).mono ?_); rintro e w11 ⟨rfl, hb⟩; have HP11 := Lib.hid (HP10.out.no hb); have HI11 := Lib.hid (HI10.out.but hb (fun f => f)); have c11 := C0.out _ _ HI11.out; have c12 := (CE.out _ _ HI11.out).1; clear hb) | (go_at_call 10; ((with_reducible refine (CK.out _).mono ?_); rintro e w2 ⟨rfl, rfl⟩)) | (go_at_call 23; (with_reducible refine (CX.out _ HP11.out.hw).mono ?_); rintro e w12 ⟨rfl, hw⟩; have HW12 := Lib.hid (HP11.out.hw.no (drewN_but hw)); have HI12 := Lib.hid (HI11.out.but (drewN_but hw) (fun f => f)); have c13 := (CE.out _ _ HI12.out).2; clear hw) | (go_at_call 15; (with_reducible refine (CD2.out _ HW12.out).mono ?_); rintro e w13 ⟨rfl, hm⟩; have HW13 := Lib.hid (HW12.out.step hm); have HI13 := Lib.hid (HI12.out.but hm.2 HNS.out.1); clear hm))
              obtain ⟨A', hA'⟩ : ∃ A', (if n7 = k1 then some (⟨b0, 1, none⟩ : Addr) else some ⟨b0, 1 + k1, none⟩) = A' := ⟨_, rfl⟩
              have R1 : Hid (Reads w13.drew w13.heap.size 1 (some ⟨b0, 1, none⟩) kk zs1) := RD1.out _ _ HI13.out
              have R2 : Hid (Reads w13.drew w13.heap.size 1 A' (n7 - k1) zs2) := by have := RD2.out _ _ HI13.out; rw [hA'] at this; exact this
              have KEEP : Hid (∀ w', But No w13 w' → Reads w' w13.heap.size 1 A' (n7 - k1) zs2) := fun w' hb => R2.out.keep fun p hp => World.cell?_of_block (hb.block p.block hp (fun f => f))
              clear c7 c11 c12 c13 h7 hkn
              go_region_law (first | (refine step_append_sh rfl _ _ 40 rfl 3 i0 _ 1 8 Try.underlying40 I0.out.1 I0.out.2.1 I0.out.2.2.1 I0.out.2.2.2 rfl (by omega) (.slice none 0 0) 0 [] (by simp [Act.eval, Act.put]) (World.ownsRow_nil _ _ _ _) w13.heap.size (some ⟨b0, 1, none⟩) kk n7 zs1 (by simp [Act.eval, Act.put]) R1.out ON1.out (by unfold maxLen; omega) (by omega) ?_; intro A2 cc2 w14 hown1 hgrow1 hat1; have HB14 : Hid (But No w13 w14) := ((But.refl No w13).drew).grown hgrow1.out (fun k e => by simp [Value.ownBlock] at e)) | (refine step_append_sh rfl _ _ 40 rfl 3 i0 _ 1 8 Try.underlying40 I0.out.1 I0.out.2.1 I0.out.2.2.1 I0.out.2.2.2 rfl (by omega) (.slice A2 (0 + kk) cc2) (0 + kk) _ (by simp [Act.eval, Act.put]) hown1.out w13.heap.size A' (n7 - k1) (n7 - k1) zs2 (by simp [Act.eval, Act.put]) (KEEP.out _ HB14.out) ON2.out (by unfold maxLen; omega) (by omega) ?_; intro A3 cc3 w15 hown2 hgrow2 hat2; have HB15 : Hid (But No w13 w15) := HB14.out.grown hgrow2.out (fun j e => .inr (own_new own_none hat1.out (Nat.le_refl _) j e))))
              have HO15 : Hid (w15.ownsRow 0 3 1 (.slice A3 (0 + kk + (n7 - k1)) cc3) (0 + kk + (n7 - k1)) ([] ++ zs1 ++ zs2)) := hown2
              simp only [Nat.zero_add, hnn, List.nil_append] at HO15
              rw [HLN.out] at HO15
              have HW15 := Lib.hid (HW13.out.no HB15.out)
              have HI15 := Lib.hid (HI13.out.but HB15.out (fun f => f))
              have c15 := (CE.out _ _ HI15.out).1
              clear hown1 hgrow1 hat1 hown2 hgrow2 hat2
              try simp only [Nat.zero_add, hnn]
              go_wp2_with (first | (go_at_call 17; (with_reducible refine (CA3.out _ HW15.out).mono ?_); rintro e w16 ⟨b3, rfl, hI, hb, hbl⟩; have HO16 := Lib.hid (owns_but HO15.out hb (fun _ _ f => f)); have HW16 := Lib.hid (HW15.out.no hb); have HJ16 := Lib.hid hI; have HI16 := Lib.hid (HI15.out.but hb (fun f => f)); clear hI hb hbl) | (go_at_call 18; (with_reducible refine (CN2.out _ _ _ _ HO16.out HJ16.out).mono ?_); rintro e w17 ⟨rfl, hb⟩; have HW17 := Lib.hid (HW16.out.no hb); have HI17 := Lib.hid (HI16.out.but hb (fun f => f)); have c17 := (CE.out _ _ HI17.out).1; clear hb) | (go_at_call 23; (with_reducible refine (CX4.out _ HW17.out).mono ?_); rintro e w18 ⟨rfl, hw⟩; have HW18 := Lib.hid (HW17.out.no (drewN_but hw)); clear hw))
              go_ret
              exact ⟨rfl, HW18.out.but⟩
end ringDrops
end Go.Proofs.Ythakginneapdeaa
