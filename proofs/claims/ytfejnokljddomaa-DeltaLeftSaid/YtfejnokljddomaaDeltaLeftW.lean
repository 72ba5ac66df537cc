/- With each tick each timer has a tick less left; one that is cancelled leaves the others as they are: DeltaLeft returns true. (The walk.) -/
import Derived.Test.YtfejnokljddomaaE
namespace Go.Proofs.Ytfejnokljddomaa.deltaLeft
open Go.ChangeShapes Go.WideShapes Go.ChangeAt Go.RowKit Go.Deep
/-- What each has at the start. -/
def G (zs : List Int) (nn : Nat) (x j : Int) : Int := if 0 ≤ j ∧ j < nn ∧ j ≠ x then 1 + pk (zs.getD j.toNat 0) 60 else 0
theorem G_at {zs : List Int} {nn i : Nat} {x : Int} (h : i < nn) : G zs nn x (i : Int) = if (i : Int) = x then 0 else 1 + pk (zs.getD i 0) 60 := by
  unfold G
  by_cases e : (i : Int) = x
  · rw [if_neg (fun h => h.2.2 e), if_pos e]
  · rw [if_pos ⟨by omega, by omega, e⟩, if_neg e]; rfl
def Rel1 (zs : List Int) (w wr : World) (p k : Nat) : Prop := ∃ S L, Hw w wr S p 256 L ∧ L.length = k ∧ ∀ j : Int, lft L j = if 0 ≤ j ∧ j < k then 1 + pk (zs.getD j.toNat 0) 60 else 0
def Rel2 (zs : List Int) (w wr : World) (p : Nat) (x : Int) (nn t : Nat) : Prop := ∃ S L, Hw w wr S p 256 L ∧ ∀ j : Int, lft L j = if (t : Int) < G zs nn x j then G zs nn x j - t else 0
theorem Rel1.add {zs : List Int} {w wr : World} {p k : Nat} {S : Nat → Prop} {L : List Tm} (hs : Hw w wr S p 256 L) (hlen : L.length = k) (hl : ∀ j : Int, lft L j = if 0 ≤ j ∧ j < k then 1 + pk (zs.getD j.toNat 0) 60 else 0) (hk : k < 100) :
    ∀ w', Mv wr S p 256 (ins ⟨k, 1 + pk (zs.getD k 0) 60⟩ L) w' → Rel1 zs w w' p (k + 1) := by
  intro w' hm
  obtain ⟨S', h', _, _⟩ := hs.step hm
  have hq := pk_lt (zs.getD k 0) 60 (by omega)
  have hno : ∀ x ∈ L, x.id ≠ (k : Int) := by
    rw [← hasT_not, has_lft hs.dp.gd, hl, if_neg (by omega)]; rfl
  refine ⟨S', _, h', by rw [length_ins, hlen], fun j => ?_⟩
  rw [lft_ins hs.dp.gd (by omega) (by omega) hno (by omega)]
  by_cases e : j = k
  · rw [if_pos e, if_pos (by omega), e]; rfl
  · rw [if_neg e, hl]
    by_cases h2 : 0 ≤ j ∧ j < k
    · rw [if_pos h2, if_pos (by omega)]
    · rw [if_neg h2, if_neg (by omega)]
theorem Rel2.start0 {zs : List Int} {w wr : World} {p k : Nat} {x : Int} (h : Rel1 zs w wr p k) (hx : x = -1) : Rel2 zs w wr p x k 0 := by
  obtain ⟨S, L, hs, hlen, hl⟩ := h
  refine ⟨S, L, hs, fun j => ?_⟩
  rw [hl]
  unfold G
  by_cases h2 : 0 ≤ j ∧ j < k
  · have := pk_lt (zs.getD j.toNat 0) 60 (by omega)
    rw [if_pos h2, if_pos (c := 0 ≤ j ∧ j < ↑k ∧ j ≠ x) ⟨h2.1, h2.2, by omega⟩, if_pos (by omega)]; omega
  · rw [if_neg h2, if_neg (c := 0 ≤ j ∧ j < ↑k ∧ j ≠ x) (by omega)]; simp
theorem Rel2.start1 {zs : List Int} {w wr w' : World} {p k : Nat} {x : Int} {S : Nat → Prop} {L : List Tm} (hs : Hw w wr S p 256 L) (hl : ∀ j : Int, lft L j = if 0 ≤ j ∧ j < k then 1 + pk (zs.getD j.toNat 0) 60 else 0) (hd : DP w' S p 256 (rmv L x)) (hb : But S wr w') : Rel2 zs w w' p x k 0 := by
  refine ⟨S, _, hs.same hd hb, fun j => ?_⟩
  rw [lft_rmv hs.dp.gd, hl]
  unfold G
  by_cases e : j = x
  · rw [if_pos e, if_neg (c := 0 ≤ j ∧ j < ↑k ∧ j ≠ x) (fun h => h.2.2 e)]; simp
  · rw [if_neg e]
    by_cases h2 : 0 ≤ j ∧ j < k
    · have := pk_lt (zs.getD j.toNat 0) 60 (by omega)
      rw [if_pos h2, if_pos (c := 0 ≤ j ∧ j < ↑k ∧ j ≠ x) ⟨h2.1, h2.2, e⟩, if_pos (by omega)]; omega
    · rw [if_neg h2, if_neg (c := 0 ≤ j ∧ j < ↑k ∧ j ≠ x) (by omega)]; simp
theorem Rel2.tick {zs : List Int} {w wr w' : World} {p k t : Nat} {x : Int} {S : Nat → Prop} {L : List Tm} {v : Value} (hs : Hw w wr S p 256 L) (hl : ∀ j : Int, lft L j = if (t : Int) < G zs k x j then G zs k x j - t else 0) (hx : ExEnd wr S p 256 1 L v w') : Rel2 zs w w' p x k (t + 1) := by
  refine ⟨S, _, hs.exp hx, fun j => ?_⟩
  rw [lft_rst hs.dp.gd (by omega), hl]
  generalize G zs k x j = g
  by_cases h1 : ((t + 1 : Nat) : Int) < g
  · rw [if_pos (by omega), if_pos (by omega), if_pos h1]; omega
  · rw [if_neg h1]
    by_cases h2 : (t : Int) < g
    · rw [if_pos h2, if_neg (by omega)]
    · rw [if_neg h2, if_neg (by omega)]
set_option maxHeartbeats 8000000 in
set_option maxRecDepth 100000 in
theorem walkA (A : Option Addr) (n c : Nat) (zs : List Int) (a b : Int) (w : World) (hz : Rd w A n zs) (ha : inR a) (hb : inR b) (hn : n ≤ 40) :
    Calls Try.prog 6 #[.slice A n c, .int .i64 a, .int .i64 b] w fun e w' => e = .returned (.bool true) ∧ But No w w' := by
  have HZ := Lib.hid hz
  have hmax := hz.max
  have HAB : Hid (inR a ∧ inR b) := ⟨ha, hb⟩
  clear hz ha hb
  have hn1 : (n : Int) ≤ 40 := by omega
  go_enter Try.func6, Try.ntmps6
  go_wp2_with (first
    | (go_at_call 7; refine (examples_any _).mono ?_; rintro e we ⟨rfl, hbe⟩; have HE := Lib.hid hbe; clear hbe)
    | (go_at_call 8; refine (new_ok 256 _ (by omega) (by omega)).mono ?_; rintro e w1 ⟨p, rfl, hne⟩; have HN1 := Lib.hid hne; clear hne))

  have H1 : Hid (Rel1 zs w w1 p 0) := by
    obtain ⟨S, hp, hb, hs⟩ := HN1.out
    exact ⟨S, [], ⟨hp, HE.out.trans hb, fun k hk => Nat.le_trans HE.out.size (hs k hk)⟩, rfl, fun j => by rw [if_neg (by omega)]; rfl⟩
  clear HN1 HE
  go_loopw [11] (fun s wr => ∃ k : Nat, s = .int .i64 k ∧ k ≤ n ∧ Hid (Rel1 zs w wr p k)) (fun s _ => n - (intOf s).toNat)
  case atStart => exact ⟨0, rfl, by omega, H1⟩
  case round =>
    obtain ⟨k, rfl, hk, hrel⟩ := hrel
    clear H1
    by_cases hlt : k < n
    · obtain ⟨S, L, hs, hlen, hl⟩ := hrel.out
      obtain ⟨eb, eoff, hA, hbl, hc⟩ := (HZ.out.no hs.but).at_ (by omega)
      have hck := hc k (by omega)
      have hF := HZ.out.fit k
      have hNX : ∀ w', Mv wr S p 256 (ins ⟨k, 1 + pk (zs.getD k 0) 60⟩ L) w' → Rel1 zs w w' p (k + 1) := Rel1.add hs hlen hl (by omega)
      generalize zs.getD k 0 = z at hck hF hNX
      obtain ⟨q, hq⟩ : ∃ q, q = pk z 60 := ⟨_, rfl⟩
      have CK : Hid (∀ w, Calls Try.prog 10 #[.int .i64 z, .int .i64 60] w fun e w' => e = .returned (.int .i64 q) ∧ w = w') := fun w => by rw [hq]; exact pick_any z 60 w hF (by omega) (by omega)
      have hq1 : 0 ≤ q ∧ q < 60 := by rw [hq]; exact pk_lt z 60 (by omega)
      obtain ⟨hq2, hq3⟩ := hq1
      rw [← hq] at hNX
      have HNX := Lib.hid hNX
      have CA : Hid (Calls Try.prog 11 #[.pointer (some ⟨p, 0, none⟩), .int .i64 k, .int .i64 (1 + q)] wr fun r w' => r = .returned (.int .i64 0) ∧ Mv wr S p 256 (ins ⟨k, 1 + q⟩ L) w') :=
        add_ok p 256 L S wr k (1 + q) hs.dp (by omega) (by omega) (by rw [has_lft hs.dp.gd, hl, if_neg (by omega)]; rfl) (by omega)
      have bi : (k : Int) < (n : Int) := by omega
      have bn9 : (k : Int) < (n : Int) := by omega
      have hn9 : k < n := by omega
      subst hA
      clear hs hl hlen hc hq hF hNX hbl
      go_wp2_with (first | (go_at_call 10; ((with_reducible refine (CK.out _).mono ?_); rintro e w2 ⟨rfl, rfl⟩)) | (go_at_call 11; ((with_reducible refine CA.out.mono ?_); rintro e w3 ⟨rfl, hm⟩; have HM := Lib.hid (HNX.out _ hm); clear hm)))
      go_roundw
      case rel => exact ⟨k + 1, by go_num, by omega, HM⟩
      case measure => simp [intOf]; omega
    · have bk : decide ((k : Int) < (n : Int)) = false := by simp; omega
      have hkn : k = n := by omega
      have HREL : Hid (Rel1 zs w wr p n) := by rw [← hkn]; exact hrel
      clear hrel hkn
      by_cases hn0 : n = 0
      · have b0 : decide ((0 : Int) < (n : Int)) = false := by simp; omega
        have b0' : ¬ 0 < n := by omega
        obtain ⟨x, hx⟩ : ∃ x : Int, x = -1 := ⟨_, rfl⟩
        have HR2 : Hid (Rel2 zs w wr p x n 0) := Rel2.start0 HREL.out hx
        have HB : Hid (n = 0) := hn0
        have HEX : Hid (Value.int .i64 (-1) = .int .i64 x) := by show _ = _; rw [hx]
        have hk0 : n ≤ 40 := by omega
        clear HREL hn0 hx
        go_wp2_with fail
        rw [HEX.out]
        go_loopw [13] (fun s wx => ∃ t : Nat, s = .int .i64 t ∧ t ≤ 81 ∧ Hid (Rel2 zs w wx p x n t)) (fun s _ => 81 - (intOf s).toNat)
        case atStart => exact ⟨0, rfl, by omega, HR2⟩
        case round =>
          obtain ⟨t, rfl, ht, h2⟩ := hrel
          clear HR2
          obtain ⟨q8, hq8⟩ : ∃ q, q = pk a 81 := ⟨_, rfl⟩
          have C8 : Hid (∀ w, Calls Try.prog 10 #[.int .i64 a, .int .i64 81] w fun e w' => e = .returned (.int .i64 q8) ∧ w = w') := fun w => by rw [hq8]; exact pick_any a 81 w HAB.out.1 (by omega) (by omega)
          have hq81 : 0 ≤ q8 ∧ q8 < 81 := by rw [hq8]; exact pk_lt a 81 (by omega)
          obtain ⟨hq82, hq83⟩ := hq81
          clear hq8
          by_cases htq : (t : Int) ≤ q8
          · have btq : decide ((t : Int) ≤ q8) = true := by simpa using htq
            have ht80 : t ≤ 80 := by omega
            go_wp2_with (first | (go_at_call 10; ((with_reducible refine (C8.out _).mono ?_); rintro e w2 ⟨rfl, rfl⟩)))
            clear btq
            go_loopw [14] (fun s wx => ∃ i : Nat, s = .int .i64 i ∧ i ≤ n ∧ Hid (Rel2 zs w wx p x n t)) (fun s _ => n - (intOf s).toNat)
            case atStart => exact ⟨0, rfl, by omega, h2⟩
            case round =>
              obtain ⟨i, rfl, hi, h3⟩ := hrel
              clear h2
              obtain ⟨S, L, hs, hl⟩ := h3.out
              by_cases hin : i < n
              · exact absurd hin (by have := HB.out; omega)
              · have bi : decide ((i : Int) < (n : Int)) = false := by simp; omega
                have CT := Lib.hid (tick_any p 256 L S wr hs.dp)
                have HS := Lib.hid hs
                have HL := Lib.hid hl
                clear hs hl
                go_wp2_with (first | (go_at_call 14; ((with_reducible refine CT.out.mono ?_); rintro e w4 ⟨v4, rfl, hx4⟩; have H4 : Hid (Rel2 zs w w4 p x n (t + 1)) := (Rel2.tick HS.out HL.out hx4); clear hx4)))
                go_roundw
                case rel => exact ⟨t + 1, by go_num, by omega, H4⟩
                case measure => simp [intOf]; omega
          · have btq : decide ((t : Int) ≤ q8) = false := by simpa using htq
            obtain ⟨S, L, hs, hl⟩ := h2.out
            have HB := Lib.hid hs.but
            clear hs hl
            go_wp2_with (first | (go_at_call 10; ((with_reducible refine (C8.out _).mono ?_); rintro e w2 ⟨rfl, rfl⟩)))
            go_ret
            exact ⟨rfl, HB.out⟩
      · have b0 : decide ((0 : Int) < (n : Int)) = true := by simp; omega
        have b0' : 0 < n := by omega
        obtain ⟨x, hx⟩ : ∃ x : Int, x = pk b n := ⟨_, rfl⟩
        have CP : Hid (∀ w, Calls Try.prog 10 #[.int .i64 b, .int .i64 n] w fun e w' => e = .returned (.int .i64 x) ∧ w = w') := fun w => by rw [hx]; exact pick_any b n w HAB.out.2 (by omega) (by omega)
        have hx1 : 0 ≤ x ∧ x < n := by rw [hx]; exact pk_lt b n (by omega)
        obtain ⟨S, L, hs, hlen, hl⟩ := HREL.out
        have HX1 := Lib.hid hx1
        have CC : Hid (Calls Try.prog 18 #[.pointer (some ⟨p, 0, none⟩), .int .i64 x] wr fun r w' => r = .returned (.bool true) ∧ Rel2 zs w w' p x n 0) := by
          have hh : hasT L x = true := by
            rw [has_lft hs.dp.gd, hl, if_pos hx1]
            have := pk_lt (zs.getD x.toNat 0) 60 (by omega)
            rw [decide_eq_true_iff]; omega
          have := cancel_any p 256 L S wr x hs.dp
          rw [hh] at this
          exact this.mono fun r w' ⟨h1, h2, h3⟩ => ⟨h1, Rel2.start1 hs hl h2 h3⟩
        clear hs hl hlen HREL hx hx1
        go_wp2_with (first | (go_at_call 10; ((with_reducible refine (CP.out _).mono ?_); rintro e w2 ⟨rfl, rfl⟩)) | (go_at_call 18; ((with_reducible refine CC.out.mono ?_); rintro e w3 ⟨rfl, hm⟩; have HR2 := Lib.hid hm; clear hm)))
        go_loopw [13] (fun s wx => ∃ t : Nat, s = .int .i64 t ∧ t ≤ 81 ∧ Hid (Rel2 zs w wx p x n t)) (fun s _ => 81 - (intOf s).toNat)
        case atStart => exact ⟨0, rfl, by omega, HR2⟩
        case round =>
          obtain ⟨t, rfl, ht, h2⟩ := hrel
          clear HR2
          obtain ⟨q8, hq8⟩ : ∃ q, q = pk a 81 := ⟨_, rfl⟩
          have C8 : Hid (∀ w, Calls Try.prog 10 #[.int .i64 a, .int .i64 81] w fun e w' => e = .returned (.int .i64 q8) ∧ w = w') := fun w => by rw [hq8]; exact pick_any a 81 w HAB.out.1 (by omega) (by omega)
          have hq81 : 0 ≤ q8 ∧ q8 < 81 := by rw [hq8]; exact pk_lt a 81 (by omega)
          obtain ⟨hq82, hq83⟩ := hq81
          clear hq8
          by_cases htq : (t : Int) ≤ q8
          · have btq : decide ((t : Int) ≤ q8) = true := by simpa using htq
            have ht80 : t ≤ 80 := by omega
            go_wp2_with (first | (go_at_call 10; ((with_reducible refine (C8.out _).mono ?_); rintro e w2 ⟨rfl, rfl⟩)))
            clear btq
            go_loopw [14] (fun s wx => ∃ i : Nat, s = .int .i64 i ∧ i ≤ n ∧ Hid (Rel2 zs w wx p x n t)) (fun s _ => n - (intOf s).toNat)
            case atStart => exact ⟨0, rfl, by omega, h2⟩
            case round =>
              obtain ⟨i, rfl, hi, h3⟩ := hrel
              clear h2
              obtain ⟨S, L, hs, hl⟩ := h3.out
              by_cases hin : i < n
              · obtain ⟨eb, eoff, hA, hbl, hc⟩ := (HZ.out.no hs.but).at_ (by omega)
                have hck := hc i (by omega)
                have hF := HZ.out.fit i
                have hli := hl (i : Int)
                rw [G_at hin] at hli
                have e9 : G zs n x (i : Int) = if (i : Int) = x then 0 else 1 + pk (zs.getD i 0) 60 := G_at hin
                generalize zs.getD i 0 = z at hck hF hli e9
                obtain ⟨q, hq⟩ : ∃ q, q = pk z 60 := ⟨_, rfl⟩
                have CK : Hid (∀ w, Calls Try.prog 10 #[.int .i64 z, .int .i64 60] w fun e w' => e = .returned (.int .i64 q) ∧ w = w') := fun w => by rw [hq]; exact pick_any z 60 w hF (by omega) (by omega)
                rw [← hq] at hli
                have hq1 : 0 ≤ q ∧ q < 60 := by rw [hq]; exact pk_lt z 60 (by omega)
                obtain ⟨hq2, hq3⟩ := hq1
                have CL0 : Calls Try.prog 21 #[.pointer (some ⟨p, 0, none⟩), .int .i64 i] wr fun r w' => r = .returned (.int .i64 (lft L i)) ∧ w' = wr := left_any p 256 L S wr i hs.dp
                rw [hli] at CL0
                have hn9 : i < n := by omega
                have bi : (i : Int) < (n : Int) := by omega
                have bn9 : (i : Int) < (n : Int) := by omega
                subst hA
                clear hs hl hc hq hF hli e9 hbl
                by_cases hx : (i : Int) = x
                · have bx : ((i : Int) == x) = true := by simpa using hx
                  have CL : Hid (Calls Try.prog 21 #[.pointer (some ⟨p, 0, none⟩), .int .i64 i] wr fun r w' => r = .returned (.int .i64 0) ∧ w' = wr) := by
                    rw [if_pos hx, if_neg (by omega)] at CL0; exact CL0
                  clear CL0 hx
                  by_cases h6 : 0 < 1 + q - (t : Int)
                  · have b6 : decide (0 < 1 + q - (t : Int)) = true := by simpa using h6
                    go_wp2_with (first | (go_at_call 10; ((with_reducible refine (CK.out _).mono ?_); rintro e w2 ⟨rfl, rfl⟩)) | (go_at_call 21; ((with_reducible refine CL.out.mono ?_); rintro e w3 ⟨rfl, rfl⟩)))
                    go_roundw
                    case rel => exact ⟨i + 1, by go_num, by omega, h3⟩
                    case measure => simp [intOf]; omega
                  · have b6 : decide (0 < 1 + q - (t : Int)) = false := by simpa using h6
                    go_wp2_with (first | (go_at_call 10; ((with_reducible refine (CK.out _).mono ?_); rintro e w2 ⟨rfl, rfl⟩)) | (go_at_call 21; ((with_reducible refine CL.out.mono ?_); rintro e w3 ⟨rfl, rfl⟩)))
                    go_roundw
                    case rel => exact ⟨i + 1, by go_num, by omega, h3⟩
                    case measure => simp [intOf]; omega
                · have bx : ((i : Int) == x) = false := by simpa using hx
                  rw [if_neg hx] at CL0
                  clear hx
                  by_cases h6 : 0 < 1 + q - (t : Int)
                  · have b6 : decide (0 < 1 + q - (t : Int)) = true := by simpa using h6
                    have CL : Hid (Calls Try.prog 21 #[.pointer (some ⟨p, 0, none⟩), .int .i64 i] wr fun r w' => r = .returned (.int .i64 (1 + q - (t : Int))) ∧ w' = wr) := by
                      rw [if_pos (by omega)] at CL0; exact CL0
                    have be : ((1 + q - (t : Int)) != (1 + q - (t : Int))) = false := by simp
                    clear CL0
                    go_wp2_with (first | (go_at_call 10; ((with_reducible refine (CK.out _).mono ?_); rintro e w2 ⟨rfl, rfl⟩)) | (go_at_call 21; ((with_reducible refine CL.out.mono ?_); rintro e w3 ⟨rfl, rfl⟩)))
                    go_roundw
                    case rel => exact ⟨i + 1, by go_num, by omega, h3⟩
                    case measure => simp [intOf]; omega
                  · have b6 : decide (0 < 1 + q - (t : Int)) = false := by simpa using h6
                    have CL : Hid (Calls Try.prog 21 #[.pointer (some ⟨p, 0, none⟩), .int .i64 i] wr fun r w' => r = .returned (.int .i64 0) ∧ w' = wr) := by
                      rw [if_neg (by omega)] at CL0; exact CL0
                    clear CL0
                    go_wp2_with (first | (go_at_call 10; ((with_reducible refine (CK.out _).mono ?_); rintro e w2 ⟨rfl, rfl⟩)) | (go_at_call 21; ((with_reducible refine CL.out.mono ?_); rintro e w3 ⟨rfl, rfl⟩)))
                    go_roundw
                    case rel => exact ⟨i + 1, by go_num, by omega, h3⟩
                    case measure => simp [intOf]; omega
              · have bi : decide ((i : Int) < (n : Int)) = false := by simp; omega
                have CT := Lib.hid (tick_any p 256 L S wr hs.dp)
                have HS := Lib.hid hs
                have HL := Lib.hid hl
                clear hs hl
                go_wp2_with (first | (go_at_call 14; ((with_reducible refine CT.out.mono ?_); rintro e w4 ⟨v4, rfl, hx4⟩; have H4 : Hid (Rel2 zs w w4 p x n (t + 1)) := (Rel2.tick HS.out HL.out hx4); clear hx4)))
                go_roundw
                case rel => exact ⟨t + 1, by go_num, by omega, H4⟩
                case measure => simp [intOf]; omega
          · have btq : decide ((t : Int) ≤ q8) = false := by simpa using htq
            obtain ⟨S, L, hs, hl⟩ := h2.out
            have HB := Lib.hid hs.but
            clear hs hl
            go_wp2_with (first | (go_at_call 10; ((with_reducible refine (C8.out _).mono ?_); rintro e w2 ⟨rfl, rfl⟩)))
            go_ret
            exact ⟨rfl, HB.out⟩
set_option maxHeartbeats 8000000 in
set_option maxRecDepth 100000 in
theorem walkB (A : Option Addr) (n c : Nat) (zs : List Int) (a b : Int) (w : World) (hz : Rd w A n zs) (ha : inR a) (hb : inR b) (hn : 40 < n) :
    Calls Try.prog 6 #[.slice A n c, .int .i64 a, .int .i64 b] w fun e w' => e = .returned (.bool true) ∧ But No w w' := by
  have HZ := Lib.hid hz
  have hmax := hz.max
  have HAB : Hid (inR a ∧ inR b) := ⟨ha, hb⟩
  clear hz ha hb
  have hn1 : ¬ (n : Int) ≤ 40 := by omega
  obtain ⟨nn, hnn⟩ : ∃ nn : Nat, nn = 40 := ⟨_, rfl⟩
  have HNN := Lib.hid hnn
  have HE40 : Hid (Value.int .i64 40 = .int .i64 (nn : Int)) := by show _ = _; rw [hnn]; rfl
  clear hnn
  go_enter Try.func6, Try.ntmps6
  go_wp2_with (first
    | (go_at_call 7; refine (examples_any _).mono ?_; rintro e we ⟨rfl, hbe⟩; have HE := Lib.hid hbe; clear hbe)
    | (go_at_call 8; refine (new_ok 256 _ (by omega) (by omega)).mono ?_; rintro e w1 ⟨p, rfl, hne⟩; have HN1 := Lib.hid hne; clear hne))
  rw [HE40.out]
  clear HE40
  have hn40 : nn = 40 := HNN.out
  have hnle : nn ≤ n := by omega
  have hnle2 : nn ≤ 40 := by omega
  clear hn40
  have H1 : Hid (Rel1 zs w w1 p 0) := by
    obtain ⟨S, hp, hb, hs⟩ := HN1.out
    exact ⟨S, [], ⟨hp, HE.out.trans hb, fun k hk => Nat.le_trans HE.out.size (hs k hk)⟩, rfl, fun j => by rw [if_neg (by omega)]; rfl⟩
  clear HN1 HE
  go_loopw [11] (fun s wr => ∃ k : Nat, s = .int .i64 k ∧ k ≤ nn ∧ Hid (Rel1 zs w wr p k)) (fun s _ => nn - (intOf s).toNat)
  case atStart => exact ⟨0, rfl, by omega, H1⟩
  case round =>
    obtain ⟨k, rfl, hk, hrel⟩ := hrel
    clear H1
    by_cases hlt : k < nn
    · obtain ⟨S, L, hs, hlen, hl⟩ := hrel.out
      obtain ⟨eb, eoff, hA, hbl, hc⟩ := (HZ.out.no hs.but).at_ (by omega)
      have hck := hc k (by omega)
      have hF := HZ.out.fit k
      have hNX : ∀ w', Mv wr S p 256 (ins ⟨k, 1 + pk (zs.getD k 0) 60⟩ L) w' → Rel1 zs w w' p (k + 1) := Rel1.add hs hlen hl (by omega)
      generalize zs.getD k 0 = z at hck hF hNX
      obtain ⟨q, hq⟩ : ∃ q, q = pk z 60 := ⟨_, rfl⟩
      have CK : Hid (∀ w, Calls Try.prog 10 #[.int .i64 z, .int .i64 60] w fun e w' => e = .returned (.int .i64 q) ∧ w = w') := fun w => by rw [hq]; exact pick_any z 60 w hF (by omega) (by omega)
      have hq1 : 0 ≤ q ∧ q < 60 := by rw [hq]; exact pk_lt z 60 (by omega)
      obtain ⟨hq2, hq3⟩ := hq1
      rw [← hq] at hNX
      have HNX := Lib.hid hNX
      have CA : Hid (Calls Try.prog 11 #[.pointer (some ⟨p, 0, none⟩), .int .i64 k, .int .i64 (1 + q)] wr fun r w' => r = .returned (.int .i64 0) ∧ Mv wr S p 256 (ins ⟨k, 1 + q⟩ L) w') :=
        add_ok p 256 L S wr k (1 + q) hs.dp (by omega) (by omega) (by rw [has_lft hs.dp.gd, hl, if_neg (by omega)]; rfl) (by omega)
      have bi : (k : Int) < (nn : Int) := by omega
      have bn9 : (k : Int) < (n : Int) := by omega
      have hn9 : k < n := by omega
      subst hA
      clear hs hl hlen hc hq hF hNX hbl
      go_wp2_with (first | (go_at_call 10; ((with_reducible refine (CK.out _).mono ?_); rintro e w2 ⟨rfl, rfl⟩)) | (go_at_call 11; ((with_reducible refine CA.out.mono ?_); rintro e w3 ⟨rfl, hm⟩; have HM := Lib.hid (HNX.out _ hm); clear hm)))
      go_roundw
      case rel => exact ⟨k + 1, by go_num, by omega, HM⟩
      case measure => simp [intOf]; omega
    · have bk : decide ((k : Int) < (nn : Int)) = false := by simp; omega
      have hkn : k = nn := by omega
      have HREL : Hid (Rel1 zs w wr p nn) := by rw [← hkn]; exact hrel
      clear hrel hkn
      by_cases hn0 : nn = 0
      · have b0 : decide ((0 : Int) < (nn : Int)) = false := by simp; omega
        have b0' : ¬ 0 < nn := by omega
        obtain ⟨x, hx⟩ : ∃ x : Int, x = -1 := ⟨_, rfl⟩
        have HR2 : Hid (Rel2 zs w wr p x nn 0) := Rel2.start0 HREL.out hx
        have HB : Hid (nn = 0) := hn0
        have HEX : Hid (Value.int .i64 (-1) = .int .i64 x) := by show _ = _; rw [hx]
        have hk0 : nn ≤ 40 := by omega
        clear HREL hn0 hx
        go_wp2_with fail
        rw [HEX.out]
        go_loopw [13] (fun s wx => ∃ t : Nat, s = .int .i64 t ∧ t ≤ 81 ∧ Hid (Rel2 zs w wx p x nn t)) (fun s _ => 81 - (intOf s).toNat)
        case atStart => exact ⟨0, rfl, by omega, HR2⟩
        case round =>
          obtain ⟨t, rfl, ht, h2⟩ := hrel
          clear HR2
          obtain ⟨q8, hq8⟩ : ∃ q, q = pk a 81 := ⟨_, rfl⟩
          have C8 : Hid (∀ w, Calls Try.prog 10 #[.int .i64 a, .int .i64 81] w fun e w' => e = .returned (.int .i64 q8) ∧ w = w') := fun w => by rw [hq8]; exact pick_any a 81 w HAB.out.1 (by omega) (by omega)
          have hq81 : 0 ≤ q8 ∧ q8 < 81 := by rw [hq8]; exact pk_lt a 81 (by omega)
          obtain ⟨hq82, hq83⟩ := hq81
          clear hq8
          by_cases htq : (t : Int) ≤ q8
          · have btq : decide ((t : Int) ≤ q8) = true := by simpa using htq
            have ht80 : t ≤ 80 := by omega
            go_wp2_with (first | (go_at_call 10; ((with_reducible refine (C8.out _).mono ?_); rintro e w2 ⟨rfl, rfl⟩)))
            clear btq
            go_loopw [14] (fun s wx => ∃ i : Nat, s = .int .i64 i ∧ i ≤ nn ∧ Hid (Rel2 zs w wx p x nn t)) (fun s _ => nn - (intOf s).toNat)
            case atStart => exact ⟨0, rfl, by omega, h2⟩
            case round =>
              obtain ⟨i, rfl, hi, h3⟩ := hrel
              clear h2
              obtain ⟨S, L, hs, hl⟩ := h3.out
              by_cases hin : i < nn
              · exact absurd hin (by have := HB.out; omega)
              · have bi : decide ((i : Int) < (nn : Int)) = false := by simp; omega
                have CT := Lib.hid (tick_any p 256 L S wr hs.dp)
                have HS := Lib.hid hs
                have HL := Lib.hid hl
                clear hs hl
                go_wp2_with (first | (go_at_call 14; ((with_reducible refine CT.out.mono ?_); rintro e w4 ⟨v4, rfl, hx4⟩; have H4 : Hid (Rel2 zs w w4 p x nn (t + 1)) := (Rel2.tick HS.out HL.out hx4); clear hx4)))
                go_roundw
                case rel => exact ⟨t + 1, by go_num, by omega, H4⟩
                case measure => simp [intOf]; omega
          · have btq : decide ((t : Int) ≤ q8) = false := by simpa using htq
            obtain ⟨S, L, hs, hl⟩ := h2.out
            have HB := Lib.hid hs.but
            clear hs hl
            go_wp2_with (first | (go_at_call 10; ((with_reducible refine (C8.out _).mono ?_); rintro e w2 ⟨rfl, rfl⟩)))
            go_ret
            exact ⟨rfl, HB.out⟩
      · have b0 : decide ((0 : Int) < (nn : Int)) = true := by simp; omega
        have b0' : 0 < nn := by omega
        obtain ⟨x, hx⟩ : ∃ x : Int, x = pk b nn := ⟨_, rfl⟩
        have CP : Hid (∀ w, Calls Try.prog 10 #[.int .i64 b, .int .i64 nn] w fun e w' => e = .returned (.int .i64 x) ∧ w = w') := fun w => by rw [hx]; exact pick_any b nn w HAB.out.2 (by omega) (by omega)
        have hx1 : 0 ≤ x ∧ x < nn := by rw [hx]; exact pk_lt b nn (by omega)
        obtain ⟨S, L, hs, hlen, hl⟩ := HREL.out
        have HX1 := Lib.hid hx1
        have CC : Hid (Calls Try.prog 18 #[.pointer (some ⟨p, 0, none⟩), .int .i64 x] wr fun r w' => r = .returned (.bool true) ∧ Rel2 zs w w' p x nn 0) := by
          have hh : hasT L x = true := by
            rw [has_lft hs.dp.gd, hl, if_pos hx1]
            have := pk_lt (zs.getD x.toNat 0) 60 (by omega)
            rw [decide_eq_true_iff]; omega
          have := cancel_any p 256 L S wr x hs.dp
          rw [hh] at this
          exact this.mono fun r w' ⟨h1, h2, h3⟩ => ⟨h1, Rel2.start1 hs hl h2 h3⟩
        clear hs hl hlen HREL hx hx1
        go_wp2_with (first | (go_at_call 10; ((with_reducible refine (CP.out _).mono ?_); rintro e w2 ⟨rfl, rfl⟩)) | (go_at_call 18; ((with_reducible refine CC.out.mono ?_); rintro e w3 ⟨rfl, hm⟩; have HR2 := Lib.hid hm; clear hm)))
        go_loopw [13] (fun s wx => ∃ t : Nat, s = .int .i64 t ∧ t ≤ 81 ∧ Hid (Rel2 zs w wx p x nn t)) (fun s _ => 81 - (intOf s).toNat)
        case atStart => exact ⟨0, rfl, by omega, HR2⟩
        case round =>
          obtain ⟨t, rfl, ht, h2⟩ := hrel
          clear HR2
          obtain ⟨q8, hq8⟩ : ∃ q, q = pk a 81 := ⟨_, rfl⟩
          have C8 : Hid (∀ w, Calls Try.prog 10 #[.int .i64 a, .int .i64 81] w fun e w' => e = .returned (.int .i64 q8) ∧ w = w') := fun w => by rw [hq8]; exact pick_any a 81 w HAB.out.1 (by omega) (by omega)
          have hq81 : 0 ≤ q8 ∧ q8 < 81 := by rw [hq8]; exact pk_lt a 81 (by omega)
          obtain ⟨hq82, hq83⟩ := hq81
          clear hq8
          by_cases htq : (t : Int) ≤ q8
          · have btq : decide ((t : Int) ≤ q8) = true := by simpa using htq
            have ht80 : t ≤ 80 := by omega
            go_wp2_with (first | (go_at_call 10; ((with_reducible refine (C8.out _).mono ?_); rintro e w2 ⟨rfl, rfl⟩)))
            clear btq
            go_loopw [14] (fun s wx => ∃ i : Nat, s = .int .i64 i ∧ i ≤ nn ∧ Hid (Rel2 zs w wx p x nn t)) (fun s _ => nn - (intOf s).toNat)
            case atStart => exact ⟨0, rfl, by omega, h2⟩
            case round =>
              obtain ⟨i, rfl, hi, h3⟩ := hrel
              clear h2
              obtain ⟨S, L, hs, hl⟩ := h3.out
              by_cases hin : i < nn
              · obtain ⟨eb, eoff, hA, hbl, hc⟩ := (HZ.out.no hs.but).at_ (by omega)
                have hck := hc i (by omega)
                have hF := HZ.out.fit i
                have hli := hl (i : Int)
                rw [G_at hin] at hli
                have e9 : G zs nn x (i : Int) = if (i : Int) = x then 0 else 1 + pk (zs.getD i 0) 60 := G_at hin
                generalize zs.getD i 0 = z at hck hF hli e9
                obtain ⟨q, hq⟩ : ∃ q, q = pk z 60 := ⟨_, rfl⟩
                have CK : Hid (∀ w, Calls Try.prog 10 #[.int .i64 z, .int .i64 60] w fun e w' => e = .returned (.int .i64 q) ∧ w = w') := fun w => by rw [hq]; exact pick_any z 60 w hF (by omega) (by omega)
                rw [← hq] at hli
                have hq1 : 0 ≤ q ∧ q < 60 := by rw [hq]; exact pk_lt z 60 (by omega)
                obtain ⟨hq2, hq3⟩ := hq1
                have CL0 : Calls Try.prog 21 #[.pointer (some ⟨p, 0, none⟩), .int .i64 i] wr fun r w' => r = .returned (.int .i64 (lft L i)) ∧ w' = wr := left_any p 256 L S wr i hs.dp
                rw [hli] at CL0
                have hn9 : i < n := by omega
                have bi : (i : Int) < (nn : Int) := by omega
                have bn9 : (i : Int) < (n : Int) := by omega
                subst hA
                clear hs hl hc hq hF hli e9 hbl
                by_cases hx : (i : Int) = x
                · have bx : ((i : Int) == x) = true := by simpa using hx
                  have CL : Hid (Calls Try.prog 21 #[.pointer (some ⟨p, 0, none⟩), .int .i64 i] wr fun r w' => r = .returned (.int .i64 0) ∧ w' = wr) := by
                    rw [if_pos hx, if_neg (by omega)] at CL0; exact CL0
                  clear CL0 hx
                  by_cases h6 : 0 < 1 + q - (t : Int)
                  · have b6 : decide (0 < 1 + q - (t : Int)) = true := by simpa using h6
                    go_wp2_with (first | (go_at_call 10; ((with_reducible refine (CK.out _).mono ?_); rintro e w2 ⟨rfl, rfl⟩)) | (go_at_call 21; ((with_reducible refine CL.out.mono ?_); rintro e w3 ⟨rfl, rfl⟩)))
                    go_roundw
                    case rel => exact ⟨i + 1, by go_num, by omega, h3⟩
                    case measure => simp [intOf]; omega
                  · have b6 : decide (0 < 1 + q - (t : Int)) = false := by simpa using h6
                    go_wp2_with (first | (go_at_call 10; ((with_reducible refine (CK.out _).mono ?_); rintro e w2 ⟨rfl, rfl⟩)) | (go_at_call 21; ((with_reducible refine CL.out.mono ?_); rintro e w3 ⟨rfl, rfl⟩)))
                    go_roundw
                    case rel => exact ⟨i + 1, by go_num, by omega, h3⟩
                    case measure => simp [intOf]; omega
                · have bx : ((i : Int) == x) = false := by simpa using hx
                  rw [if_neg hx] at CL0
                  clear hx
                  by_cases h6 : 0 < 1 + q - (t : Int)
                  · have b6 : decide (0 < 1 + q - (t : Int)) = true := by simpa using h6
                    have CL : Hid (Calls Try.prog 21 #[.pointer (some ⟨p, 0, none⟩), .int .i64 i] wr fun r w' => r = .returned (.int .i64 (1 + q - (t : Int))) ∧ w' = wr) := by
                      rw [if_pos (by omega)] at CL0; exact CL0
                    have be : ((1 + q - (t : Int)) != (1 + q - (t : Int))) = false := by simp
                    clear CL0
                    go_wp2_with (first | (go_at_call 10; ((with_reducible refine (CK.out _).mono ?_); rintro e w2 ⟨rfl, rfl⟩)) | (go_at_call 21; ((with_reducible refine CL.out.mono ?_); rintro e w3 ⟨rfl, rfl⟩)))
                    go_roundw
                    case rel => exact ⟨i + 1, by go_num, by omega, h3⟩
                    case measure => simp [intOf]; omega
                  · have b6 : decide (0 < 1 + q - (t : Int)) = false := by simpa using h6
                    have CL : Hid (Calls Try.prog 21 #[.pointer (some ⟨p, 0, none⟩), .int .i64 i] wr fun r w' => r = .returned (.int .i64 0) ∧ w' = wr) := by
                      rw [if_neg (by omega)] at CL0; exact CL0
                    clear CL0
                    go_wp2_with (first | (go_at_call 10; ((with_reducible refine (CK.out _).mono ?_); rintro e w2 ⟨rfl, rfl⟩)) | (go_at_call 21; ((with_reducible refine CL.out.mono ?_); rintro e w3 ⟨rfl, rfl⟩)))
                    go_roundw
                    case rel => exact ⟨i + 1, by go_num, by omega, h3⟩
                    case measure => simp [intOf]; omega
              · have bi : decide ((i : Int) < (nn : Int)) = false := by simp; omega
                have CT := Lib.hid (tick_any p 256 L S wr hs.dp)
                have HS := Lib.hid hs
                have HL := Lib.hid hl
                clear hs hl
                go_wp2_with (first | (go_at_call 14; ((with_reducible refine CT.out.mono ?_); rintro e w4 ⟨v4, rfl, hx4⟩; have H4 : Hid (Rel2 zs w w4 p x nn (t + 1)) := (Rel2.tick HS.out HL.out hx4); clear hx4)))
                go_roundw
                case rel => exact ⟨t + 1, by go_num, by omega, H4⟩
                case measure => simp [intOf]; omega
          · have btq : decide ((t : Int) ≤ q8) = false := by simpa using htq
            obtain ⟨S, L, hs, hl⟩ := h2.out
            have HB := Lib.hid hs.but
            clear hs hl
            go_wp2_with (first | (go_at_call 10; ((with_reducible refine (C8.out _).mono ?_); rintro e w2 ⟨rfl, rfl⟩)))
            go_ret
            exact ⟨rfl, HB.out⟩
theorem walk (A : Option Addr) (n c : Nat) (zs : List Int) (_ : n ≤ c) (a : Int) (wa : (Lit.int .i64 a).wf = true) (b : Int) (wb : (Lit.int .i64 b).wf = true) (w : World) (hz : Rd w A n zs) :
    Calls Try.prog 6 #[.slice A n c, .int .i64 a, .int .i64 b] w fun e w' => e = .returned (.bool true) ∧ But No w w' := by
  by_cases h : n ≤ 40
  · exact walkA A n c zs a b w hz (inR_of wa) (inR_of wb) h
  · exact walkB A n c zs a b w hz (inR_of wa) (inR_of wb) (by omega)
end Go.Proofs.Ytfejnokljddomaa.deltaLeft
