/- The contracts of the document's Encode and Same. -/
import Derived.Test.YtlkcelmamenhpaaRN
import Derived.Test.YtlkcelmamenhpaaPkR1
import Derived.Test.YtlkcelmamenhpaaPkR4
namespace Go.Proofs.Ytlkcelmamenhpaa
open Go.ChangeShapes Go.WideShapes Go.ChangeAt Go.RowKit Go.Deep
theorem rwrite_to {A : Option Addr} {n c : Nat} {zs : List Int} {t : ByteArray} {E : Nat} (ht : nl t = wOut zs) (hE : wErr zs = E) (W : World) (hz : Rl W A n zs) :
    Calls Try.prog 21 #[.slice A n c] W fun e w' => e = .returned (.tuple #[.string t, .int .i64 (E : Int)]) ∧ But No W w' :=
  (rwrite_any A n c zs W hz).mono fun e w' ⟨t', he, hn, hb⟩ => by
    have : t' = t := nl_inj (by rw [hn, ht])
    subst this
    exact ⟨by rw [he, hE], hb⟩
set_option maxRecDepth 100000 in
set_option maxHeartbeats 1000000 in
theorem rencode_any (s : Sys) (A : Option Addr) (n c : Nat) (w : World) (h : RSys w A n c s) : Calls Try.prog 10 #[sysV s A n c] w (RetStr w (eErr s) (eOut s)) := by
  have HR := Lib.hid h
  have HT := Lib.hid h.ts
  have HN := Lib.hid h.ts.len
  have hmx := h.ts.max
  clear h
  by_cases hn : 24 < n
  · have HE : Hid (eErr s = 7 ∧ eOut s = []) := by
      have : eErr s = 7 := by unfold eErr; rw [if_pos (tooL_big (by rw [HN.out]; exact hn))]
      exact ⟨this, by unfold eOut; rw [this]; rfl⟩
    unfold sysV
    go_enter Try.func10, Try.ntmps10
    go_wp2
    go_ret2
    exact ⟨⟨#[]⟩, retse (by rw [HE.out.1]; rfl), by rw [HE.out.2]; rfl, (But.refl _ _).alloc _⟩
  · have CN : Hid (tooL s = false → ∀ W, But No w W → Calls Try.prog 22 #[sysV s A n c] W (RetZ W (nums s))) := fun hl W hb => by
      obtain ⟨h24, h4⟩ := tooL_no.1 hl
      exact rnumbers_any s A n c W (HR.out.no hb) (by have := nums_len h24 h4; omega)
    have hol := wOut_len (nums s)
    obtain ⟨u, hu⟩ : ∃ u, nl u = wOut (nums s) := ⟨_, nl_bl (wOut_lt _)⟩
    have hus : u.size ≤ 100000 := by rw [← nl_len, hu]; omega
    obtain ⟨E, hE⟩ : ∃ E, wErr (nums s) = E := ⟨_, rfl⟩
    have CW : Hid (∀ (W : World) (A : Option Addr) (n c : Nat), Rl W A n (nums s) → Calls Try.prog 21 #[.slice A n c] W fun e w' => e = .returned (.tuple #[.string u, .int .i64 (E : Int)]) ∧ But No W w') := fun W A n c hz => rwrite_to hu hE W hz
    have CS : Hid (∀ W : World, Calls Try.prog 23 #[.string u] W (RetStrB W true (sOut (wOut (nums s))))) := fun W => by
      have := rseal_any u W (by omega)
      rw [hu] at this
      have e1 : sErr (wOut (nums s)) = 0 := by unfold sErr; rw [if_neg (by omega)]
      have e2 : sAns (wOut (nums s)) = sOut (wOut (nums s)) := by unfold sAns; rw [if_neg (by omega)]
      rw [e1, e2] at this
      exact this
    have HEN : Hid (tooL s = false → eErr s = E) := fun hl => by unfold eErr; rw [if_neg (by simp [hl]), hE]
    have HLN : Hid (tooL s = false → (nums s).length ≤ 394) := fun hl => by
      obtain ⟨h24, h4⟩ := tooL_no.1 hl
      exact nums_len h24 h4
    clear hol hu hE HR
    unfold sysV at CN ⊢
    have HX : Hid (Blk (w.alloc (.cells #[.int .i64 s.co, .int .i64 s.po, .int .i64 s.pr, .int .i64 s.re, .int .i64 s.sw, .int .i64 s.fi, .int .i64 s.la, .int .i64 s.rs, .slice A n c] 24)) w.heap.size (boxS s A n c) 24) := Blk.new w _ _
    go_enter Try.func10, Try.ntmps10
    go_wp2
    generalize hw1 : w.alloc (.cells #[.int .i64 s.co, .int .i64 s.po, .int .i64 s.pr, .int .i64 s.re, .int .i64 s.sw, .int .i64 s.fi, .int .i64 s.la, .int .i64 s.rs, .slice A n c] 24) = w1 at *
    have HB1 : Hid (But No w w1) := by rw [← hw1]; exact (But.refl _ _).alloc _
    clear hw1
    go_loop [4] (fun i => ∃ k : Nat, i = .int .i64 (k : Int) ∧ k ≤ n ∧ Hid (∀ j t, j < k → s.ts[j]? = some t → t.secs.length ≤ 4)) (fun i => n - (intOf i).toNat)
    case atStart => exact ⟨0, rfl, by omega, fun j _ hj => absurd hj (by omega)⟩
    case round =>
      obtain ⟨k, rfl, hk, HG⟩ := hrel
      obtain ⟨d0, d1, d2, d3, d4, d5, d6, d7, d8⟩ := sys_cells HX.out
      by_cases hlt : k < n
      · clear d0 d1 d2 d3 d4 d5 d6 d7
        obtain ⟨t, ht⟩ : ∃ t, s.ts[k]? = some t := ⟨_, List.getElem?_eq_getElem (by rw [HN.out]; exact hlt)⟩
        obtain ⟨b, off, AS, cS, rfl, c0, c1, c2, c3, hcc, hS⟩ := (HT.out.no HB1.out).at1 ht
        have hm := hS.max
        obtain ⟨m, hm4⟩ : ∃ m, t.secs.length = m := ⟨_, rfl⟩
        rw [hm4] at c3 hcc hm
        have HM := Lib.hid hm4
        have HTK := Lib.hid ht
        clear hS ht hm4 c0 c1 c2
        by_cases h4 : 4 < m
        · have HE : Hid (eErr s = 7 ∧ eOut s = []) := by
            have : eErr s = 7 := by unfold eErr; rw [if_pos (tooL_at HTK.out (by rw [HM.out]; exact h4))]
            exact ⟨this, by unfold eOut; rw [this]; rfl⟩
          go_wp2
          go_ret2
          exact ⟨⟨#[]⟩, retse (by rw [HE.out.1]; rfl), by rw [HE.out.2]; rfl, HB1.out⟩
        · go_wp2
          go_round
          case rel =>
            refine ⟨k + 1, by go_num, by omega, fun j t' hj hjt => ?_⟩
            by_cases e : j = k
            · subst e
              rw [HTK.out] at hjt
              cases hjt
              rw [HM.out]; omega
            · exact HG.out j t' (by omega) hjt
          case measure => simp [intOf]; omega
      · have hl : tooL s = false := tooL_no.2 ⟨by rw [HN.out]; omega, fun t ht => by
          obtain ⟨j, hj, rfl⟩ := List.getElem_of_mem ht
          exact HG.out j _ (by rw [HN.out] at hj; omega) (List.getElem?_eq_getElem hj)⟩
        have CN2 := Lib.hid (CN.out hl)
        have HE := Lib.hid (HEN.out hl)
        have HLEN := Lib.hid (HLN.out hl)
        clear hl CN HEN HLN
        by_cases he : E = 0
        · subst he
          go_wp2_with (first | (go_at_call 22; refine (CN2.out _ HB1.out).mono ?_; rintro e w2 ⟨A2, n2, c2, rfl, hn2, ho2⟩; have HR2 := Lib.hid (ho2.rl (by have := HLEN.out; omega)); have HB2 := Lib.hid (HB1.out.trans ho2.but); clear hn2 ho2) | (go_at_call 21; refine (CW.out _ _ _ _ HR2.out).mono ?_; rintro e w3 ⟨rfl, hb3⟩; have HB3 := Lib.hid (HB2.out.trans hb3); clear hb3) | (go_at_call 23; refine (CS.out _).mono ?_; rintro e w4 ⟨t, rfl, ht, hb4⟩; have HB4 := Lib.hid (HB3.out.trans hb4); have HTT := Lib.hid ht; clear ht hb4))
          go_ret2
          exact ⟨t, retse (by rw [HE.out]; rfl), by unfold eOut; rw [HE.out, if_pos rfl]; exact HTT.out, HB4.out⟩
        · have hne : ((E : Int) != 0) = true := by rw [bne_iff_ne]; omega
          go_wp2_with (first | (go_at_call 22; refine (CN2.out _ HB1.out).mono ?_; rintro e w2 ⟨A2, n2, c2, rfl, hn2, ho2⟩; have HR2 := Lib.hid (ho2.rl (by have := HLEN.out; omega)); have HB2 := Lib.hid (HB1.out.trans ho2.but); clear hn2 ho2) | (go_at_call 21; refine (CW.out _ _ _ _ HR2.out).mono ?_; rintro e w3 ⟨rfl, hb3⟩; have HB3 := Lib.hid (HB2.out.trans hb3); clear hb3))
          go_ret2
          exact ⟨⟨#[]⟩, retse (by rw [HE.out]), by unfold eOut; rw [HE.out, if_neg he]; rfl, HB3.out⟩
set_option maxRecDepth 100000 in
set_option maxHeartbeats 2000000 in
theorem rsame_any (s t : Sys) (A B : Option Addr) (n c m d : Nat) (w : World) (ha : RSys w A n c s) (hb : RSys w B m d t) (la : (nums s).length ≤ 10000000) (lb : (nums t).length ≤ 10000000) :
    Calls Try.prog 13 #[sysV s A n c, sysV t B m d] w fun e w' => e = .returned (.bool (decide (nums s = nums t))) ∧ But No w w' := by
  have CA : Hid (∀ W, But No w W → Calls Try.prog 22 #[sysV s A n c] W fun r w' => ∃ A c, r = .returned (.slice A (nums s).length c) ∧ Oz W w' (.slice A (nums s).length c) (nums s)) := fun W hb => (rnumbers_any s A n c W (ha.no hb) la).mono fun r w' ⟨A, n, c, hr, hn, ho⟩ => by subst hn; exact ⟨A, c, hr, ho⟩
  have CB : Hid (∀ W, But No w W → Calls Try.prog 22 #[sysV t B m d] W fun r w' => ∃ A c, r = .returned (.slice A (nums t).length c) ∧ Oz W w' (.slice A (nums t).length c) (nums t)) := fun W h => (rnumbers_any t B m d W (hb.no h) lb).mono fun r w' ⟨A, n, c, hr, hn, ho⟩ => by subst hn; exact ⟨A, c, hr, ho⟩
  obtain ⟨w2, hw2, hb2, ht1, ht2⟩ := two_sys w s t A B n c m d
  have HW2 := Lib.hid hw2
  have HT2 := Lib.hid ht2
  clear hw2 hb2 ht2 ht1 ha hb
  generalize nums s = za at *
  generalize nums t = zb at *
  obtain ⟨na, hna⟩ : ∃ na, za.length = na := ⟨_, rfl⟩
  obtain ⟨nb, hnb⟩ : ∃ nb, zb.length = nb := ⟨_, rfl⟩
  rw [hna] at CA
  rw [hnb] at CB
  have la2 : na ≤ 10000000 := by rw [← hna]; exact la
  have lb2 : nb ≤ 10000000 := by rw [← hnb]; exact lb
  have HLA := Lib.hid hna
  have HLB := Lib.hid hnb
  unfold sysV at CA CB ⊢
  by_cases hl : na = nb
  · clear hna hnb
    subst hl
    go_enter Try.func13, Try.ntmps13
    go_wp2_with (first | (go_at_call 22; (with_reducible refine (CA.out _ (((But.refl _ _).alloc _).alloc _)).mono ?_); rintro e w3 ⟨A3, c3, rfl, ho3⟩; have HO3 := Lib.hid ho3; have HS3 : Hid (S9 w3 (w.heap.size + 1) t B m d) := (by rw [HW2.out] at ho3; exact keepS9 HT2.out ho3.but); have HB3 : Hid (But No w w3) := (((But.refl _ _).alloc _).alloc _).trans ho3.but; clear ho3; obtain ⟨d0, d1, d2, d3, d4, d5, d6, d7, d8⟩ := HS3.out) | (go_at_call 22; (with_reducible refine (CB.out _ HB3.out).mono ?_); rintro e w4 ⟨A4, c4, rfl, ho4⟩; have HR4 := Lib.hid (ho4.rl lb); have HB4 := Lib.hid (HB3.out.trans ho4.but); have HR3 := Lib.hid ((HO3.out.step ho4.but).rl la); clear ho4; clear d0 d1 d2 d3 d4 d5 d6 d7 d8))
    generalize w4 = w0 at *
    go_loopw [7] (fun i wr => ∃ k : Nat, i = .int .i64 (k : Int) ∧ k ≤ na ∧ Hid (But No w0 wr) ∧ Hid (∀ j, j < k → za.getD j 0 = zb.getD j 0)) (fun i _ => na - (intOf i).toNat)
    case atStart => exact ⟨0, rfl, by omega, But.refl _ _, fun j hj => absurd hj (by omega)⟩
    case round =>
      obtain ⟨k, rfl, hk, HDB, HG⟩ := hrel
      by_cases hlt : k < na
      · obtain ⟨b3, o3, rfl, hb3, hc3⟩ := (HR3.out.no HDB.out).at_ (by omega)
        obtain ⟨b4, o4, rfl, hb4, hc4⟩ := (HR4.out.no HDB.out).at_ (by omega)
        have hk3 := hc3 k hlt
        have hk4 := hc4 k hlt
        clear hc3 hc4
        by_cases e : za.getD k 0 = zb.getD k 0
        · have HG2 : Hid (∀ j, j < k + 1 → za.getD j 0 = zb.getD j 0) := fun j hj => by
            by_cases e2 : j = k
            · rw [e2]; exact e
            · exact HG.out j (by omega)
          have hne : ((za.getD k 0) != (zb.getD k 0)) = false := by rw [e]; simp
          clear e
          generalize za.getD k 0 = x at *
          generalize zb.getD k 0 = y at *
          go_wp2_with fail
          go_quiet (fail)
          go_wp2
          go_roundw
          case rel =>
            exact ⟨k + 1, by go_num, by omega, HDB.out.drewN _, HG2⟩
          case measure => simp [intOf]; omega
        · have HE : Hid (decide (za = zb) = false) := list_ne (by rw [HLA.out]; exact hlt) e
          have hne : ((za.getD k 0) != (zb.getD k 0)) = true := by rw [bne_iff_ne]; exact e
          clear e
          generalize za.getD k 0 = x at *
          generalize zb.getD k 0 = y at *
          go_wp2_with fail
          go_quiet (fail)
          go_wp2
          go_ret
          exact ⟨retb2 HE.out.symm, (HB4.out.trans HDB.out).drewN _⟩
      · obtain rfl : k = na := by omega
        have HE : Hid (decide (za = zb) = true) := list_eq (by rw [HLA.out, HLB.out]) (by rw [HLA.out]; exact HG.out)
        go_wp2
        go_ret
        exact ⟨retb2 HE.out.symm, HB4.out.trans HDB.out⟩
  · have HE : Hid (decide (za = zb) = false) := decide_eq_false (fun e => hl (by rw [← hna, ← hnb, e]))
    have hne : ((na : Int) != (nb : Int)) = true := by rw [bne_iff_ne]; omega
    clear hna hnb
    go_enter Try.func13, Try.ntmps13
    go_wp2_with (first | (go_at_call 22; (with_reducible refine (CA.out _ (((But.refl _ _).alloc _).alloc _)).mono ?_); rintro e w3 ⟨A3, c3, rfl, ho3⟩; have HO3 := Lib.hid ho3; have HS3 : Hid (S9 w3 (w.heap.size + 1) t B m d) := (by rw [HW2.out] at ho3; exact keepS9 HT2.out ho3.but); have HB3 : Hid (But No w w3) := (((But.refl _ _).alloc _).alloc _).trans ho3.but; clear ho3; obtain ⟨d0, d1, d2, d3, d4, d5, d6, d7, d8⟩ := HS3.out) | (go_at_call 22; (with_reducible refine (CB.out _ HB3.out).mono ?_); rintro e w4 ⟨A4, c4, rfl, ho4⟩; have HR4 := Lib.hid (ho4.rl lb); have HB4 := Lib.hid (HB3.out.trans ho4.but); have HR3 := Lib.hid ((HO3.out.step ho4.but).rl la); clear ho4; clear d0 d1 d2 d3 d4 d5 d6 d7 d8))
    go_ret
    exact ⟨retb2 HE.out.symm, HB4.out⟩
end Go.Proofs.Ytlkcelmamenhpaa
