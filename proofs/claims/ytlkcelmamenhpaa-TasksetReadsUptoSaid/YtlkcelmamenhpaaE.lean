/- There and back; the chapter's examples. -/
import Derived.Test.YtlkcelmamenhpaaT11
import Derived.Deep.DeepCutAuto
namespace Go.Proofs.Ytlkcelmamenhpaa
open Go.ChangeShapes Go.WideShapes Go.ChangeAt Go.RowKit Go.Deep
theorem eq_list {t : ByteArray} {l : List UInt8} (h : nl t = l.map UInt8.toNat) : (t.toList == l) = true := by
  have e : l = (⟨l.toArray⟩ : ByteArray).toList := by rw [ByteArray.toList_eq]
  rw [e, eqB]; exact decide_eq_true h
theorem eOut_lt (s : Sys) : ∀ b ∈ eOut s, b < 256 := by
  unfold eOut
  by_cases h : eErr s = 0
  · rw [if_pos h]
    have hc := crc_small (wOut (nums s))
    intro b hb
    unfold sOut at hb
    rcases List.mem_append.1 hb with h | h
    · exact wOut_lt _ b h
    · simp at h; omega
  · rw [if_neg h]; simp
theorem eOut_len (s : Sys) : (eOut s).length ≤ 18002 := by
  unfold eOut
  by_cases h : eErr s = 0
  · rw [if_pos h]
    have := wOut_len (nums s)
    unfold sOut
    rw [List.length_append]
    simp only [List.length_cons, List.length_nil]
    omega
  · rw [if_neg h]; simp
/-- A system that was written is read. -/
theorem dec_enc {s : Sys} (h : eErr s = 0) : decP (eOut s) = (0, s) := by
  obtain ⟨hf, hw, _⟩ := eErr_zero h
  have hl := wOut_len (nums s)
  obtain ⟨o1, o2⟩ := open_sealed (L := wOut (nums s)) (by omega)
  have he : eOut s = sOut (wOut (nums s)) := by unfold eOut; rw [if_pos h]
  rw [he]
  unfold decP
  rw [if_neg (by simp [o1]), o2, read_written hw, if_neg (by simp)]
  exact parse_nums hf
theorem ofNn_ofN (l : List Nat) : ofNn l = ofN l := rfl
/-- What was read is written. -/
theorem enc_dec {b : ByteArray} (h : (decP (nl b)).1 = 0) : eErr (decP (nl b)).2 = 0 ∧ eOut (decP (nl b)).2 = nl b := by
  rcases decP_says b with ⟨h1, _⟩ | ⟨_, ns, h1, h2, h3⟩
  · exact absurd h h1
  · obtain ⟨p1, p2, p3⟩ := parse_back h3
    obtain ⟨t, ht, _⟩ := oAns_str b
    rw [← ht] at h2
    obtain ⟨w1, w2, _⟩ := write_read h2
    rw [ofNn_ofN] at p1
    have he : eErr (decP (nl b)).2 = 0 := by
      unfold eErr
      rw [if_neg (by rw [tooL_no.2 ⟨p2, p3⟩]; simp), p1]
      exact w1
    refine ⟨he, ?_⟩
    unfold eOut
    rw [if_pos he, p1, w2, ht]
    -- the sum behind is what stood there
    have hoA : oAns (nl b) = (nl b).take ((nl b).length - 2) := by unfold oAns; rw [if_pos h1]
    rw [hoA]
    unfold oErr at h1
    by_cases c1 : (nl b).length < 2
    · rw [if_pos c1] at h1; cases h1
    · rw [if_neg c1] at h1
      by_cases c2 : 100002 < (nl b).length
      · rw [if_pos c2] at h1; cases h1
      · rw [if_neg c2] at h1
        by_cases c3 : crc 65535 ((nl b).take ((nl b).length - 2)) = (nl b).getD ((nl b).length - 2) 0 * 256 + (nl b).getD ((nl b).length - 1) 0
        · unfold sOut
          rw [c3]
          have a1 := getD_lt b ((nl b).length - 1)
          rw [show ((nl b).getD ((nl b).length - 2) 0 * 256 + (nl b).getD ((nl b).length - 1) 0) / 256 = (nl b).getD ((nl b).length - 2) 0 by omega, show ((nl b).getD ((nl b).length - 2) 0 * 256 + (nl b).getD ((nl b).length - 1) 0) % 256 = (nl b).getD ((nl b).length - 1) 0 by omega]
          have d1 := drop_nat (l := nl b) (k := (nl b).length - 2) (by omega)
          have d2 := drop_nat (l := nl b) (k := (nl b).length - 2 + 1) (by omega)
          have d3 : (nl b).drop ((nl b).length - 2 + 1 + 1) = [] := List.drop_eq_nil_of_le (by omega)
          rw [d3] at d2
          rw [d2] at d1
          rw [show (nl b).length - 2 + 1 = (nl b).length - 1 by omega] at d1
          rw [← d1, List.take_append_drop]
        · rw [if_neg c3] at h1; cases h1
theorem encode_to {s : Sys} {t : ByteArray} {E : Nat} {A : Option Addr} {n c : Nat} (ht : nl t = eOut s) (hE : eErr s = E) (W : World) (h : RSys W A n c s) :
    Calls Try.prog 9 #[sysV s A n c] W fun e w' => e = .returned (.tuple #[.string t, .int .i64 (E : Int)]) ∧ But No W w' :=
  (encode_any s A n c W h).mono fun e w' ⟨t', he, hn, hb⟩ => by
    have : t' = t := nl_inj (by rw [hn, ht])
    subst this
    exact ⟨by rw [he, hE], hb⟩
theorem eOut_str (s : Sys) : ∃ t, nl t = eOut s ∧ t.size ≤ 18002 := ⟨bl (eOut s), nl_bl (eOut_lt s), by rw [← nl_len, nl_bl (eOut_lt s)]; exact eOut_len s⟩
/-- The chapter's example. -/
def exS : Sys := ⟨1, 1, 1, 0, 0, 0, 1, 0, [⟨10, 10, 3, []⟩]⟩
theorem ex_nums : nums exS = [1, 1, 1, 1, 0, 0, 0, 1, 0, 1, 10, 10, 3, 0] := rfl
theorem ex_err : eErr exS = 0 := by decide +kernel
theorem ex_wr : wOut (nums exS) = [1, 1, 1, 1, 0, 0, 0, 1, 0, 1, 10, 10, 3, 0] := by
  have h : wErr (nums exS) = 0 := by decide +kernel
  unfold wOut
  rw [h, if_pos rfl, ex_nums]
  show enc7 1 ++ (enc7 1 ++ (enc7 1 ++ (enc7 1 ++ (enc7 0 ++ (enc7 0 ++ (enc7 0 ++ (enc7 1 ++ (enc7 0 ++ (enc7 1 ++ (enc7 10 ++ (enc7 10 ++ (enc7 3 ++ (enc7 0 ++ []))))))))))))) = _
  rw [enc7_small (n := 0) (by omega), enc7_small (n := 1) (by omega), enc7_small (n := 10) (by omega), enc7_small (n := 3) (by omega)]
  rfl
theorem ex_out : eOut exS = [1, 1, 1, 1, 0, 0, 0, 1, 0, 1, 10, 10, 3, 0] ++ [crc 65535 [1, 1, 1, 1, 0, 0, 0, 1, 0, 1, 10, 10, 3, 0] / 256, crc 65535 [1, 1, 1, 1, 0, 0, 0, 1, 0, 1, 10, 10, 3, 0] % 256] := by
  unfold eOut
  rw [ex_err, if_pos rfl, ex_wr]
  rfl
abbrev exW (w : World) : World := (w.alloc (.cells #[.int .i64 10, .int .i64 10, .int .i64 3, .slice none 0 0] 39)).alloc (.cells #[.int .i64 1, .int .i64 1, .int .i64 1, .int .i64 0, .int .i64 0, .int .i64 0, .int .i64 1, .int .i64 0, .slice (some ⟨w.heap.size, 0, none⟩) 1 1] 24)
theorem ex_r (w : World) : RSys (exW w) (some ⟨w.heap.size, 0, none⟩) 1 1 exS := by
  have hB := (Blk.new w #[.int .i64 10, .int .i64 10, .int .i64 3, .slice none 0 0] 39).alloc (.cells #[.int .i64 1, .int .i64 1, .int .i64 1, .int .i64 0, .int .i64 0, .int .i64 0, .int .i64 1, .int .i64 0, .slice (some ⟨w.heap.size, 0, none⟩) 1 1] 24)
  refine ⟨Nat.le_refl _, ⟨rfl, by omega, fun _ => ⟨w.heap.size, 0, rfl, hB.lt, fun k t ht => ?_⟩, fun t ht => ?_⟩, ?_⟩
  · have hk : k = 0 := by
      have := (List.getElem?_eq_some_iff.1 ht).1
      simp [exS] at this
      exact this
    subst hk
    have : t = ⟨10, 10, 3, []⟩ := by simpa [exS] using ht.symm
    subst this
    exact ⟨hB.cell rfl, hB.cell rfl, hB.cell rfl, none, 0, hB.cell rfl, Nat.le_refl _, rfl, by simp, fun h => absurd h (by simp), by simp⟩
  · have : t = ⟨10, 10, 3, []⟩ := by simpa [exS] using ht
    subst this
    unfold inR
    exact ⟨by decide, by decide, by decide⟩
  · unfold inR exS
    exact ⟨by decide, by decide, by decide, by decide, by decide, by decide, by decide, by decide⟩
theorem ex_s9 (w : World) : S9 (exW w) (w.heap.size + 1) exS (some ⟨w.heap.size, 0, none⟩) 1 1 := sys_cells (s := exS) (blk2 w _ _ _)
set_option maxRecDepth 100000 in
set_option maxHeartbeats 2000000 in
theorem examples_any (w : World) : Calls Try.prog 8 #[] w fun e w' => e = .returned (.bool true) ∧ But No w w' := by
  obtain ⟨t, ht, htz⟩ := eOut_str exS
  have CE : Hid (∀ W, RSys W (some ⟨w.heap.size, 0, none⟩) 1 1 exS → Calls Try.prog 9 #[.agg #[.int .i64 1, .int .i64 1, .int .i64 1, .int .i64 0, .int .i64 0, .int .i64 0, .int .i64 1, .int .i64 0, .slice (some ⟨w.heap.size, 0, none⟩) 1 1]] W fun e w' => e = .returned (.tuple #[.string t, .int .i64 0]) ∧ But No W w') := fun W h => encode_to ht ex_err W h
  have CD : Hid (∀ W, Calls Try.prog 12 #[.string t] W fun r w' => ∃ A n c, r = .returned (.tuple #[.agg #[.int .i64 1, .int .i64 1, .int .i64 1, .int .i64 0, .int .i64 0, .int .i64 0, .int .i64 1, .int .i64 0, .slice A 1 c], .int .i64 0]) ∧ But No W w' ∧ n = 1 ∧ RSys w' A 1 c exS) := fun W => (decode_to t W (by omega)).mono fun r w' ⟨A, n, c, hr, hb, _, hR⟩ => by
    rw [ht, dec_enc ex_err] at hr hR
    have hn : n = 1 := hR.ts.len.symm
    subst hn
    exact ⟨A, 1, c, hr, hb, rfl, hR⟩
  have CS : Hid (∀ W (A : Option Addr) (c : Nat), RSys W (some ⟨w.heap.size, 0, none⟩) 1 1 exS → RSys W A 1 c exS → Calls Try.prog 14 #[.agg #[.int .i64 1, .int .i64 1, .int .i64 1, .int .i64 0, .int .i64 0, .int .i64 0, .int .i64 1, .int .i64 0, .slice (some ⟨w.heap.size, 0, none⟩) 1 1], .agg #[.int .i64 1, .int .i64 1, .int .i64 1, .int .i64 0, .int .i64 0, .int .i64 0, .int .i64 1, .int .i64 0, .slice A 1 c]] W fun e w' => e = .returned (.bool true) ∧ But No W w') := fun W A c h1 h2 => (same_any exS exS _ A 1 1 1 c W h1 h2).mono fun e w' ⟨he, hb⟩ => ⟨by rw [he]; simp, hb⟩
  have hl : (nl t).length = 16 := by rw [ht, ex_out]; rfl
  have hts : t.size = 16 := by rw [← nl_len]; exact hl
  have hsz : ((t.size : Int) == 16) = true := by rw [hts]; rfl
  have hsl : ∀ W : World, (Instr.slice 9 (.string t) none (some (.int .i64 14)) none).run Try.prog W = .ok (.string (t.extract 0 14)) W := fun W => to_run t 14 (by omega) W
  have heq : ((t.extract 0 14).toList == [1, 1, 1, 1, 0, 0, 0, 1, 0, 1, 10, 10, 3, 0]) = true := eq_list (by rw [nl_extract, ht, ex_out]; rfl)
  generalize t.extract 0 14 = u at *
  have HW := Lib.hid (ex_r w)
  have HS := Lib.hid (ex_s9 w)
  clear ht hl hts htz
  obtain ⟨w1, hw1⟩ : ∃ w1, exW w = w1 := ⟨_, rfl⟩
  have HB1 : Hid (But No w w1) := by rw [← hw1]; exact ((But.refl _ _).alloc _).alloc _
  rw [hw1] at HW HS
  unfold exW at hw1
  have HW1 := Lib.hid hw1
  clear hw1
  go_enter Try.func8, Try.ntmps8
  go_upto_region 2 with fail
  rw [HW1.out]
  have hS := HS.out
  unfold exS at hS
  obtain ⟨d0, d1, d2, d3, d4, d5, d6, d7, d8⟩ := hS
  simp only at d0 d1 d2 d3 d4 d5 d6 d7
  go_upto_region 4 with (first | (go_at_call 9; refine (CE.out _ HW.out).mono ?_; rintro e w2 ⟨rfl, hb2⟩; have HB2 := Lib.hid hb2; clear hb2 d0 d1 d2 d3 d4 d5 d6 d7 d8) | (go_at_call 12; refine (CD.out _).mono ?_; rintro e w3 ⟨A, n, c, rfl, hb3, hn3, hr3⟩; have HB3 := Lib.hid hb3; have HR3 := Lib.hid hr3; clear hb3 hr3 hn3))
  obtain ⟨w4, hw4, hb4, hk4⟩ : ∃ w4, w3.alloc (.cells #[.int .i64 1, .int .i64 1, .int .i64 1, .int .i64 0, .int .i64 0, .int .i64 0, .int .i64 1, .int .i64 0, .slice A 1 c] 24) = w4 ∧ But No w3 w4 ∧ Blk w4 w3.heap.size #[.int .i64 1, .int .i64 1, .int .i64 1, .int .i64 0, .int .i64 0, .int .i64 0, .int .i64 1, .int .i64 0, .slice A 1 c] 24 := ⟨_, rfl, (But.refl _ _).alloc _, Blk.new w3 _ _⟩
  rw [hw4]
  have HB4 := Lib.hid ((HB2.out.trans HB3.out).trans hb4)
  have HR4 := Lib.hid (HR3.out.no hb4)
  have HK4 := Lib.hid hk4
  have hS2 := keepS9 HS.out HB4.out
  unfold exS at hS2
  obtain ⟨d0, d1, d2, d3, d4, d5, d6, d7, d8⟩ := hS2
  simp only at d0 d1 d2 d3 d4 d5 d6 d7
  obtain ⟨g0, g1, g2, g3, g4, g5, g6, g7, g8⟩ := sys_cells (s := exS) hk4
  unfold exS at g0 g1 g2 g3 g4 g5 g6 g7
  simp only at g0 g1 g2 g3 g4 g5 g6 g7
  clear hw4 hb4 hk4
  generalize w3.heap.size = b4 at *
  go_wp2_with (go_at_call 14; refine (CS.out _ _ _ (HW.out.no HB4.out) HR4.out).mono ?_; rintro e w5 ⟨rfl, hb5⟩; have HB5 := Lib.hid hb5; have k8 := cell_keep g8 hb5; clear hb5)
  go_ret
  exact ⟨rfl, (HB1.out.trans HB4.out).trans HB5.out⟩
end Go.Proofs.Ytlkcelmamenhpaa
