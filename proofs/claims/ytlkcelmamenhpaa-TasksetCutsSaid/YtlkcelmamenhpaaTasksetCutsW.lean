/- The walk of TasksetCuts. -/
import Derived.Test.YtlkcelmamenhpaaE
namespace Go.Proofs.Ytlkcelmamenhpaa
open Go.ChangeShapes Go.WideShapes Go.ChangeAt Go.RowKit Go.Deep
theorem Rl.reads {w : World} {A : Option Addr} {n : Nat} {zs : List Int} (h : Rl w A n zs) : Reads w w.heap.size 1 A n (zs.map vi) := by
  refine ⟨by rw [List.length_map, h.len, Nat.mul_one], fun hn => ?_⟩
  obtain ⟨b, off, rfl, hb, hc⟩ := h.at_ hn
  refine ⟨_, rfl, hb, fun j u hu => ?_⟩
  have hj : j < zs.length := by have := (List.getElem?_eq_some_iff.1 hu).1; rwa [List.length_map] at this
  rw [add_plain, hc j (by rw [← h.len]; exact hj)]
  rw [List.getElem?_map, List.getElem?_eq_getElem hj] at hu
  simp [List.getD, List.getElem?_eq_getElem hj]
  simpa [vi] using hu
theorem vi_one (zs : List Int) : ∀ u ∈ zs.map vi, u.oneCell' = true := by
  intro u hu
  obtain ⟨z, _, rfl⟩ := List.mem_map.1 hu
  simp [vi, Value.oneCell']
theorem own_rl {w : World} {A : Option Addr} {n c : Nat} {zs : List Int} (h : w.ownsRow 0 3 1 (.slice A n c) n (zs.map vi)) (hl : zs.length = n) (hm : n ≤ 9223372036854775807) : Rl w A n zs := by
  refine ⟨hl, hm, fun h0 => ?_⟩
  obtain ⟨g, rfl, hlt, _, hc⟩ := own_cells h h0
  refine ⟨g, 0, rfl, hlt, fun k hk => ?_⟩
  rw [Nat.zero_add]
  refine hc k _ ?_
  have hk2 : k < zs.length := by omega
  simp [hk2, vi]
namespace tasksetCuts
/-- What the numbers with others behind them are read as. -/
theorem more_says {s : Sys} {more : List Int} (h : eErr s = 0) (h0 : wErr (nums s ++ more) = 0) (hm : more ≠ []) : decP (sOut (wOut (nums s ++ more))) = (8, sys0) := by
  obtain ⟨hf, hw, _⟩ := eErr_zero h
  have hl := wOut_len (nums s ++ more)
  obtain ⟨o1, o2⟩ := open_sealed (L := wOut (nums s ++ more)) (by omega)
  unfold decP
  rw [if_neg (by simp [o1]), o2, read_written h0, if_neg (by simp)]
  show parse ((nums s ++ more).map Int.toNat) = _
  rw [List.map_append]
  have := parse_more hf (nat more)
  rw [if_neg (by intro e; exact hm (List.map_eq_nil_iff.1 e))] at this
  exact this
theorem cut_says {s : Sys} {q : Nat} (h : eErr s = 0) (hq : q < (nums s).length) : wErr ((nums s).take q) = 0 ∧ decP (sOut (wOut ((nums s).take q))) = (8, sys0) := by
  obtain ⟨hf, hw, _⟩ := eErr_zero h
  have h0 : wErr ((nums s).take q) = 0 := by
    obtain ⟨a, b⟩ := wErr_zero hw
    refine wErr_good (by rw [List.length_take]; omega) (fun j hj => ?_)
    have hj2 : j < q ∧ j < (nums s).length := by rw [List.length_take] at hj; omega
    have hm : ((nums s).take q).getD j 0 ∈ nums s := by
      rw [List.getD, List.getElem?_take_of_lt hj2.1, List.getElem?_eq_getElem hj2.2]
      exact List.getElem_mem _
    have := b _ hm
    unfold good; simp; exact this
  refine ⟨h0, ?_⟩
  have hl := wOut_len ((nums s).take q)
  obtain ⟨o1, o2⟩ := open_sealed (L := wOut ((nums s).take q)) (by omega)
  unfold decP
  rw [if_neg (by simp [o1]), o2, read_written h0, if_neg (by simp)]
  show parse (((nums s).take q).map Int.toNat) = _
  rw [List.map_take]
  exact parse_cut hf hq
theorem seal_w {zs : List Int} : ∃ t : ByteArray, nl t = sOut (wOut zs) ∧ t.size ≤ 20000 ∧ ∀ u : ByteArray, nl u = wOut zs → ∀ W, Calls Try.prog 18 #[.string u] W fun e w' => e = .returned (.tuple #[.string t, .int .i64 0]) ∧ But No W w' := by
  have hl := wOut_len zs
  have hlt : ∀ b ∈ sOut (wOut zs), b < 256 := fun b hb => by
    have hc := crc_small (wOut zs)
    unfold sOut at hb
    rcases List.mem_append.1 hb with h | h
    · exact wOut_lt _ b h
    · simp at h; omega
  refine ⟨bl (sOut (wOut zs)), nl_bl hlt, ?_, fun u hu W => ?_⟩
  · rw [← nl_len, nl_bl hlt]; unfold sOut; rw [List.length_append]; simp; omega
  · refine seal_to (E := 0) ?_ ?_ (by rw [← nl_len, hu]; omega) W
    · rw [nl_bl hlt, hu]; unfold sAns; rw [if_neg (by omega)]
    · rw [hu]; unfold sErr; rw [if_neg (by omega)]
theorem pick_cut (cut : Int) (hct : inR cut) (L : Nat) (h0 : 0 < L) : ∃ p q : Nat, q < L ∧ p ≤ 9223372036854775807 ∧ ((cut < 0 ∧ -(cut + 1) = (p : Int)) ∨ (¬ cut < 0 ∧ cut = (p : Int))) ∧ (p : Int) % (L : Int) = (q : Int) ∧ p % L = q := by
  unfold inR at hct
  by_cases hneg : cut < 0
  · exact ⟨(-(cut + 1)).toNat, _, Nat.mod_lt _ h0, by omega, .inl ⟨hneg, by omega⟩, by omega, rfl⟩
  · exact ⟨cut.toNat, _, Nat.mod_lt _ h0, by omega, .inr ⟨hneg, by omega⟩, by omega, rfl⟩
set_option maxRecDepth 100000 in
set_option maxHeartbeats 4000000 in
theorem walk (s : Sys) (A : Option Addr) (c : Nat) (cut : Int) (hct : inR cut) (B : Option Addr) (m d : Nat) (more : List Int) (hmd : m * 8 ≤ 140737488351232) (w : World) (h : RSys w A s.ts.length c s) (hM : Rl w B m more) : Calls Try.prog 7 #[sysV s A s.ts.length c, .int .i64 cut, .slice B m d] w fun e w' => e = .returned (.bool true) ∧ But No w w' := by
  obtain ⟨t, ht, htz⟩ := eOut_str s
  have CX : ∀ W, Hid (Calls Try.prog 8 #[] W fun e w' => e = .returned (.bool true) ∧ But No W w') := fun W => examples_any W
  obtain ⟨n, hn⟩ : ∃ n, s.ts.length = n := ⟨_, rfl⟩
  rw [hn] at h ⊢
  rcases eErr_cases s with hE | hE | hE
  · have CE : Hid (∀ W, But No w W → Calls Try.prog 9 #[sysV s A n c] W fun e w' => e = .returned (.tuple #[.string t, .int .i64 0]) ∧ But No W w') := fun W hb => encode_to ht hE W (h.no hb)
    obtain ⟨hf, hw0, hlen⟩ := eErr_zero hE
    have hol := wOut_len (nums s)
    obtain ⟨o1, o2⟩ := open_sealed (L := wOut (nums s)) (by omega)
    have he : eOut s = sOut (wOut (nums s)) := by unfold eOut; rw [if_pos hE]
    obtain ⟨inner, hin⟩ : ∃ u, nl u = wOut (nums s) := ⟨_, nl_bl (wOut_lt _)⟩
    have hinz : inner.size ≤ 18000 := by rw [← nl_len, hin]; exact hol
    have CO : Hid (∀ W, Calls Try.prog 15 #[.string t] W fun e w' => e = .returned (.tuple #[.string inner, .int .i64 0]) ∧ But No W w') := fun W => open_to (E := 0) (by rw [hin, ht, he, o2]) (by rw [ht, he, o1]) (by omega) W
    obtain ⟨L, hL⟩ : ∃ L, (nums s).length = L := ⟨_, rfl⟩
    have h10 : 10 ≤ L := by rw [← hL]; unfold nums; simp only [List.length_cons]; omega
    have CR : Hid (∀ W, Calls Try.prog 16 #[.string inner] W fun r w' => ∃ A c, r = .returned (.tuple #[.slice A L c, .int .i64 0]) ∧ But No W w' ∧ Rl w' A L (nums s) ∧ L ≤ c) := fun W => (read_to (ns := (nums s).map Int.toNat) (E := 0) (by rw [hin]; exact read_written hw0) (by omega) W).mono fun r w' ⟨A, k, c, hr, hk, ho⟩ => by
      have hk2 : k = L := by rw [← hk, List.length_map, hL]
      subst hk2
      have hrl := ho.rl (by rw [List.length_map]; omega)
      rw [toNat_ofN hf.pos] at hrl
      exact ⟨A, c, hr, ho.but, hrl, ho.cap⟩
    obtain ⟨p, q, hqL, hp, hpc, hpq, hpq2⟩ := pick_cut cut hct L (by omega)
    obtain ⟨c1, c2⟩ := cut_says (q := q) hE (by rw [hL]; exact hqL)
    obtain ⟨u1, hu1⟩ : ∃ u, nl u = wOut ((nums s).take q) := ⟨_, nl_bl (wOut_lt _)⟩
    obtain ⟨t1, ht1, htz1, hs1⟩ := seal_w (zs := (nums s).take q)
    have CW1 : Hid (∀ (W : World) (A : Option Addr) (c : Nat), Rl W A q ((nums s).take q) → Calls Try.prog 17 #[.slice A q c] W fun e w' => e = .returned (.tuple #[.string u1, .int .i64 0]) ∧ But No W w') := fun W A c hz => write_to hu1 c1 W hz
    have CS1 := Lib.hid (hs1 u1 hu1)
    have CD1 : Hid (∀ W, Calls Try.prog 12 #[.string t1] W fun r w' => ∃ A n c, r = .returned (.tuple #[sysV sys0 A n c, .int .i64 8]) ∧ But No W w') := fun W => (decode_to t1 W (by omega)).mono fun r w' ⟨A, k, c, hr, hb, _, _⟩ => by
      rw [ht1, c2] at hr
      exact ⟨A, k, c, hr, hb⟩
    obtain ⟨u2, hu2⟩ : ∃ u, nl u = wOut (nums s ++ more) := ⟨_, nl_bl (wOut_lt _)⟩
    obtain ⟨t2, ht2, htz2, hs2⟩ := seal_w (zs := nums s ++ more)
    obtain ⟨F, hF⟩ : ∃ F, wErr (nums s ++ more) = F := ⟨_, rfl⟩
    have CW2 : Hid (∀ (W : World) (A : Option Addr) (c : Nat), Rl W A (L + m) (nums s ++ more) → Calls Try.prog 17 #[.slice A (L + m) c] W fun e w' => e = .returned (.tuple #[.string u2, .int .i64 (F : Int)]) ∧ But No W w') := fun W A c hz => write_to hu2 hF W hz
    have CS2 := Lib.hid (hs2 u2 hu2)
    obtain ⟨y, hy⟩ : ∃ y, y = (decP (nl t2)).2 := ⟨_, rfl⟩
    obtain ⟨J, hJ⟩ : ∃ J, J = (decP (nl t2)).1 := ⟨_, rfl⟩
    have CD2 : Hid (∀ W, Calls Try.prog 12 #[.string t2] W fun r w' => ∃ A n c, r = .returned (.tuple #[sysV y A n c, .int .i64 (J : Int)]) ∧ But No W w') := fun W => (decode_to t2 W (by omega)).mono fun r w' ⟨A, k, c, hr, hb, _, _⟩ => by
      rw [← hy, ← hJ] at hr
      exact ⟨A, k, c, hr, hb⟩
    have hfin : m = 0 ∨ (0 < m ∧ F ≠ 0) ∨ (0 < m ∧ F = 0 ∧ J = 8) := by
      by_cases hm0 : m = 0
      · exact .inl hm0
      · by_cases hf0 : F = 0
        · refine .inr (.inr ⟨by omega, hf0, ?_⟩)
          rw [hJ, ht2, more_says hE (hF.trans hf0) (fun e => by have := hM.len; rw [e] at this; simp at this; omega)]
        · exact .inr (.inl ⟨by omega, hf0⟩)
    obtain ⟨zs, hzs⟩ : ∃ zs, zs = nums s := ⟨_, rfl⟩
    rw [← hzs] at CR CW1 CW2
    have HZL : Hid (zs.length = L) := by rw [hzs]; exact hL
    have HML := Lib.hid hM.len
    have HM := Lib.hid hM
    have HPC := Lib.hid hpc
    have hlo : -9223372036854775808 ≤ cut := hct.1
    have hhi : cut ≤ 9223372036854775807 := hct.2
    have hpt : Int.tmod (p : Int) (L : Int) = (q : Int) := by rw [Int.tmod_eq_emod_of_nonneg (by omega)]; exact hpq
    have hL394 : L ≤ 394 := by rw [← hL]; exact hlen
    obtain ⟨i0, hi0, hi1, hi2, hi3⟩ := info_parts info3
    have I0 : Hid (Try.prog.info? 3 = some i0 ∧ i0.zero = some (.int .i64 0) ∧ i0.size = 1 ∧ i0.bytes = 8) := ⟨hi0, hi1, hi2, hi3⟩
    clear hi0 hi1 hi2 hi3 hf hw0 hlen hol o1 o2 he hin hL c1 c2 hu1 ht1 hs1 hu2 ht2 hs2 hF hy hJ hzs hM hpc hE h hn ht hct
    unfold sysV at CE CD1 CD2 ⊢
    simp only [sys0] at CD1
    have hsl : ∀ (AL : Option Addr) (cL : Nat), L ≤ cL → ∀ W, (Instr.slice 44 (.slice AL L cL) none (some (.int .i64 (q : Int))) none).run Try.prog W = .ok (.slice AL q cL) W := fun AL cL hc W => slice_to (by omega) W
    have HSL := Lib.hid hsl
    clear hsl
    have hLz : ((L : Int) == 0) = false := by rw [beq_eq_false_iff_ne]; omega
    have hd10 : decide ((L : Int) < 10) = false := by simp; omega
    rcases hfin with hfin | hfin | hfin
    · have hb1 : ((m : Int) == 0) = true := by rw [beq_iff_eq]; omega
      clear hfin
      go_enter Try.func7, Try.ntmps7
      go_upto_if 61 with (first | (go_at_call 8; refine (CX _).out.mono ?_; rintro e w1 ⟨rfl, hb1⟩; have HB1 := Lib.hid (((But.refl No w).alloc _).trans hb1); have HS1 : Hid (S9 w1 w.heap.size s A n c) := keepS9 (sys_cells (s := s) (Blk.new w _ _)) hb1; clear hb1; obtain ⟨d0, d1, d2, d3, d4, d5, d6, d7, d8⟩ := HS1.out) | (go_at_call 9; ((with_reducible refine (CE.out _ HB1.out).mono ?_); rintro e w2 ⟨rfl, hb2⟩; have HB2 := Lib.hid (HB1.out.trans hb2); clear hb2 d0 d1 d2 d3 d4 d5 d6 d7 d8)) | (go_at_call 15; ((with_reducible refine (CO.out _).mono ?_); rintro e w3 ⟨rfl, hb3⟩; have HB3 := Lib.hid (HB2.out.trans hb3); clear hb3)) | (go_at_call 16; ((with_reducible refine (CR.out _).mono ?_); rintro e w4 ⟨AL, cL, rfl, hb4, hr4, hc4⟩; have HB4 := Lib.hid (HB3.out.trans hb4); have HR4 := Lib.hid hr4; clear hb4 hr4)))
      go_cut [1] (fun s1 wx => s1 = .int .i64 (p : Int) ∧ Hid (wx = w4))
      case first =>
        rcases HPC.out with ⟨h1, h2⟩ | ⟨h1, h2⟩
        · have H2 := Lib.hid h2
          clear h2
          go_wp2
          all_goals (go_meet; have h2 := H2.out; exact ⟨by rw [← h2], rfl⟩)
        · subst h2
          go_wp2
          all_goals (go_meet; exact ⟨rfl, rfl⟩)
      case rest =>
      obtain ⟨rfl, HWX⟩ := hcut
      rw [HWX.out]
      have hsl := HSL.out AL cL hc4
      go_upto_region 14 with (first | (go_at_call 17; ((with_reducible refine (CW1.out _ _ _ (HR4.out.take (Nat.le_of_lt hqL))).mono ?_); rintro e w6 ⟨rfl, hb6⟩; have HB6 := Lib.hid (HB4.out.trans hb6); have HR6 := Lib.hid (HR4.out.no hb6); clear hb6)) | (go_at_call 18; ((with_reducible refine (CS1.out _).mono ?_); rintro e w7 ⟨rfl, hb7⟩; have HB7 := Lib.hid (HB6.out.trans hb7); have HR7 := Lib.hid (HR6.out.no hb7); clear hb7)) | (go_at_call 12; ((with_reducible refine (CD1.out _).mono ?_); rintro e w8 ⟨A8, n8, c8, rfl, hb8⟩; have HB8 := Lib.hid (HB7.out.trans hb8); have HR8 := Lib.hid (HR7.out.no hb8); clear hb8)))
      obtain ⟨w9, hw9, hb9⟩ : ∃ w9, w8.alloc (.cells #[.int .i64 0, .int .i64 0, .int .i64 0, .int .i64 0, .int .i64 0, .int .i64 0, .int .i64 0, .int .i64 0, .slice A8 n8 c8] 24) = w9 ∧ But No w8 w9 := ⟨_, rfl, (But.refl _ _).alloc _⟩
      rw [hw9]
      have HB9 := Lib.hid (HB8.out.trans hb9)
      have HR9 := Lib.hid (HR8.out.no hb9)
      clear hw9 hb9 hsl
      go_wp2_with (first | (at_builtin; refine wpList_append_sh _ rfl _ _ 44 rfl 3 i0 _ 1 8 Try.underlying44 I0.out.1 I0.out.2.1 I0.out.2.2.1 I0.out.2.2.2 rfl (by omega) (.slice none 0 0) 0 [] rfl (World.ownsRow_nil _ _ _ _) w9.heap.size AL L cL (zs.map vi) rfl HR9.out.reads (vi_one _) (by unfold maxLen; omega) (by omega) ?_; intro A10 c10 w10 hown hgrow hat; simp only [Nat.zero_add, List.nil_append] at hown hgrow hat ⊢; have HO10 := Lib.hid hown; have hb10 := (But.refl No w9).grown hgrow (fun k e => by simp [Value.ownBlock] at e); have HB10 := Lib.hid (HB9.out.trans hb10); have HN10 := Lib.hid (own_new (M := w9.heap.size) own_none hat (Nat.le_refl _)); clear hown hgrow hat hb10) | (at_builtin; refine wpList_append_sh _ rfl _ _ 44 rfl 3 i0 _ 1 8 Try.underlying44 I0.out.1 I0.out.2.1 I0.out.2.2.1 I0.out.2.2.2 rfl (by omega) (.slice A10 L c10) L (zs.map vi) rfl HO10.out w10.heap.size B m d (more.map vi) rfl (HM.out.no HB10.out).reads (vi_one _) (by unfold maxLen; omega) (by omega) ?_; intro A11 c11 w11 hown hgrow hat; have HR11 : Hid (Rl w11 A11 (L + m) (zs ++ more)) := own_rl (by rw [List.map_append]; exact hown) (by rw [List.length_append, HZL.out, HML.out]) (by omega); have HB11 := Lib.hid (HB10.out.grown hgrow (fun k e => .inr (by have h1 := HN10.out k e; have h2 := HB9.out.size; omega))); clear hown hgrow hat) | (go_at_call 17; ((with_reducible refine (CW2.out _ _ _ HR11.out).mono ?_); rintro e w12 ⟨rfl, hb12⟩; have HB12 := Lib.hid (HB11.out.trans hb12); clear hb12)) | (go_at_call 18; ((with_reducible refine (CS2.out _).mono ?_); rintro e w13 ⟨rfl, hb13⟩; have HB13 := Lib.hid (HB12.out.trans hb13); clear hb13)) | (go_at_call 12; ((with_reducible refine (CD2.out _).mono ?_); rintro e w14 ⟨A14, n14, c14, rfl, hb14⟩; have HB14 := Lib.hid (HB13.out.trans hb14); clear hb14)))
      go_ret
      exact ⟨rfl, HB14.out.alloc _⟩
    · obtain ⟨h0m, hF0⟩ := hfin
      have hb1 : ((m : Int) == 0) = false := by rw [beq_eq_false_iff_ne]; omega
      have hb2 : ((F : Int) != 0) = true := by rw [bne_iff_ne]; omega
      go_enter Try.func7, Try.ntmps7
      go_upto_if 61 with (first | (go_at_call 8; refine (CX _).out.mono ?_; rintro e w1 ⟨rfl, hb1⟩; have HB1 := Lib.hid (((But.refl No w).alloc _).trans hb1); have HS1 : Hid (S9 w1 w.heap.size s A n c) := keepS9 (sys_cells (s := s) (Blk.new w _ _)) hb1; clear hb1; obtain ⟨d0, d1, d2, d3, d4, d5, d6, d7, d8⟩ := HS1.out) | (go_at_call 9; ((with_reducible refine (CE.out _ HB1.out).mono ?_); rintro e w2 ⟨rfl, hb2⟩; have HB2 := Lib.hid (HB1.out.trans hb2); clear hb2 d0 d1 d2 d3 d4 d5 d6 d7 d8)) | (go_at_call 15; ((with_reducible refine (CO.out _).mono ?_); rintro e w3 ⟨rfl, hb3⟩; have HB3 := Lib.hid (HB2.out.trans hb3); clear hb3)) | (go_at_call 16; ((with_reducible refine (CR.out _).mono ?_); rintro e w4 ⟨AL, cL, rfl, hb4, hr4, hc4⟩; have HB4 := Lib.hid (HB3.out.trans hb4); have HR4 := Lib.hid hr4; clear hb4 hr4)))
      go_cut [1] (fun s1 wx => s1 = .int .i64 (p : Int) ∧ Hid (wx = w4))
      case first =>
        rcases HPC.out with ⟨h1, h2⟩ | ⟨h1, h2⟩
        · have H2 := Lib.hid h2
          clear h2
          go_wp2
          all_goals (go_meet; have h2 := H2.out; exact ⟨by rw [← h2], rfl⟩)
        · subst h2
          go_wp2
          all_goals (go_meet; exact ⟨rfl, rfl⟩)
      case rest =>
      obtain ⟨rfl, HWX⟩ := hcut
      rw [HWX.out]
      have hsl := HSL.out AL cL hc4
      go_upto_region 14 with (first | (go_at_call 17; ((with_reducible refine (CW1.out _ _ _ (HR4.out.take (Nat.le_of_lt hqL))).mono ?_); rintro e w6 ⟨rfl, hb6⟩; have HB6 := Lib.hid (HB4.out.trans hb6); have HR6 := Lib.hid (HR4.out.no hb6); clear hb6)) | (go_at_call 18; ((with_reducible refine (CS1.out _).mono ?_); rintro e w7 ⟨rfl, hb7⟩; have HB7 := Lib.hid (HB6.out.trans hb7); have HR7 := Lib.hid (HR6.out.no hb7); clear hb7)) | (go_at_call 12; ((with_reducible refine (CD1.out _).mono ?_); rintro e w8 ⟨A8, n8, c8, rfl, hb8⟩; have HB8 := Lib.hid (HB7.out.trans hb8); have HR8 := Lib.hid (HR7.out.no hb8); clear hb8)))
      obtain ⟨w9, hw9, hb9⟩ : ∃ w9, w8.alloc (.cells #[.int .i64 0, .int .i64 0, .int .i64 0, .int .i64 0, .int .i64 0, .int .i64 0, .int .i64 0, .int .i64 0, .slice A8 n8 c8] 24) = w9 ∧ But No w8 w9 := ⟨_, rfl, (But.refl _ _).alloc _⟩
      rw [hw9]
      have HB9 := Lib.hid (HB8.out.trans hb9)
      have HR9 := Lib.hid (HR8.out.no hb9)
      clear hw9 hb9 hsl
      go_wp2_with (first | (at_builtin; refine wpList_append_sh _ rfl _ _ 44 rfl 3 i0 _ 1 8 Try.underlying44 I0.out.1 I0.out.2.1 I0.out.2.2.1 I0.out.2.2.2 rfl (by omega) (.slice none 0 0) 0 [] rfl (World.ownsRow_nil _ _ _ _) w9.heap.size AL L cL (zs.map vi) rfl HR9.out.reads (vi_one _) (by unfold maxLen; omega) (by omega) ?_; intro A10 c10 w10 hown hgrow hat; simp only [Nat.zero_add, List.nil_append] at hown hgrow hat ⊢; have HO10 := Lib.hid hown; have hb10 := (But.refl No w9).grown hgrow (fun k e => by simp [Value.ownBlock] at e); have HB10 := Lib.hid (HB9.out.trans hb10); have HN10 := Lib.hid (own_new (M := w9.heap.size) own_none hat (Nat.le_refl _)); clear hown hgrow hat hb10) | (at_builtin; refine wpList_append_sh _ rfl _ _ 44 rfl 3 i0 _ 1 8 Try.underlying44 I0.out.1 I0.out.2.1 I0.out.2.2.1 I0.out.2.2.2 rfl (by omega) (.slice A10 L c10) L (zs.map vi) rfl HO10.out w10.heap.size B m d (more.map vi) rfl (HM.out.no HB10.out).reads (vi_one _) (by unfold maxLen; omega) (by omega) ?_; intro A11 c11 w11 hown hgrow hat; have HR11 : Hid (Rl w11 A11 (L + m) (zs ++ more)) := own_rl (by rw [List.map_append]; exact hown) (by rw [List.length_append, HZL.out, HML.out]) (by omega); have HB11 := Lib.hid (HB10.out.grown hgrow (fun k e => .inr (by have h1 := HN10.out k e; have h2 := HB9.out.size; omega))); clear hown hgrow hat) | (go_at_call 17; ((with_reducible refine (CW2.out _ _ _ HR11.out).mono ?_); rintro e w12 ⟨rfl, hb12⟩; have HB12 := Lib.hid (HB11.out.trans hb12); clear hb12)) | (go_at_call 18; ((with_reducible refine (CS2.out _).mono ?_); rintro e w13 ⟨rfl, hb13⟩; have HB13 := Lib.hid (HB12.out.trans hb13); clear hb13)) | (go_at_call 12; ((with_reducible refine (CD2.out _).mono ?_); rintro e w14 ⟨A14, n14, c14, rfl, hb14⟩; have HB14 := Lib.hid (HB13.out.trans hb14); clear hb14)))
      go_ret
      exact ⟨rfl, HB14.out.alloc _⟩
    · obtain ⟨h0m, rfl, rfl⟩ := hfin
      have hb1 : ((m : Int) == 0) = false := by rw [beq_eq_false_iff_ne]; omega
      go_enter Try.func7, Try.ntmps7
      go_upto_if 61 with (first | (go_at_call 8; refine (CX _).out.mono ?_; rintro e w1 ⟨rfl, hb1⟩; have HB1 := Lib.hid (((But.refl No w).alloc _).trans hb1); have HS1 : Hid (S9 w1 w.heap.size s A n c) := keepS9 (sys_cells (s := s) (Blk.new w _ _)) hb1; clear hb1; obtain ⟨d0, d1, d2, d3, d4, d5, d6, d7, d8⟩ := HS1.out) | (go_at_call 9; ((with_reducible refine (CE.out _ HB1.out).mono ?_); rintro e w2 ⟨rfl, hb2⟩; have HB2 := Lib.hid (HB1.out.trans hb2); clear hb2 d0 d1 d2 d3 d4 d5 d6 d7 d8)) | (go_at_call 15; ((with_reducible refine (CO.out _).mono ?_); rintro e w3 ⟨rfl, hb3⟩; have HB3 := Lib.hid (HB2.out.trans hb3); clear hb3)) | (go_at_call 16; ((with_reducible refine (CR.out _).mono ?_); rintro e w4 ⟨AL, cL, rfl, hb4, hr4, hc4⟩; have HB4 := Lib.hid (HB3.out.trans hb4); have HR4 := Lib.hid hr4; clear hb4 hr4)))
      go_cut [1] (fun s1 wx => s1 = .int .i64 (p : Int) ∧ Hid (wx = w4))
      case first =>
        rcases HPC.out with ⟨h1, h2⟩ | ⟨h1, h2⟩
        · have H2 := Lib.hid h2
          clear h2
          go_wp2
          all_goals (go_meet; have h2 := H2.out; exact ⟨by rw [← h2], rfl⟩)
        · subst h2
          go_wp2
          all_goals (go_meet; exact ⟨rfl, rfl⟩)
      case rest =>
      obtain ⟨rfl, HWX⟩ := hcut
      rw [HWX.out]
      have hsl := HSL.out AL cL hc4
      go_upto_region 14 with (first | (go_at_call 17; ((with_reducible refine (CW1.out _ _ _ (HR4.out.take (Nat.le_of_lt hqL))).mono ?_); rintro e w6 ⟨rfl, hb6⟩; have HB6 := Lib.hid (HB4.out.trans hb6); have HR6 := Lib.hid (HR4.out.no hb6); clear hb6)) | (go_at_call 18; ((with_reducible refine (CS1.out _).mono ?_); rintro e w7 ⟨rfl, hb7⟩; have HB7 := Lib.hid (HB6.out.trans hb7); have HR7 := Lib.hid (HR6.out.no hb7); clear hb7)) | (go_at_call 12; ((with_reducible refine (CD1.out _).mono ?_); rintro e w8 ⟨A8, n8, c8, rfl, hb8⟩; have HB8 := Lib.hid (HB7.out.trans hb8); have HR8 := Lib.hid (HR7.out.no hb8); clear hb8)))
      obtain ⟨w9, hw9, hb9⟩ : ∃ w9, w8.alloc (.cells #[.int .i64 0, .int .i64 0, .int .i64 0, .int .i64 0, .int .i64 0, .int .i64 0, .int .i64 0, .int .i64 0, .slice A8 n8 c8] 24) = w9 ∧ But No w8 w9 := ⟨_, rfl, (But.refl _ _).alloc _⟩
      rw [hw9]
      have HB9 := Lib.hid (HB8.out.trans hb9)
      have HR9 := Lib.hid (HR8.out.no hb9)
      clear hw9 hb9 hsl
      go_wp2_with (first | (at_builtin; refine wpList_append_sh _ rfl _ _ 44 rfl 3 i0 _ 1 8 Try.underlying44 I0.out.1 I0.out.2.1 I0.out.2.2.1 I0.out.2.2.2 rfl (by omega) (.slice none 0 0) 0 [] rfl (World.ownsRow_nil _ _ _ _) w9.heap.size AL L cL (zs.map vi) rfl HR9.out.reads (vi_one _) (by unfold maxLen; omega) (by omega) ?_; intro A10 c10 w10 hown hgrow hat; simp only [Nat.zero_add, List.nil_append] at hown hgrow hat ⊢; have HO10 := Lib.hid hown; have hb10 := (But.refl No w9).grown hgrow (fun k e => by simp [Value.ownBlock] at e); have HB10 := Lib.hid (HB9.out.trans hb10); have HN10 := Lib.hid (own_new (M := w9.heap.size) own_none hat (Nat.le_refl _)); clear hown hgrow hat hb10) | (at_builtin; refine wpList_append_sh _ rfl _ _ 44 rfl 3 i0 _ 1 8 Try.underlying44 I0.out.1 I0.out.2.1 I0.out.2.2.1 I0.out.2.2.2 rfl (by omega) (.slice A10 L c10) L (zs.map vi) rfl HO10.out w10.heap.size B m d (more.map vi) rfl (HM.out.no HB10.out).reads (vi_one _) (by unfold maxLen; omega) (by omega) ?_; intro A11 c11 w11 hown hgrow hat; have HR11 : Hid (Rl w11 A11 (L + m) (zs ++ more)) := own_rl (by rw [List.map_append]; exact hown) (by rw [List.length_append, HZL.out, HML.out]) (by omega); have HB11 := Lib.hid (HB10.out.grown hgrow (fun k e => .inr (by have h1 := HN10.out k e; have h2 := HB9.out.size; omega))); clear hown hgrow hat) | (go_at_call 17; ((with_reducible refine (CW2.out _ _ _ HR11.out).mono ?_); rintro e w12 ⟨rfl, hb12⟩; have HB12 := Lib.hid (HB11.out.trans hb12); clear hb12)) | (go_at_call 18; ((with_reducible refine (CS2.out _).mono ?_); rintro e w13 ⟨rfl, hb13⟩; have HB13 := Lib.hid (HB12.out.trans hb13); clear hb13)) | (go_at_call 12; ((with_reducible refine (CD2.out _).mono ?_); rintro e w14 ⟨A14, n14, c14, rfl, hb14⟩; have HB14 := Lib.hid (HB13.out.trans hb14); clear hb14)))
      go_ret
      exact ⟨rfl, HB14.out.alloc _⟩
  · have CE : Hid (∀ W, But No w W → Calls Try.prog 9 #[sysV s A n c] W fun e w' => e = .returned (.tuple #[.string t, .int .i64 1]) ∧ But No W w') := fun W hb => encode_to ht hE W (h.no hb)
    clear hE h hn ht
    unfold sysV at CE ⊢
    go_enter Try.func7, Try.ntmps7
    go_wp2_with (first | (go_at_call 8; refine (CX _).out.mono ?_; rintro e w1 ⟨rfl, hb1⟩; have HB1 := Lib.hid (((But.refl No w).alloc _).trans hb1); have HS1 : Hid (S9 w1 w.heap.size s A n c) := keepS9 (sys_cells (s := s) (Blk.new w _ _)) hb1; clear hb1; obtain ⟨d0, d1, d2, d3, d4, d5, d6, d7, d8⟩ := HS1.out) | (go_at_call 9; ((with_reducible refine (CE.out _ HB1.out).mono ?_); rintro e w2 ⟨rfl, hb2⟩; have HB2 := Lib.hid (HB1.out.trans hb2); clear hb2 d0 d1 d2 d3 d4 d5 d6 d7 d8)))
    go_ret
    exact ⟨rfl, HB2.out⟩
  · have CE : Hid (∀ W, But No w W → Calls Try.prog 9 #[sysV s A n c] W fun e w' => e = .returned (.tuple #[.string t, .int .i64 7]) ∧ But No W w') := fun W hb => encode_to ht hE W (h.no hb)
    clear hE h hn ht
    unfold sysV at CE ⊢
    go_enter Try.func7, Try.ntmps7
    go_wp2_with (first | (go_at_call 8; refine (CX _).out.mono ?_; rintro e w1 ⟨rfl, hb1⟩; have HB1 := Lib.hid (((But.refl No w).alloc _).trans hb1); have HS1 : Hid (S9 w1 w.heap.size s A n c) := keepS9 (sys_cells (s := s) (Blk.new w _ _)) hb1; clear hb1; obtain ⟨d0, d1, d2, d3, d4, d5, d6, d7, d8⟩ := HS1.out) | (go_at_call 9; ((with_reducible refine (CE.out _ HB1.out).mono ?_); rintro e w2 ⟨rfl, hb2⟩; have HB2 := Lib.hid (HB1.out.trans hb2); clear hb2 d0 d1 d2 d3 d4 d5 d6 d7 d8)))
    go_ret
    exact ⟨rfl, HB2.out⟩
end tasksetCuts
end Go.Proofs.Ytlkcelmamenhpaa
