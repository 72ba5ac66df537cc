/- The contract of the document's Numbers. -/
import Derived.Test.YtlkcelmamenhpaaT11
namespace Go.Proofs.Ytlkcelmamenhpaa
open Go.ChangeShapes Go.WideShapes Go.ChangeAt Go.RowKit Go.Deep
theorem owns_built (w : World) (o : Obj) (xs : List Int) (hx : xs.length ≤ 1000) : ((w.alloc o).alloc (.cells (arrV xs) 3)).ownsRow 0 3 1 (.slice (some ⟨w.heap.size + 1, 0, none⟩) xs.length xs.length) xs.length (xs.map vi) :=
  ⟨by simp, .inr ⟨w.heap.size + 1, xs.length, arrV xs, rfl, Nat.zero_le _, blk2 w o _ _, Nat.le_refl _, by unfold maxLen; omega, by simp [arrV], by show List.take (xs.length * 1) (xs.map vi) = xs.map vi; exact List.take_of_length_le (by simp)⟩⟩
theorem Oz.built (w : World) (o : Obj) (xs : List Int) (hx : xs.length ≤ 1000) : Oz w ((w.alloc o).alloc (.cells (arrV xs) 3)) (.slice (some ⟨w.heap.size + 1, 0, none⟩) xs.length xs.length) xs :=
  ⟨owns_built w o xs hx, ((But.refl _ _).alloc _).alloc _, fun j e => by
    have h : w.heap.size + 1 = j := by simpa [Value.ownBlock] using e
    omega⟩
theorem reads4 (w : World) (o : Obj) (a b c d : Int) : Reads ((w.alloc o).alloc (.cells #[.int .i64 a, .int .i64 b, .int .i64 c, .int .i64 d] 3)) (w.heap.size + 2) 1 (some ⟨w.heap.size + 1, 0, none⟩) 4 [.int .i64 a, .int .i64 b, .int .i64 c, .int .i64 d] :=
  ⟨rfl, fun _ => ⟨_, rfl, by show w.heap.size + 1 < w.heap.size + 2; omega, World.news_of_block (cs := #[.int .i64 a, .int .i64 b, .int .i64 c, .int .i64 d]) (t := 3) (fr := (0, 0)) (blk2 w o _ _)⟩⟩
theorem cells4i (a b c d : Int) : ∀ u ∈ [Value.int .i64 a, Value.int .i64 b, Value.int .i64 c, Value.int .i64 d], u.oneCell' = true := by simp [Value.oneCell']
theorem reads3d (w : World) (a b c : Int) : Reads (w.alloc (.cells #[.int .i64 a, .int .i64 b, .int .i64 c] 3)) (w.heap.size + 1) 1 (some ⟨w.heap.size, 0, none⟩) 3 [.int .i64 a, .int .i64 b, .int .i64 c] :=
  ⟨rfl, fun _ => ⟨_, rfl, Nat.lt_succ_self _, World.news_of_block (cs := #[.int .i64 a, .int .i64 b, .int .i64 c]) (t := 3) (fr := (0, 0)) (Blk.new w _ _)⟩⟩
theorem cell_but {S : Nat → Prop} {w1 w2 : World} {b o : Nat} {v : Value} (h : w1.cell? ⟨b, o, none⟩ = some v) (hb : But S w1 w2) (hs : ¬ S b) : w2.cell? ⟨b, o, none⟩ = some v := by
  rw [hb.cell (World.block_lt_of_cell? w1 _ h) hs]; exact h
set_option maxRecDepth 100000 in
set_option maxHeartbeats 4000000 in
theorem rnumbers_any (s : Sys) (A : Option Addr) (n c : Nat) (w : World) (h : RSys w A n c s) (hlen : (nums s).length ≤ 10000000) : Calls Try.prog 22 #[sysV s A n c] w (RetZ w (nums s)) := by
  have HT := Lib.hid h.ts
  have HN := Lib.hid h.ts.len
  have hmx := h.ts.max
  clear h
  obtain ⟨i0, hi0, hi1, hi2, hi3⟩ := info_parts info3
  have I0 : Hid (Try.prog.info? 3 = some i0 ∧ i0.zero = some (.int .i64 0) ∧ i0.size = 1 ∧ i0.bytes = 8) := ⟨hi0, hi1, hi2, hi3⟩
  clear hi0 hi1 hi2 hi3
  obtain ⟨tot, htot⟩ : ∃ tot, (nums s).length = tot := ⟨_, rfl⟩
  rw [htot] at hlen
  have HTOT := Lib.hid htot
  clear htot
  have hO : ∀ o, Oz w ((w.alloc o).alloc (.cells #[.int .i64 1, .int .i64 s.co, .int .i64 s.po, .int .i64 s.pr, .int .i64 s.re, .int .i64 s.sw, .int .i64 s.fi, .int .i64 s.la, .int .i64 s.rs, .int .i64 (n : Int)] 3)) (.slice (some ⟨w.heap.size + 1, 0, none⟩) 10 10) (headL s) := fun o => by
    have := Oz.built w o (headL s) (by simp [headL])
    rw [show arrV (headL s) = #[.int .i64 1, .int .i64 s.co, .int .i64 s.po, .int .i64 s.pr, .int .i64 s.re, .int .i64 s.sw, .int .i64 s.fi, .int .i64 s.la, .int .i64 s.rs, .int .i64 (s.ts.length : Int)] from rfl, HN.out] at this
    exact this
  have HO0 := Lib.hid hO
  clear hO
  unfold sysV
  go_enter Try.func22, Try.ntmps22
  go_wp2
  obtain ⟨bx, hbx⟩ : ∃ bx, bx = w.heap.size := ⟨_, rfl⟩
  go_loopw [3, 4] (fun u i wr => ∃ (A' : Option Addr) (n' c' k : Nat) (zs : List Int), u = .slice A' n' c' ∧ i = .int .i64 (k : Int) ∧ k ≤ n ∧ Hid (zs.length = n') ∧ Hid (Oz w wr (.slice A' n' c') zs) ∧ Hid (Bx wr w.heap.size (boxS s A n c) 24 (.slice A' n' c')) ∧ Hid (zs ++ (s.ts.drop k).flatMap tskN = nums s)) (fun _ i _ => n - (intOf i).toNat)
  case atStart => exact ⟨some ⟨w.heap.size + 1, 0, none⟩, 10, 10, 0, headL s, rfl, rfl, by omega, rfl, HO0.out _, ⟨(Blk.new w _ _).alloc _, by simp [Value.ownBlock]⟩, rfl⟩
  case round =>
    obtain ⟨A', n', c', k, zs, rfl, rfl, hk, HL, HO, HB, HE⟩ := hrel
    have hc8 : wr.cell? ⟨w.heap.size, 8, none⟩ = some (.slice A n c) := HB.out.blk.cell (o := 8) rfl
    by_cases hlt : k < n
    · obtain ⟨t, ht⟩ : ∃ t, s.ts[k]? = some t := ⟨_, List.getElem?_eq_getElem (by rw [HN.out]; exact hlt)⟩
      obtain ⟨b, off, AS, cS, rfl, c0, c1, c2, c3, hcc, hS⟩ := (HT.out.no HO.out.but).at1 ht
      have HS : Hid (RSec w AS t.secs.length t.secs) := by
        obtain ⟨b1, off1, AS1, cS1, e1, _, _, _, d3, _, hS1⟩ := HT.out.at1 ht
        cases e1
        have := cell_keep d3 HO.out.but
        rw [c3] at this
        cases this
        exact hS1
      have HE2 : Hid (zs ++ (tskN t ++ (s.ts.drop (k + 1)).flatMap tskN) = nums s) := by show _ = _; rw [← HE.out, drop_at ht, List.flatMap_cons]
      have hmS := hS.max
      obtain ⟨R, hR⟩ : ∃ R, R = (s.ts.drop (k + 1)).flatMap tskN := ⟨_, rfl⟩
      rw [← hR] at HE2
      have HR := Lib.hid hR
      clear hS ht HE hR
      obtain ⟨m, hm4⟩ : ∃ m, t.secs.length = m := ⟨_, rfl⟩
      rw [hm4] at c3 hcc hmS HS
      have HM := Lib.hid hm4
      clear hm4
      have HE3 : Hid ((zs ++ [t.p, t.d, t.w, (m : Int)]) ++ ((t.secs.drop 0).flatMap secN ++ R) = nums s) := by show _ = _; rw [← HE2.out, tskN_head, theadL, HM.out]; simp
      clear HE2
      have hbd := left_len HE3.out
      rw [HTOT.out, List.length_append, HL.out] at hbd
      simp only [List.length_cons, List.length_nil] at hbd
      have hbd2 : n' + 4 ≤ tot := by omega
      clear hbd
      have HBT : Hid (Bx (wr.alloc (.cells #[.int .i64 t.p, .int .i64 t.d, .int .i64 t.w, .slice AS m cS] 39)) wr.heap.size (boxT t AS m cS) 39 (.slice A' n' c')) := Bx.fresh HO.out (Blk.new wr _ _)
      go_wp2_with (at_builtin; refine wpList_append_sh _ rfl _ _ 44 rfl 3 i0 _ 1 8 Try.underlying44 I0.out.1 I0.out.2.1 I0.out.2.2.1 I0.out.2.2.2 rfl (by omega) (.slice A' n' c') n' _ rfl (HO.out.row HL.out (((But.refl _ _).alloc _).alloc _)) (wr.heap.size + 2) (some ⟨wr.heap.size + 1, 0, none⟩) 4 4 [.int .i64 t.p, .int .i64 t.d, .int .i64 t.w, .int .i64 (m : Int)] rfl (reads4 wr _ _ _ _ _) (cells4i _ _ _ _) (by unfold maxLen; omega) (by omega) ?_; intro A3 c3' w3 hown hgrow hat; have HF := Lib.hid (HO.out.app HL.out (((But.refl _ _).alloc _).alloc _) (ys := [t.p, t.d, t.w, (m : Int)]) rfl hown rfl hgrow hat); have HB3 := Lib.hid (HB.out.app (((But.refl _ _).alloc _).alloc _) hgrow hat); have HT3 := Lib.hid (HBT.out.app ((But.refl _ _).alloc _) hgrow hat); clear hown hgrow hat)
      clear c0 c1 c2 c3 hc8 HBT
      obtain ⟨kk, hkk⟩ : ∃ kk, kk = k := ⟨_, rfl⟩
      rw [← hkk] at HR hlt hk ⊢
      have HKK := Lib.hid hkk
      clear hkk
      have hkn : kk < n := hlt
      generalize hbt : wr.heap.size = bt at HT3 ⊢
      clear hbt
      go_loopw [3, 6] (fun u i wr => ∃ (A' : Option Addr) (n' c' k : Nat) (zs : List Int), u = .slice A' n' c' ∧ i = .int .i64 (k : Int) ∧ k ≤ m ∧ Hid (zs.length = n') ∧ Hid (Oz w wr (.slice A' n' c') zs) ∧ Hid (Bx wr w.heap.size (boxS s (some ⟨b, off, none⟩) n c) 24 (.slice A' n' c')) ∧ Hid (Bx wr bt (boxT t AS m cS) 39 (.slice A' n' c')) ∧ Hid (zs ++ ((t.secs.drop k).flatMap secN ++ R) = nums s)) (fun _ i _ => m - (intOf i).toNat)
      case atStart => exact ⟨A3, n' + 4, c3', 0, zs ++ [t.p, t.d, t.w, (m : Int)], rfl, rfl, by omega, by show _ = _; rw [List.length_append, HL.out]; rfl, HF, HB3, HT3, HE3⟩
      case round =>
        clear HE3 HL HO HB HF HB3 HT3
        obtain ⟨A', n', c', k, zs, rfl, rfl, hk, HL, HO, HB, HB2, HE⟩ := hrel
        have hc3 : wr.cell? ⟨bt, 3, none⟩ = some (.slice AS m cS) := HB2.out.blk.cell (o := 3) rfl
        by_cases hlt : k < m
        · obtain ⟨b, off, rfl, hb, hc⟩ := (HS.out.no HO.out.but).at_ (by omega)
          obtain ⟨x, hx⟩ : ∃ x, t.secs[k]? = some x := ⟨_, List.getElem?_eq_getElem (by rw [HM.out]; exact hlt)⟩
          have hcx := hc k x hx
          have HE2 : Hid ((zs ++ [x.1, x.2.1, x.2.2]) ++ ((t.secs.drop (k + 1)).flatMap secN ++ R) = nums s) := by show _ = _; rw [← HE.out, drop_at hx, List.flatMap_cons]; simp [secN]
          have hbd := left_len HE2.out
          rw [HTOT.out, List.length_append, HL.out] at hbd
          simp only [List.length_cons, List.length_nil] at hbd
          have hbd2 : n' + 3 ≤ tot := by omega
          have HCX := Lib.hid hcx
          clear hbd hc hx HE hcx
          have HC3 := Lib.hid hc3
          go_wp2_with fail
          have KN : Hid (∀ w2, But (OB (.slice A' n' c')) wr w2 → w2.cell? ⟨bt, 3, none⟩ = some (.slice (some ⟨b, off, none⟩) m cS) ∧ w2.cell? ⟨b, off + k * 3, none⟩ = some (.int .i64 x.1) ∧ w2.cell? ⟨b, off + k * 3 + 1, none⟩ = some (.int .i64 x.2.1) ∧ w2.cell? ⟨b, off + k * 3 + 2, none⟩ = some (.int .i64 x.2.2) ∧ But (OB (.slice A' n' c')) wr w2) := fun w2 hb2 => by
            have hn : ¬ OB (.slice A' n' c') b := fun f => by
              have h1 := HO.out.new b f
              obtain ⟨b9, off9, e9, hb9, _⟩ := HS.out.at_ (by omega)
              cases e9
              omega
            exact ⟨cell_but HC3.out hb2 (fun f => HB2.out.ne f), cell_but HCX.out.1 hb2 hn, cell_but HCX.out.2.1 hb2 hn, cell_but HCX.out.2.2 hb2 hn, hb2⟩
          go_region_held3 (fun w' => w'.cell? ⟨bt, 3, none⟩ = some (.slice (some ⟨b, off, none⟩) m cS) ∧ w'.cell? ⟨b, off + k * 3, none⟩ = some (.int .i64 x.1) ∧ w'.cell? ⟨b, off + k * 3 + 1, none⟩ = some (.int .i64 x.2.1) ∧ w'.cell? ⟨b, off + k * 3 + 2, none⟩ = some (.int .i64 x.2.2) ∧ But (OB (.slice A' n' c')) wr w')
            (first | exact KN.out _ ((But.refl _ _).drew) | exact KN.out _ (((But.refl _ _).drew).alloc _) | exact KN.out _ hb3.out)
            (first | (refine step_append_sh rfl _ _ 44 rfl 3 i0 _ 1 8 Try.underlying44 I0.out.1 I0.out.2.1 I0.out.2.2.1 I0.out.2.2.2 rfl (by omega) (.slice A' n' c') n' _ (by simp [Act.eval]) (HO.out.row HL.out ((But.refl _ _).drew.alloc _)) (wr.heap.size + 1) (some ⟨wr.heap.size, 0, none⟩) 3 3 [.int .i64 x.1, .int .i64 x.2.1, .int .i64 x.2.2] (by simp [Act.eval]) (reads3d wr.drew _ _ _) (cells3 _ _ _) (by unfold maxLen; omega) (by omega) ?_; intro A3 c3 w3 hown hgrow hat; have hb3 := Lib.hid ((((But.refl (OB (.slice A' n' c')) wr).drew).alloc _).grown hgrow.out (fun _ e => .inl e))))
          have HF := Lib.hid (HO.out.app HL.out ((But.refl _ _).drew.alloc _) (ys := [x.1, x.2.1, x.2.2]) rfl hown.out rfl hgrow.out hat.out)
          have HB3 := Lib.hid (HB.out.app ((But.refl _ _).drew.alloc _) hgrow.out hat.out)
          have HT3 := Lib.hid (HB2.out.app ((But.refl _ _).drew.alloc _) hgrow.out hat.out)
          rename_i hH
          clear hH hown hgrow hat hb3 KN
          go_wp2
          go_roundw
          case rel => exact ⟨A3, n' + 3, c3, k + 1, zs ++ [x.1, x.2.1, x.2.2], rfl, by go_num, by omega, by show _ = _; rw [List.length_append, HL.out]; rfl, HF, HB3, HT3, HE2⟩
          case measure => simp [intOf]; omega
        · have HE2 : Hid (zs ++ R = nums s) := by show _ = _; rw [← HE.out, List.drop_eq_nil_of_le (by rw [HM.out]; omega)]; simp
          go_wp2
          go_roundw
          case rel => exact ⟨A', n', c', kk + 1, zs, rfl, by go_num, by omega, HL, HO, HB, by rw [← HR.out]; exact HE2⟩
          case measure =>
            have := HKK.out
            simp [intOf]; omega
    · have HE3 : Hid (zs = nums s) := by show _ = _; rw [← HE.out, List.drop_eq_nil_of_le (by rw [HN.out]; omega)]; simp
      go_wp2
      go_ret
      exact ⟨A', n', c', rfl, by rw [← HE3.out]; exact HL.out, by rw [← HE3.out]; exact HO.out⟩
end Go.Proofs.Ytlkcelmamenhpaa
