/- The contract of longestOf. -/
import Derived.Test.YtfmhejeeeglmdaaTeC2
import Derived.Test.YtfmhejeeeglmdaaVaC3
import Derived.StillTailTactics
namespace Go.Proofs.Ytfmhejeeeglmdaa.ter
open Go.ChangeShapes Go.WideShapes Go.ChangeAt Go.RowKit Go.Deep ky2 val
theorem fl_snoc {co : Int} {wh : List Int} {ts : List Tsk} {i : Nat} {t : Tsk} (ht : ts[i]? = some t) : fl co wh ts (i + 1) = fl co wh ts i ++ enS (cr co wh i) t.secs := by rw [fl, secsOf_some ht]
theorem fl_none {co : Int} {wh : List Int} {ts : List Tsk} {i : Nat} (h : cr co wh i = -1) : fl co wh ts (i + 1) = fl co wh ts i := by rw [fl]; unfold enS; rw [if_pos h]; simp
theorem enS_take {c : Int} (hc : c ≠ -1) {l : List Sec} {j : Nat} {x : Sec} (hx : l[j]? = some x) : enS c (l.take (j + 1)) = enS c (l.take j) ++ [(c, x.2.1, x.2.2)] := by
  unfold enS
  rw [if_neg hc, if_neg hc, List.take_add_one, hx]
  simp
/-- The longest sections so far: the map, the box of the system. -/
structure Lg (w wr : World) (b1 mb : Nat) (s : Sys) (A : Option Addr) (n c : Nat) (L : List Sec) (q : Nat) : Prop where
  but : But No w wr
  bs : Blk wr b1 (boxS s A n c) 24
  om : ∃ D, OM wr mb q D ∧ LIs D L
  new : w.heap.size ≤ mb
  ne : b1 ≠ mb
theorem OM.no {w w' : World} {m N : Nat} {D : DataW Unit} (h : OM w m N D) (hb : But No w w') : OM w' m N D := h.but hb (fun f => f)
theorem OM.more {w : World} {m N N' : Nat} {D : DataW Unit} (h : OM w m N D) (hn : N ≤ N') : OM w m N' D := by
  obtain ⟨es, clock, h1, h2, h3, h4⟩ := h
  exact ⟨es, clock, h1, h2, Nat.le_trans h3 hn, h4⟩
theorem part_le {s : Sys} (hr : right s = true) (wh : List Int) {k j : Nat} {t : Tsk} (ht : s.ts[k]? = some t) (cc c r : Int) : 0 ≤ mx (fl s.co wh s.ts k ++ enS cc (t.secs.take j)) c r ∧ mx (fl s.co wh s.ts k ++ enS cc (t.secs.take j)) c r ≤ 1099511627776 := by
  refine ⟨mx_pos _ _ _, mx_le (by omega) (fun x hx => ?_) c r⟩
  rcases List.mem_append.1 hx with hx | hx
  · obtain ⟨u, hu, y, hy, _, e⟩ := fl_sec hx
    have := right_sec hr hu hy
    omega
  · obtain ⟨_, _, y, hy, _, e⟩ := enS_mem.1 hx
    have := right_sec hr (List.mem_of_getElem? ht) (List.mem_of_mem_take hy)
    omega
theorem _root_.Go.Proofs.Ytfmhejeeeglmdaa.RSec.but {w w' : World} {A : Option Addr} {n : Nat} {l : List Sec} {S : Nat → Prop} (h : RSec w A n l) (hb : But S w w') (hs : 0 < n → ∀ b off, A = some ⟨b, off, none⟩ → ¬ S b) : RSec w' A n l :=
  ⟨h.len, h.max, fun hn => by
    obtain ⟨b, off, e, hl, hc⟩ := h.at_ hn
    have hs' := hs hn b off e
    exact ⟨b, off, e, Nat.lt_of_lt_of_le hl hb.size, fun k x hx => by rw [hb.cell hl hs', hb.cell hl hs', hb.cell hl hs']; exact hc k x hx⟩, h.fit⟩
variable {w wr w2 : World} {b1 mb n c q q' : Nat} {s : Sys} {A : Option Addr} {L : List Sec}
theorem Lg.step (h : Lg w wr b1 mb s A n c L q) (hb : But No wr w2) : Lg w w2 b1 mb s A n c L q := by
  obtain ⟨D, h1, h2⟩ := h.om
  exact ⟨h.but.trans hb, h.bs.but hb (fun f => f), ⟨D, OM.no h1 hb, h2⟩, h.new, h.ne⟩
theorem Lg.more (h : Lg w wr b1 mb s A n c L q) (hq : q ≤ q') : Lg w wr b1 mb s A n c L q' := by
  obtain ⟨D, h1, h2⟩ := h.om
  exact ⟨h.but, h.bs, ⟨D, OM.more h1 hq, h2⟩, h.new, h.ne⟩
theorem Lg.put {D' : DataW Unit} {L' : List Sec} (h : Lg w wr b1 mb s A n c L q) (hb : But No wr w2) {w3 : World} (ho : OM w3 mb q' D') (ht : w2.mapTurned w3 mb) (hl : LIs D' L') : Lg w w3 b1 mb s A n c L' q' := by
  refine ⟨?_, ?_, ⟨D', ho, hl⟩, h.new, h.ne⟩
  · exact (h.but.trans hb).grown ht.grown (fun k e => by cases e; exact .inr h.new)
  · have hs := h.bs.but hb (fun f => f)
    have : But (Just mb) w2 w3 := (But.refl _ w2).turnedK ht rfl
    exact hs.but this h.ne
set_option maxRecDepth 100000 in
set_option maxHeartbeats 4000000 in
theorem longestOf_any (s : Sys) (A : Option Addr) (n c : Nat) (B : Option Addr) (m d : Nat) (wh : List Int) (w : World) (h : RSys w A n c s) (hz : Rd w B m wh) (hr : right s = true) :
    Calls Try.prog 20 #[sysV s A n c, .slice B m d] w fun e w' => ∃ mb, e = .returned (.map (some mb)) ∧ But No w w' ∧ w.heap.size ≤ mb ∧ ∃ D, OM w' mb 96 D ∧ LIs D (F s wh) := by
  have HR := Lib.hid h.ts
  have HN := Lib.hid h.ts.len
  have HZ := Lib.hid hz
  have HRT := Lib.hid hr
  have HLN := Lib.hid (right_len hr)
  have hn24 := HLN.out.2.2.2.1
  rw [HN.out] at hn24
  have hmm := @run_makeMap Try.prog
  have CC : Hid (∀ (i : Nat) W, But No w W → Calls Try.prog 25 #[sysV s A n c, .slice B m d, .int .i64 i] W fun e w' => e = .returned (.int .i64 (cr s.co wh i)) ∧ But No W w') := fun i W hb => coreOf_any s A n c B m d wh i W (HZ.out.no hb)
  clear h hz hr
  unfold sysV at CC ⊢
  go_enter Try.func20, Try.ntmps20
  go_wp2_with fail
  have HK0 : Hid (Lg w ((w.alloc (.cells (boxS s A n c) 24)).alloc (.map #[] 0)) w.heap.size (w.heap.size + 1) s A n c (fl s.co wh s.ts 0) (4 * 0)) := by
    refine Lib.hid ⟨((But.refl No w).alloc _).alloc _, (Blk.new w _ _).alloc _, ⟨.map [], ?_, LIs.nil⟩, by omega, by omega⟩
    have := World.ownsMap_made (w.alloc (.cells (boxS s A n c) 24)) Try.prog 44 (plainElem (H := Unit) Try.prog 3)
    rwa [size_alloc1] at this
  unfold boxS at HK0
  generalize (w.alloc (.cells #[.int .i64 s.co, .int .i64 s.po, .int .i64 s.pr, .int .i64 s.re, .int .i64 s.sw, .int .i64 s.fi, .int .i64 s.la, .int .i64 s.rs, .slice A n c] 24)).alloc (.map #[] 0) = w0 at HK0 ⊢
  generalize w.heap.size + 1 = mb at HK0 ⊢
  generalize w.heap.size = b1 at HK0 ⊢
  clear hmm
  go_loopw [16] (fun i wr => ∃ k : Nat, i = .int .i64 (k : Int) ∧ k ≤ n ∧ Hid (Lg w wr b1 mb s A n c (fl s.co wh s.ts k) (4 * k))) (fun i _ => n - (intOf i).toNat)
  case atStart => exact ⟨0, rfl, by omega, HK0⟩
  case round =>
    obtain ⟨k, rfl, hk, HK1⟩ := hrel
    clear HK0
    by_cases hlt : k < n
    · obtain ⟨t, ht⟩ : ∃ t, s.ts[k]? = some t := ⟨_, List.getElem?_eq_getElem (by rw [HN.out]; exact hlt)⟩
      obtain ⟨b, off, A', c', rfl, k0, k1, k2, k3, hcc, hS0⟩ := HR.out.at1 ht
      have c0 := cell_keep k0 HK1.out.but
      have c1 := cell_keep k1 HK1.out.but
      have c2 := cell_keep k2 HK1.out.but
      have c3 := cell_keep k3 HK1.out.but
      have hS := hS0.no HK1.out.but
      have HNA : Hid (0 < t.secs.length → ∀ bb oo, A' = some ⟨bb, oo, none⟩ → bb ≠ mb) := Lib.hid (fun h0 bb oo e => by
        obtain ⟨b9, o9, e9, hl9, _⟩ := hS0.at_ h0
        rw [e] at e9
        cases e9
        have := HK1.out.new
        omega)
      clear k0 k1 k2 k3 hS0
      have hts4 := HLN.out.2.2.2.2 t (List.mem_of_getElem? ht)
      have HTK := Lib.hid ht
      have HTF := Lib.hid (HR.out.fit t (List.mem_of_getElem? ht))
      have HS := Lib.hid hS
      obtain ⟨m', hm4⟩ : ∃ m', t.secs.length = m' := ⟨_, rfl⟩
      have HM := Lib.hid hm4
      rw [hm4] at c3 hcc HS hts4 HNA
      have CK : Hid (∀ W, But No wr W → Calls Try.prog 25 #[sysV s (some ⟨b, off, none⟩) n c, .slice B m d, .int .i64 k] W fun e w' => e = .returned (.int .i64 (cr s.co wh k)) ∧ But No W w') := fun W hb => CC.out k W (HK1.out.but.trans hb)
      unfold sysV at CK
      have HB8 := HK1.out.bs
      obtain ⟨d0, d1, d2, d3, d4, d5, d6, d7, d8⟩ := sys_cells (HB8.alloc (.cells #[.int .i64 t.p, .int .i64 t.d, .int .i64 t.w, .slice A' m' c'] 34))
      clear hS ht hm4 HB8
      rcases cr_cases s.co wh k with ⟨hcr, _⟩ | ⟨hkm, hcr0, hcr1, hcr2⟩
      · have HFL := Lib.hid (fl_none (ts := s.ts) hcr)
        rw [hcr] at CK
        clear hcr
        go_wp2_with (go_at_call 25; (with_reducible refine (CK.out _ ((But.refl No wr).alloc _)).mono ?_); rintro e w2 ⟨rfl, hbt⟩; have HK2 := Lib.hid (HK1.out.step (((But.refl No wr).alloc _).trans hbt)); clear hbt)
        go_roundw
        case rel => exact ⟨k + 1, by go_num, by omega, by rw [HFL.out]; exact HK2.out.more (by omega)⟩
        case measure => simp [intOf]; omega
      · have HC := Lib.hid hcr0
        obtain ⟨cc, hcc0⟩ : ∃ cc, cr s.co wh k = cc := ⟨_, rfl⟩
        have HCC := Lib.hid hcc0
        rw [hcc0] at CK hcr1 hcr2
        have hcn : decide (cc = -1) = false := by simp; omega
        have hcin : inR cc := by have := HLN.out.1; unfold inR; omega
        clear hcc0 hcr0
        go_wp2_with (go_at_call 25; (with_reducible refine (CK.out _ ((But.refl No wr).alloc _)).mono ?_); rintro e w2 ⟨rfl, hbt⟩; have HK2 := Lib.hid (HK1.out.step (((But.refl No wr).alloc _).trans hbt)); have hxt := (Blk.new wr #[.int .i64 t.p, .int .i64 t.d, .int .i64 t.w, .slice A' m' c'] 34).but hbt (fun f => f); have HXT := Lib.hid hxt; have HS2 := Lib.hid (HS.out.no (((But.refl No wr).alloc _).trans hbt)); have t3 : w2.cell? ⟨wr.heap.size, 3, none⟩ = some (.slice A' m' c') := hxt.cell (o := 3) rfl; clear hbt hxt)
        have HBT : Hid (wr.heap.size ≠ mb) := Lib.hid (by obtain ⟨D9, h9, _⟩ := HK1.out.om; have := World.ownsMap.lt h9; omega)
        generalize hbt : wr.heap.size = bt at HXT t3 HBT ⊢
        clear hbt c0 c1 c2 c3 HK1 HS CK d0 d1 d2 d3 d4 d5 d6 d7 d8
        rw [show (cc == -1) = false from by simp; omega]
        go_loopw [30] (fun i wr => ∃ j : Nat, i = .int .i64 (j : Int) ∧ j ≤ m' ∧ Hid (Lg w wr b1 mb s (some ⟨b, off, none⟩) n c (fl s.co wh s.ts k ++ enS cc (t.secs.take j)) (4 * k + j)) ∧ Hid (Blk wr bt (boxT t A' m' c') 34) ∧ Hid (RSec wr A' m' t.secs) ∧ Hid (bt ≠ mb ∧ (0 < m' → ∀ bb oo, A' = some ⟨bb, oo, none⟩ → bb ≠ mb))) (fun i _ => m' - (intOf i).toNat)
        case atStart => exact ⟨0, rfl, by omega, by rw [List.take_zero]; unfold enS; simp only [List.map_nil, ite_self, List.append_nil]; exact HK2.out, HXT, HS2, HBT.out, HNA.out⟩
        case round =>
          obtain ⟨j, rfl, hj, HKQ, HXQ, HSQ, HNE⟩ := hrel
          clear HK2 HXT HS2 t3
          by_cases hjm : j < m'
          · obtain ⟨x, hx⟩ : ∃ x, t.secs[j]? = some x := ⟨_, List.getElem?_eq_getElem (by rw [HM.out]; exact hjm)⟩
            obtain ⟨bb, oo, rfl, e1, e2, e3⟩ := HSQ.out.at1 hx
            have hxf := HSQ.out.fit x (List.mem_of_getElem? hx)
            have hxl := right_sec HRT.out (List.mem_of_getElem? HTK.out) (List.mem_of_getElem? hx)
            have HX := Lib.hid hx
            have HES := Lib.hid (enS_take (c := cc) (by omega) hx)
            clear hx
            obtain ⟨x0, x1, x2⟩ := x
            simp only at e1 e2 e3 hxf hxl
            obtain ⟨_, ⟨hx1, _⟩, ⟨hx2, hx3⟩⟩ := And.intro trivial hxl
            have KEY := Lib.hid (keyOf_two (a := cc) (b := x1) (wf_of hcin) (wf_of hxf.2.1))
            go_wp2_with fail
            obtain ⟨D, hO, hI⟩ := HKQ.out.om
            have hbw : But No wr ((wr.alloc (.cells #[.int .i64 x0, .int .i64 x1, .int .i64 x2] 36)).alloc (.cells #[.int .i64 cc, .int .i64 x1] 44)) := ((But.refl No wr).alloc _).alloc _
            have hO2 := OM.no hO hbw
            have p0 := (blk2 wr (.cells #[.int .i64 x0, .int .i64 x1, .int .i64 x2] 36) #[.int .i64 cc, .int .i64 x1] 44).cell (o := 0) rfl
            have p1 := (blk2 wr (.cells #[.int .i64 x0, .int .i64 x1, .int .i64 x2] 36) #[.int .i64 cc, .int .i64 x1] 44).cell (o := 1) rfl
            have p2 := ((Blk.new wr #[.int .i64 x0, .int .i64 x1, .int .i64 x2] 36).alloc (.cells #[.int .i64 cc, .int .i64 x1] 44)).cell (o := 2) rfl
            obtain ⟨M, hM⟩ : ∃ M, mx (fl s.co wh s.ts k ++ enS cc (t.secs.take j)) cc x1 = M := ⟨_, rfl⟩
            have hx1f := hxf.2.1
            generalize (wr.alloc (.cells #[.int .i64 x0, .int .i64 x1, .int .i64 x2] 36)).alloc (.cells #[.int .i64 cc, .int .i64 x1] 44) = W at *
            generalize wr.heap.size = bx at *
            have lk : (Instr.lookup 41 (.map (some mb)) (.agg #[.int .i64 cc, .int .i64 x1]) false).run Try.prog W.drew = .ok (.int .i64 M) W.drew := by
              have hO3 : OM W.drew mb (4 * k + j) D := hO2
              obtain ⟨c9, hrun, hat, _⟩ := hO3.lookup_int keyed Try.underlying41 Try.underlying3 (zero3 _) KEY.out
              have e := hI.zero hcin hx1f
              rw [hM] at e
              have : c9 = M := vl_inj (hat.symm.trans e)
              rw [← this]; exact hrun
            have HO2 := Lib.hid hO2
            have HBW := Lib.hid hbw
            have HI := Lib.hid hI
            have HXF := Lib.hid hxf
            have HMM := Lib.hid hM
            have mxb : 0 ≤ M ∧ M ≤ 1099511627776 := by rw [← HMM.out]; exact part_le HRT.out wh HTK.out cc cc x1
            clear hO hO2 hbw hI hxf hx1f hM
            go_still_tail 8, (by kernel_rfl)
            obtain ⟨V, hV⟩ : ∃ V, (if M < x2 then x2 else M) = V := ⟨_, rfl⟩
            have HVM : Hid (V = max M x2) := Lib.hid (by rw [← hV]; split <;> omega)
            have hVr : inR V := by have := HXF.out.2.2; have := mxb; rw [HVM.out]; unfold inR at *; omega
            rw [hV]
            clear hV
            go_wp2_with (at_mapUpdate; refine wpList_mapUpdate_in (H := Unit) _ rfl _ _ _ 41 rfl 44 3 keyed Try.underlying41 (plainElem Try.prog 3) mb (4 * k + j) D rfl (show OM W.drew mb (4 * k + j) D from HO2.out) (by unfold maxLen; omega) _ _ (kp cc x1) rfl rfl KEY.out (vl V) [] (plainElem_int Try.underlying3 (wf_of hVr)) ?_; intro w3 hown3 ht3; have HO3 := Lib.hid hown3; have HT3 := Lib.hid ht3; clear hown3 ht3)
            have HK3 := Lib.hid (HKQ.out.put (w2 := W.drew) (HBW.out.drewN 1) HO3.out HT3.out (by rw [HVM.out, ← HMM.out]; exact HI.out.put hcin HXF.out.2.1 hx2))
            have hb3 : But (Just mb) W w3 := ((But.refl (Just mb) W).drewN 1).turnedK HT3.out rfl
            have HX3 := Lib.hid ((HXQ.out.but HBW.out (fun f => f)).but hb3 HNE.out.1)
            have HS3 : Hid (RSec w3 (some ⟨bb, oo, none⟩) m' t.secs) := Lib.hid ((HSQ.out.no HBW.out).but hb3 HNE.out.2)
            clear hb3
            go_roundw
            case rel => exact ⟨j + 1, by go_num, by omega, by rw [HES.out, ← List.append_assoc]; exact HK3.out, HX3.out, HS3.out, HNE⟩
            case measure => simp [intOf]; omega
          · have hE : Hid (j = m') := Lib.hid (by omega)
            have b3 : decide ((j : Int) < (m' : Int)) = false := by simp; omega
            go_wp2
            go_roundw
            case rel => exact ⟨k + 1, by go_num, by omega, by
              have h1 := HKQ.out
              rw [hE.out, ← HM.out, List.take_length] at h1
              rw [fl_snoc HTK.out, HCC.out]
              exact h1.more (by rw [HM.out]; omega)⟩
            case measure => simp [intOf]; omega
    · have HE : Hid (k = n) := Lib.hid (by omega)
      have b3 : decide ((k : Int) < (n : Int)) = false := by simp; omega
      go_wp2
      go_ret
      obtain ⟨D, h1, h2⟩ := HK1.out.om
      refine ⟨mb, rfl, HK1.out.but, HK1.out.new, D, OM.more h1 (by omega), ?_⟩
      unfold F
      rw [HN.out, ← HE.out]
      exact h2
end Go.Proofs.Ytfmhejeeeglmdaa.ter
