/- The walk of ValidOrder. -/
import Derived.Test.YtdhaijmdnknekaaO
namespace Go.Proofs.Ytdhaijmdnknekaa
open Go.ChangeShapes Go.WideShapes Go.ChangeAt Go.RowKit Go.Deep
theorem Reads.at4 {w : World} {B n k : Nat} {A : Option Addr} {L : List (Tsk × Value)} {x : Tsk × Value} (h : Reads w B 4 A n (L.flatMap tvC)) (hn : L.length = n) (hx : L[k]? = some x) :
    ∃ b off, A = some ⟨b, off, none⟩ ∧ b < B ∧ w.cell? ⟨b, off + k * 4, none⟩ = some (.int .i64 x.1.p) ∧ w.cell? ⟨b, off + k * 4 + 1, none⟩ = some (.int .i64 x.1.d) ∧ w.cell? ⟨b, off + k * 4 + 2, none⟩ = some (.int .i64 x.1.w) ∧ w.cell? ⟨b, off + k * 4 + 3, none⟩ = some x.2 := by
  have hk : k < L.length := (List.getElem?_eq_some_iff.1 hx).1
  obtain ⟨ad, rfl, hb, hc⟩ := h.2 (by omega)
  have e0 := hc _ _ (flat_at (f := tvC) (m := 4) (fun _ => rfl) hx (i := 0) (by omega))
  have e1 := hc _ _ (flat_at (f := tvC) (m := 4) (fun _ => rfl) hx (i := 1) (by omega))
  have e2 := hc _ _ (flat_at (f := tvC) (m := 4) (fun _ => rfl) hx (i := 2) (by omega))
  have e3 := hc _ _ (flat_at (f := tvC) (m := 4) (fun _ => rfl) hx (i := 3) (by omega))
  obtain ⟨b, off, spot⟩ := ad
  have hx0 := List.getElem?_eq_getElem (l := L) (i := 0) (by omega)
  have c0 := hc _ _ (flat_at (f := tvC) (m := 4) (fun _ => rfl) hx0 (i := 0) (by omega))
  have hspot : spot = none := by simpa [Addr.add] using World.cell?_spot c0
  subst hspot
  rw [add_plain] at e0 e1 e2 e3
  exact ⟨b, off, rfl, hb, e0, e1, e2, e3⟩
theorem Reads.but {w w' : World} {B n size : Nat} {A : Option Addr} {xs : List Value} {S : Nat → Prop} (h : Reads w B size A n xs) (hb : But S w w') (hs : ∀ ad : Addr, A = some ad → ¬ S ad.block) (hB : B ≤ w.heap.size) : Reads w' B size A n xs := by
  refine ⟨h.1, fun hn => ?_⟩
  obtain ⟨ad, e, hl, hc⟩ := h.2 hn
  refine ⟨ad, e, hl, fun j u hu => ?_⟩
  have := hc j u hu
  rw [← this]
  exact World.cell?_of_block (hb.block _ (by rw [block_of_add]; omega) (by rw [block_of_add]; exact hs ad e))
theorem drop_rev {α : Type} {l : List α} {k : Nat} {x : α} (h : l[k]? = some x) : (l.drop k).reverse = (l.drop (k + 1)).reverse ++ [x] := by
  obtain ⟨hk, rfl⟩ := List.getElem?_eq_some_iff.1 h
  rw [List.drop_eq_getElem_cons hk, List.reverse_cons]
def OB (v : Value) : Nat → Prop := fun k => v.ownBlock = some k
theorem grown_but {w w' : World} {v : Value} (h : w.grownBy w' v.ownBlock) : But (OB v) w w' := (But.refl _ w).grown h (fun _ e => .inl e)
/-- A row of tasks of the law's own. -/
structure Og (w0 w : World) (v : Value) (n : Nat) (L : List (Tsk × Value)) : Prop where
  own : w.ownsRow 0 35 4 v n (L.flatMap tvC)
  new : ∀ j, v.ownBlock = some j → w0.heap.size ≤ j
theorem Og.nil {w0 w : World} : Og w0 w (.slice none 0 0) 0 [] := ⟨World.ownsRow_nil _ _ _ _, own_none⟩
theorem Og.but {w0 w w' : World} {v : Value} {n : Nat} {L : List (Tsk × Value)} {S : Nat → Prop} (h : Og w0 w v n L) (hb : But S w w') (hs : ∀ j, v.ownBlock = some j → ¬ S j) : Og w0 w' v n L := ⟨owns_but h.own hb hs, h.new⟩
namespace validOrder
set_option maxRecDepth 100000 in
set_option maxHeartbeats 4000000 in
theorem walk (s : Sys) (A : Option Addr) (c : Nat) (hbnd : s.ts.length ≤ 10000000) (w : World) (h : RSys w A s.ts.length c s) : Calls Try.prog 6 #[sysV s A s.ts.length c] w fun e w' => e = .returned (.bool true) ∧ But No w w' := by
  obtain ⟨n, hn⟩ : ∃ n, s.ts.length = n := ⟨_, rfl⟩
  rw [hn] at h hbnd ⊢
  have HN := Lib.hid hn
  obtain ⟨L, hL1, hL2, hL3, hL4⟩ := h.ts.vals
  have HL1 := Lib.hid hL1
  have HL2 := Lib.hid hL2
  have HTV := Lib.hid hL3
  have HRD := Lib.hid hL4
  clear hn hL1 hL2 hL3 hL4
  have CX : ∀ W, Hid (Calls Try.prog 7 #[] W fun e w' => e = .returned (.bool true) ∧ But No W w') := fun W => examples_any W
  have CT : Hid (∀ (W : World) (A' : Option Addr) (n' c' : Nat) (ts' : List Tsk), n' ≤ c' → RTsk W A' n' ts' → Calls Try.prog 10 #[.agg #[.int .i64 s.co, .int .i64 s.po, .int .i64 s.pr, .int .i64 s.re, .int .i64 s.sw, .int .i64 s.fi, .int .i64 s.la, .int .i64 s.rs, .slice A' n' c']] W fun e w' => e = .returned (.bool (right { s with ts := ts' })) ∧ But No W w') := fun W A' n' c' ts' hc ht => right_any { s with ts := ts' } A' n' c' W ⟨hc, ht, h.fit⟩
  have HR := Lib.hid h.ts
  have hcap := h.cap
  clear h
  obtain ⟨i0, hi0, hi1, hi2, hi3⟩ := info_parts info35
  have I0 : Hid (Try.prog.info? 35 = some i0 ∧ i0.zero = some (.agg #[.int .i64 0, .int .i64 0, .int .i64 0, .slice none 0 0]) ∧ i0.size = 4 ∧ i0.bytes = 48) := ⟨hi0, hi1, hi2, hi3⟩
  clear hi0 hi1 hi2 hi3
  unfold sysV
  go_enter Try.func6, Try.ntmps6
  have HX : Hid (Blk (w.alloc (.cells #[.int .i64 s.co, .int .i64 s.po, .int .i64 s.pr, .int .i64 s.re, .int .i64 s.sw, .int .i64 s.fi, .int .i64 s.la, .int .i64 s.rs, .slice A n c] 24)) w.heap.size (boxS s A n c) 24) := Blk.new w _ _
  go_wp2_with (go_at_call 7; refine (CX _).out.mono ?_; rintro e w1 ⟨rfl, hb1⟩; have HB1 := Lib.hid (((But.refl No w).alloc _).trans hb1); have HX1 := Lib.hid (HX.out.but hb1 (fun f => f)); clear hb1; obtain ⟨d0, d1, d2, d3, d4, d5, d6, d7, d8⟩ := sys_cells HX1.out)
  clear d0 d1 d2 d3 d4 d5 d6 d7 d8
  obtain ⟨b1, hb1⟩ : ∃ b1, w.heap.size = b1 := ⟨_, rfl⟩
  rw [hb1] at HX1 ⊢
  have HNB := Lib.hid hb1
  clear hb1 CX HX
  go_loopw [4, 5] (fun u i wr => ∃ (A' : Option Addr) (n' c' k : Nat) (z : Int), u = .slice A' n' c' ∧ i = .int .i64 z ∧ z + 1 = k ∧ k ≤ n ∧ Hid (n' + k = n) ∧ n' ≤ 10000000 ∧ Hid (But No w wr) ∧ Hid (Blk wr b1 (boxS s A n c) 24) ∧ Hid (Og w wr (.slice A' n' c') n' (L.drop k).reverse) ∧ Hid (¬ OB (.slice A' n' c') b1)) (fun _ i _ => (intOf i + 1).toNat)
  case atStart => exact ⟨none, 0, 0, n, _, rfl, rfl, by omega, by omega, Nat.zero_add _, by omega, HB1, HX1, by rw [List.drop_of_length_le (by rw [HL2.out]; exact Nat.le_refl _)]; exact Og.nil, fun f => by simp [OB, Value.ownBlock] at f⟩
  case round =>
    obtain ⟨A', n', c', k, z, rfl, rfl, hz, hk, HNK, hn7, HB, HXR, HO, HNO⟩ := hrel
    clear HB1 HX1
    by_cases hlt : 0 < k
    · obtain ⟨k', rfl⟩ : ∃ k' : Nat, z = (k' : Int) := ⟨k - 1, by omega⟩
      obtain rfl : k = k' + 1 := by omega
      obtain ⟨x, hx⟩ : ∃ x, L[k']? = some x := ⟨_, List.getElem?_eq_getElem (by rw [HL2.out]; omega)⟩
      have hkn : k' < n := by omega
      obtain ⟨b, off, rfl, _, c0, c1, c2, c3⟩ := (HRD.out.no HB.out (Nat.le_refl _)).at4 HL2.out hx
      obtain ⟨⟨A2, c2', hv, _, _⟩, _⟩ := HTV.out x (List.mem_of_getElem? hx)
      have HXK := Lib.hid hx
      obtain ⟨⟨tp, td, tw, tss⟩, v⟩ := x
      simp only at hv
      subst hv
      simp only at c0 c1 c2 c3
      obtain ⟨m, hm⟩ : ∃ m, tss.length = m := ⟨_, rfl⟩
      rw [hm] at c3
      have HM := Lib.hid hm
      have d8 : wr.cell? ⟨b1, 8, none⟩ = some (.slice (some ⟨b, off, none⟩) n c) := HXR.out.cell (o := 8) rfl
      clear hx hm hz
      go_wp2_with (at_builtin; refine wpList_append_sh _ rfl _ _ 22 rfl 35 i0 _ 4 48 Try.underlying22 I0.out.1 I0.out.2.1 I0.out.2.2.1 I0.out.2.2.2 rfl (by omega) (.slice A' n' c') n' _ rfl (HO.out.own.alloc _) (wr.heap.size + 1) (some ⟨wr.heap.size, 0, none⟩) 1 1 [.int .i64 tp, .int .i64 td, .int .i64 tw, .slice A2 m c2'] rfl (reads_tsk wr _ _ _ _) (cells_tsk _ _ _ _ _ _) (by unfold maxLen; omega) (by omega) ?_; intro A3 c3 w3 hown hgrow hat; have HG := Lib.hid hgrow; have HAT := Lib.hid hat; have HOW := Lib.hid hown; clear hown hgrow hat)
      have HG2 : Hid (But (OB (.slice A' n' c')) wr w3) := ((But.refl _ wr).alloc _).grown HG.out (fun _ e => .inl e)
      have HLT : Hid (∀ j, (Value.slice A' n' c').ownBlock = some j → j < wr.heap.size) := fun j e => (HO.out.own.lt j e).2
      go_roundw
      case rel =>
        refine ⟨A3, n' + 1, c3, k', (k' : Int) - 1, rfl, by go_num, by omega, by omega, by have := HNK.out; show _ = _; omega, by have := HNK.out; omega, HB.out.andThen HG2.out (fun j hj => .inr (HO.out.new j hj)), HXR.out.but HG2.out HNO.out, ⟨?_, ?_⟩, ?_⟩
        · have := HOW.out
          rw [drop_rev HXK.out, List.flatMap_append]
          have e1 : [((⟨tp, td, tw, tss⟩ : Tsk), Value.slice A2 tss.length c2')].flatMap tvC = [.int .i64 tp, .int .i64 td, .int .i64 tw, .slice A2 m c2'] := by rw [← HM.out]; rfl
          rw [e1]; exact this
        · have := HB.out.size
          exact own_new HO.out.new HAT.out (by rw [size_alloc1]; omega)
        · intro f
          rcases HAT.out with e | e
          · exact HNO.out (by unfold OB at f ⊢; rw [← e]; exact f)
          · unfold OB at f
            rw [e] at f
            have := HXR.out.lt
            cases f
            rw [size_alloc1] at this
            omega
      case measure => simp [intOf]
    · obtain rfl : k = 0 := by omega
      obtain rfl : z = -1 := by omega
      obtain rfl : n' = n := by have := HNK.out; omega
      rw [List.drop_zero] at HO
      clear HNK hz hk hlt
      obtain ⟨d0, d1, d2, d3, d4, d5, d6, d7, d8⟩ := sys_cells HXR.out
      go_upto_region 9 with fail
      clear d0 d1 d2 d3 d4 d5 d6 d7 d8
      obtain ⟨b2, hb2⟩ : ∃ b2, wr.heap.size = b2 := ⟨_, rfl⟩
      obtain ⟨wa, hwa, HBa, HXa, HTa, HOa, HNa⟩ : ∃ wa, wr.alloc (.cells #[.int .i64 s.co, .int .i64 s.po, .int .i64 s.pr, .int .i64 s.re, .int .i64 s.sw, .int .i64 s.fi, .int .i64 s.la, .int .i64 s.rs, .slice A' n' c'] 24) = wa ∧ Hid (But No w wa) ∧ Hid (Blk wa b1 (boxS s A n' c) 24) ∧ Hid (Blk wa b2 (boxS s A' n' c') 24) ∧ Hid (Og w wa (.slice A' n' c') n' L.reverse) ∧ Hid (¬ OB (.slice A' n' c') b1 ∧ ¬ OB (.slice A' n' c') b2 ∧ b1 ≠ b2 ∧ w.heap.size ≤ b1 ∧ w.heap.size ≤ b2) := by
        subst hb2
        have h1 := HXR.out.lt
        have h2 := HB.out.size
        have h3 := HNB.out
        exact ⟨_, rfl, HB.out.alloc _, HXR.out.alloc _, Blk.new _ _ _, HO.out.but ((But.refl No wr).alloc _) (fun _ _ f => f), HNO.out, fun f => by have := (HO.out.own.lt _ f).2; omega, by omega, by omega, by omega⟩
      rw [hwa, hb2]
      clear hwa hb2 HB HXR HO HNO
      obtain ⟨d0, d1, d2, d3, d4, d5, d6, d7, d8⟩ := sys_cells HXa.out
      go_upto_region 10 with fail
      clear d0 d1 d2 d3 d4 d5 d6 d7 d8
      obtain ⟨b3, hb3⟩ : ∃ b3, wa.heap.size = b3 := ⟨_, rfl⟩
      obtain ⟨wb, hwb, HBb, HXb, HTb, HUb, HOb, HNb⟩ : ∃ wb, wa.alloc (.cells #[.int .i64 s.co, .int .i64 s.po, .int .i64 s.pr, .int .i64 s.re, .int .i64 s.sw, .int .i64 s.fi, .int .i64 s.la, .int .i64 s.rs, .slice A n' c] 24) = wb ∧ Hid (But No w wb) ∧ Hid (Blk wb b1 (boxS s A n' c) 24) ∧ Hid (Blk wb b2 (boxS s A' n' c') 24) ∧ Hid (Blk wb b3 (boxS s A n' c) 24) ∧ Hid (Og w wb (.slice A' n' c') n' L.reverse) ∧ Hid ((¬ OB (.slice A' n' c') b1 ∧ ¬ OB (.slice A' n' c') b2 ∧ b1 ≠ b2 ∧ w.heap.size ≤ b1 ∧ w.heap.size ≤ b2) ∧ ¬ OB (.slice A' n' c') b3 ∧ b1 ≠ b3 ∧ b2 ≠ b3 ∧ w.heap.size ≤ b3) := by
        subst hb3
        have h1 := HXa.out.lt
        have h4 := HTa.out.lt
        have h2 := HBa.out.size
        exact ⟨_, rfl, HBa.out.alloc _, HXa.out.alloc _, HTa.out.alloc _, Blk.new _ _ _, HOa.out.but ((But.refl No wa).alloc _) (fun _ _ f => f), HNa.out, fun f => by have := (HOa.out.own.lt _ f).2; omega, by omega, by omega, by omega⟩
      rw [hwb, hb3]
      clear hwb hb3 HBa HXa HTa HOa HNa
      have HCL : Hid (n' ≤ c') := by
        rcases HOb.out.own.2 with ⟨h1, h2⟩ | ⟨g, cap, cur, hv, _, _, hc, _⟩
        · cases h1; exact Nat.le_refl _
        · cases hv; exact hc
      have d8 : wb.cell? ⟨b1, 8, none⟩ = some (.slice A n' c) := HXb.out.cell (o := 8) rfl
      have HRB := Lib.hid (HRD.out.no HBb.out (Nat.le_refl _))
      have HON : Hid (∀ u ∈ L.flatMap tvC, u.oneCell' = true) := flat_one L (fun x hx => by obtain ⟨⟨A, c, e, _⟩, _⟩ := HTV.out x hx; exact ⟨A, _, c, e⟩)
      go_upto_region 11 with (at_builtin; refine wpList_append_keeps _ rfl _ _ 22 rfl 35 i0 _ 4 48 Try.underlying22 I0.out.1 I0.out.2.1 I0.out.2.2.1 I0.out.2.2.2 rfl (by omega) A' n' c' _ rfl HOb.out.own w.heap.size A n' c (L.flatMap tvC) rfl HRB.out HON.out (by unfold maxLen; omega) (by omega) ?_; intro A2 c2 w2 hown hgrow hat hold; have HG := Lib.hid (grown_but hgrow); have HAT := Lib.hid hat; have HOW := Lib.hid hown; have HOLD := Lib.hid hold; have u8 : w2.cell? ⟨b3, 8, none⟩ = some (.slice A n' c) := (HUb.out.but HG.out HNb.out.2.1).cell (o := 8) rfl; have f8 : w2.frozen? ⟨b3, 8, none⟩ = false := (HUb.out.but HG.out HNb.out.2.1).frozen 8; clear hown hgrow hat hold)
      clear u8 f8 d8
      obtain ⟨m, hm⟩ : ∃ m, n' + n' = m := ⟨_, rfl⟩
      have HM := Lib.hid hm
      rw [hm] at HOW HAT ⊢
      obtain ⟨wd, hwd, HBd, HXd, HTd, HUd, HR1, HR2, HR3⟩ : ∃ wd, w2.setCell ⟨b3, 8, none⟩ (.slice A2 m c2) = wd ∧ Hid (But No w wd) ∧ Hid (Blk wd b1 (boxS s A n' c) 24) ∧ Hid (Blk wd b2 (boxS s A' n' c') 24) ∧ Hid (Blk wd b3 (boxS s A2 m c2) 24) ∧ Hid (RTsk wd A n' s.ts) ∧ Hid (RTsk wd A' n' s.ts.reverse) ∧ Hid (m ≤ c2 ∧ RTsk wd A2 m (s.ts.reverse ++ s.ts)) := by
        obtain ⟨⟨k1, k2, k3, k4, k5⟩, k6, k7, k8, k9⟩ := HNb.out
        have hB2 : But No w w2 := HBb.out.andThen HG.out (fun j hj => .inr (HOb.out.new j hj))
        have hBd : But No w (w2.setCell ⟨b3, 8, none⟩ (.slice A2 m c2)) := hB2.setNew k9 _
        have hJ : But (Just b3) w2 (w2.setCell ⟨b3, 8, none⟩ (.slice A2 m c2)) := (But.refl (Just b3) w2).setCell (p := ⟨b3, 8, none⟩) (just b3) _
        have hx1 := (HXb.out.but HG.out k1).other (a := ⟨b3, 8, none⟩) k7 (.slice A2 m c2)
        have hx2 := (HTb.out.but HG.out k2).other (a := ⟨b3, 8, none⟩) k8 (.slice A2 m c2)
        have hx3 := (HUb.out.but HG.out k6).set 8 (.slice A2 m c2)
        have hl3 := HUb.out.lt
        have htv : ∀ x ∈ L, Tv (w2.setCell ⟨b3, 8, none⟩ (.slice A2 m c2)) x := fun x hx => (HTV.out x hx).no hBd
        have hcap2 : m ≤ c2 := by
          rcases HOW.out.2 with ⟨h1, h2⟩ | ⟨g, cap, cur, hv, _, _, hc, _⟩
          · cases h1; omega
          · cases hv; exact hc
        have rd2 : Reads (w2.setCell ⟨b3, 8, none⟩ (.slice A2 m c2)) _ 4 A' n' (L.reverse.flatMap tvC) := HOLD.out.but hJ (fun ad e f => k6 (by subst e; cases f; simp [OB, Value.ownBlock])) (Nat.le_refl _)
        have hne : (Value.slice A2 m c2).ownBlock ≠ some b3 := fun f => by
          rcases HAT.out with e | e
          · exact k6 (by unfold OB; rw [← e]; exact f)
          · rw [e] at f; cases f; omega
        have rd3 := Reads.of_own (owns_but HOW.out hJ (fun j hj f => hne (by cases f; exact hj)))
        rw [← List.flatMap_append] at rd3
        refine ⟨_, rfl, hBd, hx1, hx2, hx3, HR.out.no hBd, ?_, hcap2, ?_⟩
        · have := reads_rtsk rd2 (by rw [List.length_reverse]; exact HL2.out) (by omega) (fun x hx => htv x (List.mem_reverse.1 hx))
          rw [List.map_reverse, HL1.out] at this
          exact this
        · have := reads_rtsk rd3 (by rw [List.length_append, List.length_reverse, HL2.out]; exact HM.out) (by omega) (fun x hx => htv x (by simpa using hx))
          rw [List.map_append, List.map_reverse, HL1.out] at this
          exact this
      rw [hwd]
      clear hwd HBb HXb HTb HUb HOb HNb HG HAT HOW HOLD HRB HON
      obtain ⟨r, hr⟩ : ∃ r, right s = r := ⟨_, rfl⟩
      have C1 : Hid (∀ W, But No wd W → Calls Try.prog 10 #[.agg #[.int .i64 s.co, .int .i64 s.po, .int .i64 s.pr, .int .i64 s.re, .int .i64 s.sw, .int .i64 s.fi, .int .i64 s.la, .int .i64 s.rs, .slice A n' c]] W fun e w' => e = .returned (.bool r) ∧ But No W w') := fun W hb => by rw [← hr]; exact CT.out W A n' c s.ts hcap (HR1.out.no hb)
      have C2 : Hid (∀ W, But No wd W → Calls Try.prog 10 #[.agg #[.int .i64 s.co, .int .i64 s.po, .int .i64 s.pr, .int .i64 s.re, .int .i64 s.sw, .int .i64 s.fi, .int .i64 s.la, .int .i64 s.rs, .slice A' n' c']] W fun e w' => e = .returned (.bool r) ∧ But No W w') := fun W hb => by rw [← hr, ← right_rev]; exact CT.out W A' n' c' s.ts.reverse HCL.out (HR2.out.no hb)
      have C3 : Hid (m ≤ 24 → ∀ W, But No wd W → Calls Try.prog 10 #[.agg #[.int .i64 s.co, .int .i64 s.po, .int .i64 s.pr, .int .i64 s.re, .int .i64 s.sw, .int .i64 s.fi, .int .i64 s.la, .int .i64 s.rs, .slice A2 m c2]] W fun e w' => e = .returned (.bool r) ∧ But No W w') := fun hm W hb => by rw [← hr, ← right_twice s (by rw [HN.out]; have := HM.out; omega)]; exact CT.out W A2 m c2 _ HR3.out.1 (HR3.out.2.no hb)
      have hm7 : m ≤ 20000000 := by omega
      clear hr hm HM CT HR1 HR2 HR3
      obtain ⟨d0, d1, d2, d3, d4, d5, d6, d7, d8⟩ := sys_cells HXd.out
      by_cases hbig : 24 < m
      · have q1 : decide (24 < m) = true := by simpa using hbig
        have q2 : decide ((24 : Int) < (m : Int)) = true := by simp; omega
        go_wp2_with (go_at_call 10; first | (refine (C1.out _ (But.refl No wd)).mono ?_; rintro e w5 ⟨rfl, hb5⟩; have HB5 := Lib.hid hb5; clear d0 d1 d2 d3 d4 d5 d6 d7 d8; obtain ⟨d0, d1, d2, d3, d4, d5, d6, d7, d8⟩ := sys_cells (HTd.out.but hb5 (fun f => f)); clear hb5) | (refine (C2.out _ HB5.out).mono ?_; rintro e w6 ⟨rfl, hb6⟩; have HB6 := Lib.hid (HB5.out.trans hb6); clear d0 d1 d2 d3 d4 d5 d6 d7 d8; obtain ⟨d0, d1, d2, d3, d4, d5, d6, d7, d8⟩ := sys_cells (HUd.out.but HB6.out (fun f => f)); clear hb6))
        go_ret
        exact ⟨by simp, HBd.out.trans HB6.out⟩
      · have q1 : decide (24 < m) = false := by simp; omega
        have q2 : decide ((24 : Int) < (m : Int)) = false := by simp; omega
        have C4 := Lib.hid (C3.out (by omega))
        go_wp2_with (go_at_call 10; first | (refine (C1.out _ (But.refl No wd)).mono ?_; rintro e w5 ⟨rfl, hb5⟩; have HB5 := Lib.hid hb5; clear d0 d1 d2 d3 d4 d5 d6 d7 d8; obtain ⟨d0, d1, d2, d3, d4, d5, d6, d7, d8⟩ := sys_cells (HTd.out.but hb5 (fun f => f)); clear hb5) | (refine (C2.out _ HB5.out).mono ?_; rintro e w6 ⟨rfl, hb6⟩; have HB6 := Lib.hid (HB5.out.trans hb6); clear d0 d1 d2 d3 d4 d5 d6 d7 d8; obtain ⟨d0, d1, d2, d3, d4, d5, d6, d7, d8⟩ := sys_cells (HUd.out.but HB6.out (fun f => f)); clear hb6) | (refine (C4.out _ HB6.out).mono ?_; rintro e w7 ⟨rfl, hb7⟩; have HB7 := Lib.hid (HB6.out.trans hb7); clear hb7))
        go_ret
        exact ⟨by simp, HBd.out.trans HB7.out⟩
end validOrder
end Go.Proofs.Ytdhaijmdnknekaa
