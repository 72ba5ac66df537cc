/- The document's queue: All, First. -/
import Derived.Test.YtbfmoaojimimjaaR4
namespace Go.Proofs.Ytbfmoaojimimjaa
open Go.ChangeShapes Go.WideShapes Go.ChangeAt Go.RowKit Go.Deep
/-- Two rows of the call's own: what is told, who is left. -/
structure Two (w0 w : World) (vo vl : Value) (zs : List Int) (K : List One) : Prop where
  o : Ov w vo zs
  l : Oi w vl K
  but : But No w0 w
  no : ∀ j, vo.ownBlock = some j → w0.heap.size ≤ j
  nl : ∀ j, vl.ownBlock = some j → w0.heap.size ≤ j
  ne : ∀ j, vo.ownBlock = some j → vl.ownBlock ≠ some j
section
variable {w0 w w1 w2 : World} {vo vl : Value} {zs : List Int} {K : List One} {n n' c c' b m cap : Nat} {A A' A1 A2 : Option Addr} {z : Int}
theorem Two.stay (h : Two w0 w vo vl zs K) (hb : But No w w1) : Two w0 w1 vo vl zs K := ⟨h.o.but hb (fun _ _ f => f), h.l.but hb (fun _ _ f => f), h.but.trans hb, h.no, h.nl, h.ne⟩
theorem Two.out (h : Two w0 w (.slice A n c) vl zs K) (hn : zs.length = n) (ob : Obj) (ho : w2.ownsRow 0 3 1 (.slice A' (n + 1) c') (n + 1) (zs.map (Value.int .i64) ++ [.int .i64 z])) (hg : (w.alloc ob).grownBy w2 (Value.slice A n c).ownBlock)
    (hat : (Value.slice A' (n + 1) c').ownBlock = (Value.slice A n c).ownBlock ∨ (Value.slice A' (n + 1) c').ownBlock = some (w.alloc ob).heap.size) : Two w0 w2 (.slice A' (n + 1) c') vl (zs ++ [z]) K := by
  have hs := h.but.size
  have hV : But (fun k => (Value.slice A n c).ownBlock = some k) w w2 := ((But.refl _ w).alloc _).grown hg (fun k e => .inl e)
  refine ⟨?_, h.l.but hV (fun k e e2 => h.ne k e2 e), h.but.andThen hV (fun k hk => .inr (h.no k hk)), ?_, h.nl, ?_⟩
  · unfold Ov; rw [List.length_append, List.map_append, hn]; exact ho
  · refine own_new h.no hat ?_
    simp; omega
  · intro j e e2
    rcases hat with g | g
    · exact h.ne j (by rw [← g]; exact e) e2
    · rw [g] at e
      have : j = w.heap.size + 1 := by simpa using e.symm
      have := (World.ownsRow.lt h.l j e2).2
      omega
theorem Two.rest (h : Two w0 w vo vl zs K) (hK : K.length = n') (hb : b < n') (_ : w1.ownsRow 0 59 4 (.slice A1 b c) b (flat (K.take b))) (hg1 : w.grownBy w1 (Value.slice none 0 0).ownBlock) (hat1 : (Value.slice A1 b c).ownBlock = (Value.slice none 0 0).ownBlock ∨ (Value.slice A1 b c).ownBlock = some w.heap.size)
    (ho2 : w2.ownsRow 0 59 4 (.slice A2 (b + (n' - m)) c') (b + (n' - m)) (flat (K.take b) ++ flat (K.drop m))) (hm : m = b + 1) (hg2 : w1.grownBy w2 (Value.slice A1 b c).ownBlock) (hat2 : (Value.slice A2 (b + (n' - m)) c').ownBlock = (Value.slice A1 b c).ownBlock ∨ (Value.slice A2 (b + (n' - m)) c').ownBlock = some w1.heap.size) :
    Two w0 w2 vo (.slice A2 (b + (n' - m)) c') zs (K.take b ++ K.drop (b + 1)) ∧ b + (n' - m) = (K.take b ++ K.drop (b + 1)).length := by
  subst hm
  have hs := h.but.size
  have hb1 : But No w w1 := (But.refl No w).grown hg1 (fun k e => by simp [Value.ownBlock] at e)
  have hs1 := hb1.size
  have own1 : ∀ j, (Value.slice A1 b c).ownBlock = some j → w.heap.size ≤ j := own_new own_none hat1 (Nat.le_refl _)
  have own2 : ∀ j, (Value.slice A2 (b + (n' - (b + 1))) c').ownBlock = some j → w.heap.size ≤ j := own_new own1 hat2 hs1
  have hb2 : But (fun k => (Value.slice A1 b c).ownBlock = some k) w1 w2 := (But.refl _ w1).grown hg2 (fun k e => .inl e)
  have h1 := h.stay hb1
  have e : b + (n' - (b + 1)) = (K.take b ++ K.drop (b + 1)).length := by rw [List.length_append, List.length_take, List.length_drop, hK]; omega
  have olt : ∀ j, vo.ownBlock = some j → j < w.heap.size := fun j ej => (World.ownsRow.lt h.o j ej).2
  refine ⟨⟨h1.o.but hb2 (fun j ej e2 => ?_), ?_, h1.but.andThen hb2 (fun k hk => ?_), h.no, fun j ej => ?_, fun j ej e2 => ?_⟩, e⟩
  · have := own1 j e2; have := olt j ej; omega
  · unfold Oi
    rw [flat_app, ← e]; exact ho2
  · have := own1 k hk; exact .inr (by omega)
  · have := own2 j ej; omega
  · have := own2 j e2; have := olt j ej; omega
end
theorem oi_reads {w : World} {A : Option Addr} {n c : Nat} {K : List One} (h : Oi w (.slice A n c) K) (hn : K.length = n) : Reads w w.heap.size 4 A n (flat K) := by
  unfold Oi at h
  rw [hn] at h
  exact Reads.of_own h
theorem reads_take {w : World} {A : Option Addr} {n k : Nat} {K : List One} (h : Reads w w.heap.size 4 A n (flat K)) (hn : K.length = n) (hk : k < n) : Reads w w.heap.size 4 A k (flat (K.take k)) := by
  refine ⟨by rw [flat_len, List.length_take]; congr 1; omega, fun hp => ?_⟩
  obtain ⟨ad, e, hb, hcc⟩ := h.2 (by omega)
  refine ⟨ad, e, hb, fun j u hu => hcc j u ?_⟩
  rw [flat_take K k (by omega), List.getElem?_take] at hu
  split at hu
  · exact hu
  · cases hu
theorem keep_reads {w w' : World} {A : Option Addr} {n : Nat} {xs : List Value} (h : Reads w w.heap.size 4 A n xs) (hb : But No w w') : Reads w' w.heap.size 4 A n xs := h.keep fun p hp => World.cell?_of_block (hb.block p.block hp (fun f => f))
theorem slice_to {A : Option Addr} {n k c : Nat} (hk : k ≤ c) (W : World) : (Instr.slice 52 (.slice A n c) none (some (.int .i64 (k : Int))) none).run Try.prog W = .ok (.slice A k c) W := by
  obtain ⟨i0, hi0, hi1, hi2, hi3⟩ := info_parts info59
  have he : Try.prog.elem 52 = 59 := by kernel_rfl
  have ht : Try.prog.underlying 52 = some (.slice (Try.prog.elem 52)) := by rw [he]; exact Try.underlying52
  rw [run_slice_h (P := Try.prog) W 52 A n c ht .i64 (k : Int) (by omega) (by omega), he]
  simp [sizeOf, typeInfo, hi0, sliced, Addr.add]
theorem slice_from {A : Option Addr} {n k c : Nat} (hk : k ≤ n) (W : World) : (Instr.slice 52 (.slice A n c) (some (.int .i64 (k : Int))) none none).run Try.prog W = .ok (.slice (if c = k then A else A.map (·.add (k * 4))) (n - k) (c - k)) W := by
  obtain ⟨i0, hi0, hi1, hi2, hi3⟩ := info_parts info59
  have he : Try.prog.elem 52 = 59 := by kernel_rfl
  have ht : Try.prog.underlying 52 = some (.slice (Try.prog.elem 52)) := by rw [he]; exact Try.underlying52
  rw [run_slice_l (P := Try.prog) W 52 A n c ht .i64 (k : Int) (by omega) (by omega), he]
  simp [sizeOf, typeInfo, hi0, sliced, hi2]
/-- What All gives: the tasks, in a row of its own. -/
def RAll (w : World) (L : List E) (e : Ending) (w' : World) : Prop :=
  ∃ A c, e = .returned (.slice A L.length c) ∧ Ov w' (.slice A L.length c) (L.map E.t) ∧ But No w w'
structure Best2 (K : List One) (j b : Nat) : Prop where
  lt : b < j
  min : ∀ i, i < j → ke (toE (K.getD b o0)) ≤ ke (toE (K.getD i o0))
theorem Best2.start (K : List One) : Best2 K 1 0 := ⟨by omega, fun i hi => by
  obtain rfl : i = 0 := by omega
  exact Int.le_refl _⟩
set_option maxHeartbeats 8000000 in
set_option maxRecDepth 100000 in
theorem rall_any (x : Nat) (R : Int) (K : List One) (L : List E) (S : Nat → Prop) (w : World) (h : RF w S x R K) (hr : Rel K L) (hq : QOK L) :
    Calls Try.prog 23 #[.pointer (some ⟨x, 0, none⟩)] w (RAll w L) := by
  have hl := h.len
  obtain ⟨v, h1, h2, h3, h4⟩ := h.ex
  obtain ⟨A, c, rfl, hc⟩ := h2.slice
  have hcell : w.cell? ⟨x, 1, none⟩ = some (.slice A K.length c) := h1.cell (o := 1) rfl
  have HRD := Lib.hid (oi_reads h2 rfl)
  have HR := Lib.hid hr
  have HQ := Lib.hid hq
  obtain ⟨i0, hi0, hz0, hz1, hz2⟩ := info_parts info59
  have I0 : Hid (Try.prog.info? 59 = some i0 ∧ i0.zero = some (.agg #[.int .i64 0, .int .i64 0, .int .i64 0, .bool false]) ∧ i0.size = 4 ∧ i0.bytes = 32) := ⟨hi0, hz0, hz1, hz2⟩
  obtain ⟨i3, hj0, hk0, hk1, hk2⟩ := info_parts info3
  have I3 : Hid (Try.prog.info? 3 = some i3 ∧ i3.zero = some (.int .i64 0) ∧ i3.size = 1 ∧ i3.bytes = 8) := ⟨hj0, hk0, hk1, hk2⟩
  clear hi0 hz0 hz1 hz2 hj0 hk0 hk1 hk2 h h1 h2 h3 h4 hr hq
  obtain ⟨n, hn⟩ : ∃ n, n = K.length := ⟨_, rfl⟩
  have HN := Lib.hid hn
  rw [← hn] at hcell hl hc HRD
  clear hn
  go_enter Try.func23, Try.ntmps23
  go_wp2_with (at_builtin; refine wpList_append_sh _ rfl _ _ 52 rfl 59 i0 _ 4 32 Try.underlying52 I0.out.1 I0.out.2.1 I0.out.2.2.1 I0.out.2.2.2 rfl (by omega) (.slice none 0 0) 0 [] rfl (World.ownsRow_nil _ _ _ _) w.heap.size A n _ (flat K) rfl HRD.out (flat_one _) (by unfold maxLen; omega) (by omega) ?_; intro A1 cc1 w1 hown1 hgrow1 hat1; simp only [Nat.zero_add, List.nil_append] at hown1 hat1 ⊢; have HT1 : Hid (Two w w1 (.slice none 0 0) (.slice A1 n cc1) [] K) := ⟨World.ownsRow_nil _ _ _ _, by unfold Oi; rw [← HN.out]; exact hown1, (But.refl No w).grown hgrow1 (fun k e => by simp [Value.ownBlock] at e), own_none, own_new own_none hat1 (Nat.le_refl _), fun j e => by simp [Value.ownBlock] at e⟩; clear hown1 hgrow1 hat1)
  generalize hcn : n = n0 at *
  go_loopw [3, 4] (fun u v wr => ∃ (A1 : Option Addr) (n1 c1 : Nat) (A2 : Option Addr) (n2 c2 : Nat) (zs : List Int) (K' : List One) (P D : List E), u = .slice A1 n1 c1 ∧ v = .slice A2 n2 c2 ∧ n1 + n2 = n0 ∧ Hid (zs.length = n1 ∧ K'.length = n2) ∧ Hid (Two w wr (.slice A1 n1 c1) (.slice A2 n2 c2) zs K') ∧ Hid (L = P ++ D ∧ zs = P.map E.t ∧ Rel K' D ∧ QOK D)) (fun _ v _ => lenS v)
  case atStart => exact ⟨none, 0, 0, A1, n0, cc1, [], K, [], L, rfl, rfl, by omega, (⟨rfl, by rw [HN.out]⟩ : _ ∧ _), HT1, (⟨rfl, rfl, HR.out, HQ.out⟩ : _ ∧ _ ∧ _ ∧ _)⟩
  case round =>
    clear HT1 HRD hcell
    obtain ⟨A1, n1, c1, A2, n2, c2, zs, K', P, D, rfl, rfl, hn12, HL, HT, HP⟩ := hrel
    by_cases hlt : 0 < n2
    · have hlt2 : (0 : Int) < (n2 : Int) := by omega
      have hc2 : n2 ≤ c2 := by
        obtain ⟨A9, c9, e9, h9⟩ := HT.out.l.slice
        injection e9 with _ e1 e2
        omega
      go_wp2_with fail
      generalize wr = w5 at *
      go_loopw [5, 6] (fun u v wx => ∃ b j : Nat, u = .int .i64 (b : Int) ∧ v = .int .i64 (j : Int) ∧ j ≤ n2 ∧ 1 ≤ j ∧ Hid (Best2 K' j b) ∧ Hid (But No w5 wx)) (fun _ v _ => n2 - (intOf v).toNat)
      case atStart => exact ⟨0, 1, rfl, rfl, by omega, by omega, Best2.start K', But.refl _ _⟩
      case round =>
        obtain ⟨b, j, rfl, rfl, hj, hj1, HB, HBX⟩ := hrel
        have hbj := HB.out.lt
        have hlen := HL.out.2
        by_cases hlj : j < n2
        · have jn : (j : Int) < (n2 : Int) := by omega
          have bn : (b : Int) < (n2 : Int) := by omega
          have HTX := Lib.hid (HT.out.stay HBX.out)
          obtain ⟨g, rfl, hg, a0, a1, a2, a3, hfa⟩ := HTX.out.l.cells (k := j) (by omega)
          obtain ⟨g', eg, hg', d0, d1, d2, d3, hfb⟩ := HTX.out.l.cells (k := b) (by omega)
          obtain rfl : g' = g := by simpa using eg.symm
          have mj : K'.getD j o0 ∈ K' := by
            have : K'.getD j o0 = K'[j]'(by omega) := by simp [List.getD, show j < K'.length by omega]
            rw [this]; exact List.getElem_mem _
          have mb : K'.getD b o0 ∈ K' := by
            have : K'.getD b o0 = K'[b]'(by omega) := by simp [List.getD, show b < K'.length by omega]
            rw [this]; exact List.getElem_mem _
          have hcmp := ahB_ke (HP.out.2.2.1.eok HP.out.2.2.2 mj) (HP.out.2.2.1.eok HP.out.2.2.2 mb)
          have CAh := Lib.hid (fun W => ahead_any (K'.getD j o0) (K'.getD b o0) W)
          cases hbr : ahB (K'.getD j o0) (K'.getD b o0) with
          | true =>
            rw [hbr] at hcmp CAh
            have HB2 : Hid (Best2 K' (j + 1) j) := by
              have hc := of_decide_eq_true hcmp.symm
              refine ⟨by omega, fun i hi => ?_⟩
              have hmn := HB.out.min
              by_cases e : i = j
              · subst e; omega
              · have := hmn i (by omega); omega
            generalize K'.getD j o0 = xj at *
            generalize K'.getD b o0 = xb at *
            clear hcmp hbr HB mj mb hfa hfb eg
            obtain ⟨ja, jb, jc, jd⟩ := xj
            obtain ⟨ba, bb, bc, bd⟩ := xb
            unfold agg at CAh
            dsimp only at *
            have keep8 : ∀ {W : World}, But No wr W → W.cell? ⟨g', j * 4, none⟩ = some (.int .i64 ja) ∧ W.cell? ⟨g', j * 4 + 1, none⟩ = some (.int .i64 jb) ∧ W.cell? ⟨g', j * 4 + 2, none⟩ = some (.int .i64 jc) ∧ W.cell? ⟨g', j * 4 + 3, none⟩ = some (.bool jd) ∧ W.cell? ⟨g', b * 4, none⟩ = some (.int .i64 ba) ∧ W.cell? ⟨g', b * 4 + 1, none⟩ = some (.int .i64 bb) ∧ W.cell? ⟨g', b * 4 + 2, none⟩ = some (.int .i64 bc) ∧ W.cell? ⟨g', b * 4 + 3, none⟩ = some (.bool bd) := fun hb => ⟨cell_keep a0 hb, cell_keep a1 hb, cell_keep a2 hb, cell_keep a3 hb, cell_keep d0 hb, cell_keep d1 hb, cell_keep d2 hb, cell_keep d3 hb⟩
            go_wp2_with fail
            go_region_held3 (fun w' => w'.cell? ⟨g', j * 4, none⟩ = some (.int .i64 ja) ∧ w'.cell? ⟨g', j * 4 + 1, none⟩ = some (.int .i64 jb) ∧ w'.cell? ⟨g', j * 4 + 2, none⟩ = some (.int .i64 jc) ∧ w'.cell? ⟨g', j * 4 + 3, none⟩ = some (.bool jd) ∧ w'.cell? ⟨g', b * 4, none⟩ = some (.int .i64 ba) ∧ w'.cell? ⟨g', b * 4 + 1, none⟩ = some (.int .i64 bb) ∧ w'.cell? ⟨g', b * 4 + 2, none⟩ = some (.int .i64 bc) ∧ w'.cell? ⟨g', b * 4 + 3, none⟩ = some (.bool bd))
              (first | with_reducible exact keep8 (But.refl No wr) | with_reducible exact keep8 (But.refl No wr).drew | exact keep8 ((But.refl No wr).drew.trans hb2))
              (first | (go_at_call 39; ((with_reducible refine (CAh.out _).mono ?_); rintro e w2 ⟨rfl, hb2⟩)))
            rename_i hHeld
            clear hHeld
            have HB3 := Lib.hid (HBX.out.trans ((But.refl No wr).drew.trans hb2))
            clear hb2
            go_wp2_with fail
            go_roundw
            case rel => exact ⟨j, j + 1, rfl, by go_num, by omega, by omega, HB2, HB3⟩
            case measure => simp [intOf]; omega
          | false =>
            rw [hbr] at hcmp CAh
            have HB2 : Hid (Best2 K' (j + 1) b) := by
              have hc := of_decide_eq_false hcmp.symm
              refine ⟨by omega, fun i hi => ?_⟩
              have hmn := HB.out.min
              by_cases e : i = j
              · subst e; omega
              · have := hmn i (by omega); omega
            generalize K'.getD j o0 = xj at *
            generalize K'.getD b o0 = xb at *
            clear hcmp hbr HB mj mb hfa hfb eg
            obtain ⟨ja, jb, jc, jd⟩ := xj
            obtain ⟨ba, bb, bc, bd⟩ := xb
            unfold agg at CAh
            dsimp only at *
            have keep8 : ∀ {W : World}, But No wr W → W.cell? ⟨g', j * 4, none⟩ = some (.int .i64 ja) ∧ W.cell? ⟨g', j * 4 + 1, none⟩ = some (.int .i64 jb) ∧ W.cell? ⟨g', j * 4 + 2, none⟩ = some (.int .i64 jc) ∧ W.cell? ⟨g', j * 4 + 3, none⟩ = some (.bool jd) ∧ W.cell? ⟨g', b * 4, none⟩ = some (.int .i64 ba) ∧ W.cell? ⟨g', b * 4 + 1, none⟩ = some (.int .i64 bb) ∧ W.cell? ⟨g', b * 4 + 2, none⟩ = some (.int .i64 bc) ∧ W.cell? ⟨g', b * 4 + 3, none⟩ = some (.bool bd) := fun hb => ⟨cell_keep a0 hb, cell_keep a1 hb, cell_keep a2 hb, cell_keep a3 hb, cell_keep d0 hb, cell_keep d1 hb, cell_keep d2 hb, cell_keep d3 hb⟩
            go_wp2_with fail
            go_region_held3 (fun w' => w'.cell? ⟨g', j * 4, none⟩ = some (.int .i64 ja) ∧ w'.cell? ⟨g', j * 4 + 1, none⟩ = some (.int .i64 jb) ∧ w'.cell? ⟨g', j * 4 + 2, none⟩ = some (.int .i64 jc) ∧ w'.cell? ⟨g', j * 4 + 3, none⟩ = some (.bool jd) ∧ w'.cell? ⟨g', b * 4, none⟩ = some (.int .i64 ba) ∧ w'.cell? ⟨g', b * 4 + 1, none⟩ = some (.int .i64 bb) ∧ w'.cell? ⟨g', b * 4 + 2, none⟩ = some (.int .i64 bc) ∧ w'.cell? ⟨g', b * 4 + 3, none⟩ = some (.bool bd))
              (first | with_reducible exact keep8 (But.refl No wr) | with_reducible exact keep8 (But.refl No wr).drew | exact keep8 ((But.refl No wr).drew.trans hb2))
              (first | (go_at_call 39; ((with_reducible refine (CAh.out _).mono ?_); rintro e w2 ⟨rfl, hb2⟩)))
            rename_i hHeld
            clear hHeld
            have HB3 := Lib.hid (HBX.out.trans ((But.refl No wr).drew.trans hb2))
            clear hb2
            go_wp2_with fail
            go_roundw
            case rel => exact ⟨b, j + 1, rfl, by go_num, by omega, by omega, HB2, HB3⟩
            case measure => simp [intOf]; omega
        · have ejn : n2 = j := by omega
          subst ejn
          have HTX := Lib.hid (HT.out.stay HBX.out)
          obtain ⟨g, rfl, hg, a0, a1, a2, a3, hfa⟩ := HTX.out.l.cells (k := b) (by omega)
          obtain ⟨e, D', hD⟩ : ∃ e D', D = e :: D' := by
            cases D with
            | nil =>
              have hm := HP.out.2.2.1.mem
              have : K'.getD b o0 ∈ K' := by
                have : K'.getD b o0 = K'[b]'(by omega) := by simp [List.getD, show b < K'.length by omega]
                rw [this]; exact List.getElem_mem _
              exact absurd ((hm _).2 ⟨_, this, rfl⟩) List.not_mem_nil
            | cons e D' => exact ⟨e, D', rfl⟩
          subst hD
          obtain ⟨hbe, hrel'⟩ := HP.out.2.2.1.best HP.out.2.2.2 (by omega) (fun i hi => HB.out.min i (by omega))
          have hbt : (K'.getD b o0).t = e.t := by rw [← hbe]; rfl
          rw [hbt] at a0
          have HP2 : Hid (L = (P ++ [e]) ++ D' ∧ zs ++ [e.t] = (P ++ [e]).map E.t ∧ Rel (K'.take b ++ K'.drop (b + 1)) D' ∧ QOK D') := by
            refine ⟨by rw [HP.out.1]; simp, by rw [HP.out.2.1]; simp, hrel', HP.out.2.2.2.tail⟩
          have HBK : Hid (b < K'.length) := by show _ < _; omega
          generalize e.t = z at *
          obtain ⟨k1, hk1⟩ : ∃ k1 : Nat, k1 = b + 1 := ⟨_, rfl⟩
          have hk1' : (b : Int) + 1 = (k1 : Int) := by omega
          have HK1 := Lib.hid hk1
          have bn : (b : Int) < (n2 : Int) := by omega
          have kc : (b : Int) ≤ (c2 : Int) := by omega
          have k1n : (k1 : Int) ≤ (n2 : Int) := by omega
          have k1N : k1 ≤ n2 := by omega
          have k1c : (k1 : Int) ≤ (c2 : Int) := by omega
          have k10 : (0 : Int) ≤ (k1 : Int) := by omega
          obtain ⟨A', hA'⟩ : ∃ A', (if c2 = k1 then (some ⟨g, 0, none⟩ : Option Addr) else (some ⟨g, 0, none⟩ : Option Addr).map (·.add (k1 * 4))) = A' := ⟨_, rfl⟩
          have RD : Hid (∀ W, Oi W (.slice (some ⟨g, 0, none⟩) n2 c2) K' → Reads W W.heap.size 4 (some ⟨g, 0, none⟩) b (flat (K'.take b)) ∧ Reads W W.heap.size 4 A' (n2 - k1) (flat (K'.drop k1))) := by
            intro W hW
            have h1 := oi_reads hW HL.out.2
            refine ⟨reads_take h1 HL.out.2 (by omega), ?_⟩
            have := h1.cut (k := k1) (cap := c2) k1N hc2
            rw [hA', ← flat_drop K' k1 (by rw [HL.out.2]; omega)] at this
            exact this
          have SL1 := slice_to (A := some ⟨g, 0, none⟩) (n := n2) (k := b) (c := c2) (by omega)
          have SL2 := slice_from (A := some ⟨g, 0, none⟩) (n := n2) (k := k1) (c := c2) k1N
          rw [hA'] at SL2
          clear hA'
          have HO : Hid (wr.ownsRow 0 3 1 (.slice A1 n1 c1) n1 (zs.map (Value.int .i64))) := by
            have := HTX.out.o
            unfold Ov at this
            rw [HL.out.1] at this
            exact this
          clear hk1 a1 a2 a3 hfa HB hbe hrel' hbt hlj hbj
          go_wp2_with (first
            | (at_builtin; refine wpList_append_sh _ rfl _ _ 39 rfl 3 i3 _ 1 8 Try.underlying39 I3.out.1 I3.out.2.1 I3.out.2.2.1 I3.out.2.2.2 rfl (by omega) (.slice A1 n1 c1) n1 _ rfl (owns_but HO.out ((But.refl No wr).alloc _) (fun _ _ f => f)) (wr.heap.size + 1) (some ⟨wr.heap.size, 0, none⟩) 1 1 [.int .i64 z] rfl (one_reads wr z) (one_cell z) (by unfold maxLen; omega) (by omega) ?_; intro A3 c3 w3 hown hgrow hat; have HT3 := Lib.hid (HTX.out.out HL.out.1 _ hown hgrow hat); obtain ⟨hr1, hr2⟩ := RD.out _ HT3.out.l; have R13 := Lib.hid hr1; have R23 := Lib.hid hr2; clear hown hgrow hat hr1 hr2)
            | (at_builtin; refine wpList_append_sh _ rfl _ _ 52 rfl 59 i0 _ 4 32 Try.underlying52 I0.out.1 I0.out.2.1 I0.out.2.2.1 I0.out.2.2.2 rfl (by omega) (.slice none 0 0) 0 [] rfl (World.ownsRow_nil _ _ _ _) w3.heap.size (some ⟨g, 0, none⟩) b _ (flat (K'.take b)) rfl R13.out (flat_one _) (by unfold maxLen; omega) (by omega) ?_; intro A4 cc4 w4 hown4 hgrow4 hat4; simp only [Nat.zero_add, List.nil_append] at hown4 hat4 ⊢; have HB4 : Hid (But No w3 w4) := (But.refl No w3).grown hgrow4 (fun k e => by simp [Value.ownBlock] at e); have O4 := Lib.hid hown4; have G4 := Lib.hid hgrow4; have AT4 := Lib.hid hat4; clear hown4 hgrow4 hat4)
            | (at_builtin; refine wpList_append_sh _ rfl _ _ 52 rfl 59 i0 _ 4 32 Try.underlying52 I0.out.1 I0.out.2.1 I0.out.2.2.1 I0.out.2.2.2 rfl (by omega) (.slice A4 b cc4) b _ rfl O4.out w3.heap.size A' (n2 - k1) _ (flat (K'.drop k1)) rfl (keep_reads R23.out HB4.out) (flat_one _) (by unfold maxLen; omega) (by omega) ?_; intro A6 cc6 w6 hown6 hgrow6 hat6; obtain ⟨ht6, hl6⟩ := HT3.out.rest HL.out.2 (by omega) O4.out G4.out AT4.out hown6 HK1.out hgrow6 hat6; have HT6 := Lib.hid ht6; have HL6 := Lib.hid hl6; clear hown6 hgrow6 hat6 ht6 hl6))
          go_roundw
          case rel => exact ⟨_, n1 + 1, _, _, b + (n2 - k1), _, _, _, _, _, rfl, rfl, by have := HK1.out; omega, (⟨by rw [List.length_append, HL.out.1]; rfl, HL6.out.symm⟩ : _ ∧ _), HT6, HP2⟩
          case measure => have := HK1.out; simp [lenS]; omega
    · have hlt2 : decide ((0 : Int) < (n2 : Int)) = false := by simp; omega
      have hD : D = [] := by
        cases D with
        | nil => rfl
        | cons e D' =>
          obtain ⟨o, ho, _⟩ := (HP.out.2.2.1.mem e).1 List.mem_cons_self
          have : K' = [] := List.eq_nil_of_length_eq_zero (by have := HL.out.2; omega)
          rw [this] at ho
          exact (List.not_mem_nil ho).elim
      subst hD
      have HF : Hid (RAll w L (.returned (.slice A1 n1 c1)) wr) := by
        have e1 : L = P := by rw [HP.out.1]; simp
        have e2 : n1 = L.length := by rw [← HL.out.1, HP.out.2.1, e1]; simp
        have := HT.out.o
        rw [HP.out.2.1, ← e1] at this
        rw [e2] at this ⊢
        exact ⟨A1, c1, rfl, this, HT.out.but⟩
      clear HP HL HT
      go_wp2_with fail
      go_ret
      exact HF.out
theorem rfirst_any (x : Nat) (R : Int) (K : List One) (L : List E) (S : Nat → Prop) (w : World) (h : RF w S x R K) (hr : Rel K L) (hq : QOK L) :
    Calls Try.prog 25 #[.pointer (some ⟨x, 0, none⟩)] w fun r w' => r = .returned (.int .i64 (firE L)) ∧ But No w w' := by
  have C := Lib.hid (rall_any x R K L S w h hr hq)
  have HQ := Lib.hid hq
  clear h hr hq
  cases L with
  | nil =>
    go_enter Try.func25, Try.ntmps25
    go_wp2_with (go_at_call 23; ((with_reducible refine C.out.mono ?_); rintro e w1 ⟨A, c, rfl, ho, hb⟩; have HB := Lib.hid hb; clear ho hb))
    go_ret
    exact ⟨rfl, HB.out⟩
  | cons y L =>
    go_enter Try.func25, Try.ntmps25
    go_wp2_with fail
    refine C.out.mono ?_
    rintro e w1 ⟨A, c, rfl, ho, hb⟩
    have HB := Lib.hid hb
    obtain ⟨g, off, rfl, hg, hc⟩ := ((ho.rl (by rw [List.length_map]; have := HQ.out.len; omega)).1).at_ (by simp)
    have hc0 : w1.cell? ⟨g, off, none⟩ = some (.int .i64 y.t) := by have := hc 0 (by simp); simpa using this
    obtain ⟨n, hn⟩ : ∃ n, n = (y :: L).length := ⟨_, rfl⟩
    have hn1 : (0 : Int) < (n : Int) := by rw [hn]; simp only [List.length_cons]; omega
    have hn0 : ((n : Int) == 0) = false := by simp; omega
    have hn2 : 0 < n := by omega
    clear hc
    rw [← hn]
    clear ho hb hn C
    go_wp2
    go_ret
    exact ⟨rfl, HB.out⟩
end Go.Proofs.Ytbfmoaojimimjaa
