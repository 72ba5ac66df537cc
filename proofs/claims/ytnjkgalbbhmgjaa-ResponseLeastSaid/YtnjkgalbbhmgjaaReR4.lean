/- The contract of the statements' own loads: the list for the document. -/
import Derived.Test.YtnjkgalbbhmgjaaReW
import Derived.Deep.DeepCutAuto
import Derived.Deep.RegionHeld3
namespace Go.Proofs.Ytnjkgalbbhmgjaa.rsp
open Go.ChangeShapes Go.WideShapes Go.ChangeAt Go.RowKit Go.Deep
theorem infoW : (Try.prog.info? 44).map (fun i => (i.zero, i.size, i.bytes)) = some (some (.agg #[.int .i64 0, .int .i64 0, .int .i64 0]), 3, 24) := by kernel_rfl
theorem ld_reads (w : World) (x : Ld) : Reads (w.alloc (.cells #[.int .i64 x.w, .int .i64 x.p, .int .i64 x.j] 44)) (w.heap.size + 1) 3 (some ⟨w.heap.size, 0, none⟩) 1 (ldC x) :=
  ⟨rfl, fun _ => ⟨⟨w.heap.size, 0, none⟩, rfl, by simp, World.news_of_block (cs := #[.int .i64 x.w, .int .i64 x.p, .int .i64 x.j]) (t := 44) (fr := (0, 0)) (Blk.new w _ _)⟩⟩
theorem ld_cell (x : Ld) : ∀ u ∈ ldC x, u.oneCell' = true := by simp [ldC, Value.oneCell']
structure Gw (w wr : World) (v : Value) (l : List Ld) : Prop where
  but : But No w wr
  own : OLd wr 44 v l
  new : ∀ k, v.ownBlock = some k → w.heap.size ≤ k
theorem Gw.no {w wr w2 : World} {v : Value} {l : List Ld} (h : Gw w wr v l) (hb : But No wr w2) : Gw w w2 v l := ⟨h.but.trans hb, h.own.but hb (fun _ _ f => f), h.new⟩
theorem Gw.app {w wr w2 : World} {v : Value} {l : List Ld} {x : Ld} {A : Option Addr} {c n : Nat} (h : Gw w wr v l) (hn : n = l.length + 1) (ho : w2.ownsRow 0 44 3 (.slice A n c) n (l.flatMap ldC ++ ldC x)) (hg : wr.grownBy w2 v.ownBlock)
    (hat : (Value.slice A n c).ownBlock = v.ownBlock ∨ (Value.slice A n c).ownBlock = some wr.heap.size) : Gw w w2 (.slice A n c) (l ++ [x]) := by
  refine ⟨h.but.grown hg (fun k e => .inr (h.new k e)), ?_, own_new h.new hat h.but.size⟩
  unfold OLd
  rw [List.length_append, List.flatMap_append]
  simp only [List.length_cons, List.length_nil, List.flatMap_cons, List.flatMap_nil, List.append_nil]
  rw [← hn]; exact ho
set_option maxRecDepth 100000 in
set_option maxHeartbeats 8000000 in
theorem loads_any (A : Option Addr) (n c : Nat) (l : List Ld) (w : World) (h : RLd w A n l) (hb : n * 24 ≤ 140737488351232) : Calls Try.prog 12 #[.slice A n c] w fun e w' => ∃ A' c', e = .returned (.slice A' n c') ∧ RLd w' A' n l ∧ But No w w' := by
  have HN := Lib.hid h.len
  have HL := Lib.hid h
  obtain ⟨i0, hi0, hz0, hz1, hz2⟩ := info_parts infoW
  have I0 : Hid (Try.prog.info? 44 = some i0 ∧ i0.zero = some (.agg #[.int .i64 0, .int .i64 0, .int .i64 0]) ∧ i0.size = 3 ∧ i0.bytes = 24) := ⟨hi0, hz0, hz1, hz2⟩
  clear h hi0 hz0 hz1 hz2
  go_enter Try.func12, Try.ntmps12
  go_wp2_with fail
  go_loopw [3, 4] (fun v i wr => ∃ (vv : Value) (q : Nat), v = vv ∧ i = .int .i64 (q : Int) ∧ q ≤ n ∧ Hid (Gw w wr vv (l.take q))) (fun _ i _ => n - (intOf i).toNat)
  case atStart => exact ⟨_, 0, rfl, rfl, by omega, ⟨But.refl No w, OLd.nil w _, own_none⟩⟩
  case round =>
    obtain ⟨v, i, hv, rfl, hi, HG⟩ := hrel
    have hv' := hv.symm
    subst hv'
    clear hv
    by_cases hin : i < n
    · have hin2 : (i : Int) < (n : Int) := by omega
      have hi0 : (0 : Int) ≤ (i : Int) := Int.natCast_nonneg i
      obtain ⟨x, hx⟩ : ∃ x, l[i]? = some x := ⟨_, List.getElem?_eq_getElem (by rw [HN.out]; exact hin)⟩
      obtain ⟨b, off, rfl, hbl, e0, e1, e2⟩ := HL.out.at1 hx
      have E0 := Lib.hid e0
      have E1 := Lib.hid e1
      have E2 := Lib.hid e2
      have TS := Lib.hid (show l.take (i + 1) = l.take i ++ [x] by rw [List.take_add_one, hx]; rfl)
      have HTL := Lib.hid (show (l.take i).length = i by rw [List.length_take, HN.out]; omega)
      clear hx e0 e1 e2 hbl
      obtain ⟨x0, x1, x2⟩ := x
      dsimp only at E0 E1 E2
      have KEEP : Hid (∀ w', But No w w' → (w'.cell? ⟨b, off + i * 3, none⟩ = some (.int .i64 x0) ∧ w'.cell? ⟨b, off + i * 3 + 1, none⟩ = some (.int .i64 x1) ∧ w'.cell? ⟨b, off + i * 3 + 2, none⟩ = some (.int .i64 x2)) ∧ But No w w') := Lib.hid (fun w' hb => ⟨⟨cell_keep E0.out hb, cell_keep E1.out hb, cell_keep E2.out hb⟩, hb⟩)
      have HGa := Lib.hid (HG.out.no (((But.refl No wr).drew).alloc (.cells #[.int .i64 x0, .int .i64 x1, .int .i64 x2] 44)))
      obtain ⟨⟨e0, e1, e2⟩, _⟩ := KEEP.out wr HG.out.but
      go_wp2_with fail
      go_region_held3 (fun w' => (w'.cell? ⟨b, off + i * 3, none⟩ = some (.int .i64 x0) ∧ w'.cell? ⟨b, off + i * 3 + 1, none⟩ = some (.int .i64 x1) ∧ w'.cell? ⟨b, off + i * 3 + 2, none⟩ = some (.int .i64 x2)) ∧ But No w w')
        (first | exact KEEP.out _ HG.out.but.drew | exact KEEP.out _ (HG.out.but.drew.alloc _) | exact KEEP.out _ HG5.out.but)
        (first | (refine step_append_sh rfl _ _ 29 rfl 44 i0 _ 3 24 Try.underlying29 I0.out.1 I0.out.2.1 I0.out.2.2.1 I0.out.2.2.2 rfl (by omega) v (l.take i).length ((l.take i).flatMap ldC) (by simp [Act.eval]) HGa.out.own (wr.drew.heap.size + 1) (some ⟨wr.drew.heap.size, 0, none⟩) 1 1 (ldC ⟨x0, x1, x2⟩) (by simp [Act.eval]) (ld_reads wr.drew ⟨x0, x1, x2⟩) (ld_cell _) (by have := HTL.out; unfold maxLen; omega) (by have := HTL.out; omega) ?_; intro A5 c5 w5 hown5 hgrow5 hat5; have HG5 := Lib.hid (HGa.out.app rfl hown5.out hgrow5.out hat5.out)))
      rename_i hHeld
      clear hHeld e0 e1 e2 KEEP HGa HG
      go_wp2
      go_roundw
      case rel => exact ⟨_, i + 1, rfl, by go_num, by omega, by rw [TS.out]; have h9 := HG5.out; rw [List.length_take] at h9; exact h9⟩
      case measure => simp [intOf]; omega
    · have hE : i = n := by omega
      have b3 : decide ((i : Int) < (n : Int)) = false := by simp; omega
      have htk : l.take i = l := List.take_of_length_le (by rw [HN.out]; omega)
      rw [htk] at HG
      obtain ⟨A7, c7, hv7, hr7⟩ := HG.out.own.rd (by rw [HN.out]; omega) HL.out.fit
      rw [HN.out] at hv7 hr7
      subst hv7
      have HB7 := Lib.hid HG.out.but
      have HR7 := Lib.hid hr7
      clear htk HG hr7 hE
      go_wp2
      go_ret
      exact ⟨A7, c7, rfl, HR7.out, HB7.out⟩
end Go.Proofs.Ytnjkgalbbhmgjaa.rsp
