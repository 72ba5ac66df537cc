/- The items of a ring in memory; copy of items of two cells within one row. -/
import Derived.Test.YtimkdcpghhkloaaBase
import Derived.Test.YtimkdcpghhkloaaRiM
import Derived.Laws.CopyOwn
import Derived.Deep.RegionLaw
namespace Go.Proofs.Ytimkdcpghhkloaa.rin
open Go.ChangeShapes Go.WideShapes Go.ChangeAt Go.RowKit Go.Deep
def cl (g : Nat → It) (k : Nat) : Value := .int .i64 (if k % 2 = 0 then (g (k / 2)).id else (g (k / 2)).tk)
theorem cl_even (g : Nat → It) (j : Nat) : cl g (j * 2) = .int .i64 (g j).id := by
  unfold cl; rw [if_pos (by omega), show j * 2 / 2 = j by omega]
theorem cl_odd (g : Nat → It) (j : Nat) : cl g (j * 2 + 1) = .int .i64 (g j).tk := by
  unfold cl; rw [if_neg (by omega), show (j * 2 + 1) / 2 = j by omega]
/-- Block q holds just the items g 0 .. g (sz - 1). -/
def Itm (w : World) (q sz : Nat) (g : Nat → It) : Prop := Vals w q 63 (sz * 2) (cl g)
theorem Itm.cells {w : World} {q sz j : Nat} {g : Nat → It} (h : Itm w q sz g) (hj : j < sz) : w.cell? ⟨q, j * 2, none⟩ = some (.int .i64 (g j).id) ∧ w.cell? ⟨q, j * 2 + 1, none⟩ = some (.int .i64 (g j).tk) := by
  refine ⟨?_, ?_⟩
  · rw [Vals.cell h (by omega), cl_even]
  · rw [Vals.cell h (by omega), cl_odd]
theorem Itm.frozen {w : World} {q sz : Nat} {g : Nat → It} (h : Itm w q sz g) (k : Nat) : w.frozen? ⟨q, k, none⟩ = false := Vals.frozen h k
theorem Itm.lt {w : World} {q sz : Nat} {g : Nat → It} (h : Itm w q sz g) : q < w.heap.size := Vals.lt h
theorem Itm.but {w w' : World} {q sz : Nat} {g : Nat → It} {S : Nat → Prop} (h : Itm w q sz g) (hb : But S w w') (hs : ¬ S q) : Itm w' q sz g := Vals.but h hb hs
theorem Itm.congr {w : World} {q sz : Nat} {g g' : Nat → It} (h : Itm w q sz g) (e : ∀ j, j < sz → g' j = g j) : Itm w q sz g' := by
  refine Vals.congr h fun j hj => ?_
  unfold cl; rw [e (j / 2) (by omega)]
theorem Itm.put {w : World} {q sz j : Nat} {g : Nat → It} (h : Itm w q sz g) (x : It) : Itm ((w.setCell ⟨q, j * 2, none⟩ (.int .i64 x.id)).setCell ⟨q, j * 2 + 1, none⟩ (.int .i64 x.tk)) q sz (upd g j x) := by
  refine Vals.congr (Vals.set (Vals.set h _) _) fun k hk => ?_
  unfold cl upd
  by_cases e1 : k = j * 2 + 1
  · rw [if_pos e1, if_neg (by omega), if_pos (by omega)]
  · rw [if_neg e1]
    by_cases e2 : k = j * 2
    · rw [if_pos e2, if_pos (by omega), if_pos (by omega)]
    · rw [if_neg e2, if_neg (show ¬ k / 2 = j by omega)]
theorem run_copy_cells2 (P : Program) (w : World) (dT sT ty elem : TypeId) (g o dLen dCap : Nat) (a : Addr) (sLen sCap : Nat) (cur : Array Value) (t : TypeId) (cs : List Value)
    (hu : P.underlying dT = some (.slice elem)) (hs : (P.info? elem).map (·.size) = some 2)
    (hg : w.heap[g]? = some (.cells cur t (0, 0))) (hn : cs.length = Nat.min sLen dLen * 2)
    (hsrc : ∀ j v, cs[j]? = some v → w.cell? (a.add j) = some v) (hfit : o + cs.length ≤ cur.size) (h1 : ∀ v ∈ cs, v.oneCell' = true) :
    (Builtin.copy_ #[dT, sT] ty #[.slice (some ⟨g, o, none⟩) dLen dCap, .slice (some a) sLen sCap]).run P w =
      .ok (goInt (Nat.min sLen dLen)) (w.setRow g (cur.toList.take o ++ cs ++ cur.toList.drop (o + cs.length)).toArray) := by
  have hl := run_loadCells_list (P := P) w a cs hsrc
  have hst := run_storeCells_at P g o t cs 0 cur w hg (by simpa using hfit) h1
  cases hq : P.info? elem with
  | none => simp [hq] at hs
  | some i =>
    have hi : i.size = 2 := by simpa [hq] using hs
    simp [Builtin.copy_, run_underlying hu, Builtin.lenOf, Builtin.firstCells, sizeOf, typeInfo, hq, hi, ← hn, hl, hst]
theorem run_copy_none2 (P : Program) (w : World) (dT sT ty elem : TypeId) (d a : Option Addr) (dLen dCap sLen sCap : Nat) (hu : P.underlying dT = some (.slice elem)) (hs : (P.info? elem).map (·.size) = some 2) (hn : Nat.min sLen dLen = 0) :
    (Builtin.copy_ #[dT, sT] ty #[.slice d dLen dCap, .slice a sLen sCap]).run P w = .ok (goInt 0) w := by
  cases hq : P.info? elem with
  | none => simp [hq] at hs
  | some i =>
    have hi : i.size = 2 := by simpa [hq] using hs
    cases d <;> cases a <;> simp [Builtin.copy_, run_underlying hu, Builtin.lenOf, Builtin.firstCells, sizeOf, typeInfo, hq, hn, storeCells, loadCells, loadCellsFrom]
theorem _root_.Go.Proofs.Ytimkdcpghhkloaa.But.setRowR {S : Nat → Prop} {a b : World} (h : But S a b) {q : Nat} (hq : S q) (cs : Array Value) : But S a (b.setRow q cs) :=
  h.trans ⟨rfl, rfl, rfl, by simp [World.setRow], fun k _ hs => setRow_other b q k cs (fun e => hs (e ▸ hq))⟩
theorem step_copy_items {P : Program} {ops : Array Oper} {o : Oper} {a : Act} {w : World} {K : Act → World → Prop} {Q : Exit → Act → World → Prop} {E : Prop} (hgd : o.guard = none) (d s : Operand) (dT sT : TypeId)
    (ho : o.op = .call { callee := .builtin .copy, args := #[d, s], argTypes := #[dT, sT] }) (elem : TypeId) (hu : P.underlying dT = some (.slice elem)) (hsz : (P.info? elem).map (·.size) = some 2)
    (dp sp : Option Addr) (dLen dCap sLen sCap : Nat) (hd : a.eval d = .slice dp dLen dCap) (hs : a.eval s = .slice sp sLen sCap)
    (q sz : Nat) (g : Nat → It) (hg : Itm w q sz g) (gap m : Nat) (hm : Nat.min sLen dLen = m) (hpos : 0 < m → dp = some ⟨q, gap * 2, none⟩ ∧ sp = some ⟨q, (gap + 1) * 2, none⟩) (hfit : gap + 1 + m ≤ sz)
    (h : ∀ w', Hid (Itm w' q sz (gapA g gap (gap + m))) → Hid (But (Just q) w w') → K (a.put o.dst (goInt m)) w') :
    if Region.wanted o (yielded ops a.tmps) = true then Oper.wp P o a w K Q else E := by
  have hw : Region.wanted o (yielded ops a.tmps) = true := by simp [Region.wanted, hgd]
  rw [if_pos hw]
  by_cases h0 : m = 0
  · subst h0
    have hrun := run_copy_none2 P w dT sT o.type elem dp sp dLen dCap sLen sCap hu hsz hm
    unfold Oper.wp
    simp [execOp, ho, resolve, invoke, builtin, hd, hs, hrun, Result.andThen]
    refine h w (hg.congr fun j hj => ?_) (But.refl _ _)
    unfold gapA; rw [if_neg (by omega)]
  · obtain ⟨rfl, rfl⟩ := hpos (by omega)
    have hcs : ((List.range (m * 2)).map fun k => cl g ((gap + 1) * 2 + k)).length = Nat.min sLen dLen * 2 := by simp [hm]
    have hrun := run_copy_cells2 P w dT sT o.type elem q (gap * 2) dLen dCap ⟨q, (gap + 1) * 2, none⟩ sLen sCap _ 63 ((List.range (m * 2)).map fun k => cl g ((gap + 1) * 2 + k)) hu hsz hg hcs (fun j v hv => ?_) ?_ ?_
    · unfold Oper.wp
      rw [hm] at hrun
      simp [execOp, ho, resolve, invoke, builtin, hd, hs, hrun, Result.andThen]
      refine h _ ?_ ((But.refl _ w).setRowR (just q) _)
      show Blk _ _ _ _
      have e : (((List.range (sz * 2)).map (cl (gapA g gap (gap + m)))).toArray) = (((List.range (sz * 2)).map (cl g)).toArray.toList.take (gap * 2) ++ ((List.range (m * 2)).map fun k => cl g ((gap + 1) * 2 + k)) ++ ((List.range (sz * 2)).map (cl g)).toArray.toList.drop (gap * 2 + ((List.range (m * 2)).map fun k => cl g ((gap + 1) * 2 + k)).length)).toArray := by
        congr 1
        apply List.ext_getElem?
        intro k
        simp only [List.getElem?_append, List.length_append, List.length_take, List.length_map, List.length_range, List.getElem?_take, List.getElem?_drop, List.getElem?_map]
        have e1 : min (gap * 2) (sz * 2) = gap * 2 := by omega
        rw [e1]
        by_cases hk : k < sz * 2
        · rw [List.getElem?_range hk]
          by_cases k1 : k < gap * 2
          · rw [if_pos (by omega), if_pos k1, if_pos k1]
            simp only [Option.map_some]
            congr 1
            unfold cl gapA
            rw [if_neg (show ¬ (gap ≤ k / 2 ∧ k / 2 < gap + m) by omega)]
          · by_cases k2 : k < gap * 2 + m * 2
            · rw [if_pos k2, if_neg k1, List.getElem?_range (by omega)]
              simp only [Option.map_some]
              congr 1
              unfold cl gapA
              rw [if_pos (show gap ≤ k / 2 ∧ k / 2 < gap + m by omega), show ((gap + 1) * 2 + (k - gap * 2)) = k + 2 by omega, show (k + 2) / 2 = k / 2 + 1 by omega, show (k + 2) % 2 = k % 2 by omega]
            · rw [if_neg k2, show gap * 2 + m * 2 + (k - (gap * 2 + m * 2)) = k by omega]; rw [List.getElem?_range hk]
              simp only [Option.map_some]
              congr 1
              unfold cl gapA
              rw [if_neg (show ¬ (gap ≤ k / 2 ∧ k / 2 < gap + m) by omega)]
        · rw [List.getElem?_eq_none (by simpa using hk), if_neg (by omega), show gap * 2 + m * 2 + (k - (gap * 2 + m * 2)) = k by omega, List.getElem?_eq_none (by simpa using hk)]
          rfl
      rw [e]
      have := setRow_heap w q _ (((List.range (sz * 2)).map (cl g)).toArray.toList.take (gap * 2) ++ ((List.range (m * 2)).map fun k => cl g ((gap + 1) * 2 + k)) ++ ((List.range (sz * 2)).map (cl g)).toArray.toList.drop (gap * 2 + ((List.range (m * 2)).map fun k => cl g ((gap + 1) * 2 + k)).length)).toArray 63 (0, 0) hg
      unfold Blk; simpa using this
    · have hj : j < m * 2 := by
        have := (List.getElem?_eq_some_iff.1 hv).1
        simpa using this
      rw [List.getElem?_map, List.getElem?_range hj] at hv
      simp only [Option.map_some, Option.some.injEq] at hv
      rw [add_plain, Vals.cell hg (by omega), ← hv]
    · simp; omega
    · intro v hv
      obtain ⟨k, _, rfl⟩ := List.mem_map.1 hv
      rfl
end Go.Proofs.Ytimkdcpghhkloaa.rin
