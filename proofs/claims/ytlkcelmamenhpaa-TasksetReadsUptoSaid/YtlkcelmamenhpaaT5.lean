/- The contracts of readSections, readTask, readTasks. -/
import Derived.Test.YtlkcelmamenhpaaT4
namespace Go.Proofs.Ytlkcelmamenhpaa
open Go.ChangeShapes Go.WideShapes Go.ChangeAt Go.RowKit Go.Deep
def secC (x : Int × Int × Int) : List Value := [.int .i64 x.1, .int .i64 x.2.1, .int .i64 x.2.2]
def secAt (ns : List Nat) : Int × Int × Int := ((ns.getD 0 0 : Nat), (ns.getD 1 0 : Nat), (ns.getD 2 0 : Nat))
theorem pSecs_len (k : Nat) (l : List Nat) : (pSecs k l).length = k := by
  induction k generalizing l with
  | zero => rfl
  | succ k ih => rw [pSecs, List.length_cons, ih]
theorem pSecs_snoc (k : Nat) (l : List Nat) : pSecs (k + 1) l = pSecs k l ++ [secAt (l.drop (3 * k))] := by
  induction k generalizing l with
  | zero => rfl
  | succ k ih =>
    rw [pSecs, ih (l.drop 3), pSecs, List.drop_drop, show 3 + 3 * k = 3 * (k + 1) by omega]
    rfl
/-- A slice of sections of the call's own. -/
structure Os (w0 w : World) (v : Value) (l : List (Int × Int × Int)) : Prop where
  own : w.ownsRow 0 41 3 v l.length (l.flatMap secC)
  new : ∀ j, v.ownBlock = some j → w0.heap.size ≤ j
def OB (v : Value) : Nat → Prop := fun k => v.ownBlock = some k
theorem grown_but {w w' : World} {v : Value} (h : w.grownBy w' v.ownBlock) : But (OB v) w w' := (But.refl _ w).grown h (fun _ e => .inl e)
section
variable {w0 w W w2 : World} {v : Value} {l : List (Int × Int × Int)} {n c : Nat} {A : Option Addr} {x : Int × Int × Int}
theorem Os.nil : Os w0 w (.slice none 0 0) [] := ⟨World.ownsRow_nil _ _ _ _, own_none⟩
theorem Os.lt (h : Os w0 w v l) : ∀ j, v.ownBlock = some j → j < w.heap.size := fun j e => (h.own.lt j e).2
theorem Os.but {S : Nat → Prop} (h : Os w0 w v l) (hb : But S w W) (hs : ∀ j, v.ownBlock = some j → ¬ S j) : Os w0 W v l := ⟨owns_but h.own hb hs, h.new⟩
theorem Os.row (h : Os w0 w v l) (hn : l.length = n) : w.ownsRow 0 41 3 v n (l.flatMap secC) := by rw [← hn]; exact h.own
theorem Os.app (h : Os w0 w v l) (hn : l.length = n) (hW : w0.heap.size ≤ W.heap.size) (ho : w2.ownsRow 0 41 3 (.slice A (n + 1) c) (n + 1) (l.flatMap secC ++ secC x))
    (hat : (Value.slice A (n + 1) c).ownBlock = v.ownBlock ∨ (Value.slice A (n + 1) c).ownBlock = some W.heap.size) : Os w0 w2 (.slice A (n + 1) c) (l ++ [x]) := by
  refine ⟨?_, own_new h.new hat hW⟩
  rw [List.length_append, List.flatMap_append, hn]
  simpa using ho
end
theorem reads_sec (w : World) (a b c : Int) : Reads (w.alloc (.cells #[.int .i64 a, .int .i64 b, .int .i64 c] 41)) (w.heap.size + 1) 3 (some ⟨w.heap.size, 0, none⟩) 1 [.int .i64 a, .int .i64 b, .int .i64 c] :=
  ⟨rfl, fun _ => ⟨_, rfl, Nat.lt_succ_self _, World.news_of_block (cs := #[.int .i64 a, .int .i64 b, .int .i64 c]) (t := 41) (fr := (0, 0)) (Blk.new w _ _)⟩⟩
theorem info41 : (Try.prog.info? 41).map (fun i => (i.zero, i.size, i.bytes)) = some (some (.agg #[.int .i64 0, .int .i64 0, .int .i64 0]), 3, 24) := by kernel_rfl
/-- A reader in its place. -/
structure Rc (w : World) (br bn : Nat) (ns : List Nat) : Prop where
  rd : RD w br bn ns
  ne : bn ≠ br
  ltn : bn < w.heap.size
  ltr : br < w.heap.size
theorem Rc.but {w w' : World} {br bn : Nat} {ns : List Nat} {S : Nat → Prop} (h : Rc w br bn ns) (hb : But S w w') (hs : ¬ S bn) (hr : ¬ S br) : Rc w' br bn ns :=
  ⟨h.rd.but hb hs hr, h.ne, Nat.lt_of_lt_of_le h.ltn hb.size, Nat.lt_of_lt_of_le h.ltr hb.size⟩
/-- fill, at an array that was just made. -/
theorem fill_new {br bn m : Nat} {e : TypeId} {ns : List Nat} {w : World} {cur : Array Value} (h : Rc w br bn ns) (hcur : cur = ((List.range m).map (fun _ => Value.int .i64 0)).toArray) (hm : m ≤ 10) :
    Calls Try.prog 37 #[.slice (some ⟨w.heap.size, 0, none⟩) m m, nextV br] (w.alloc (.cells cur e)) fun r w' => ∃ ok : Bool, r = .returned (.bool ok) ∧ ok = decide (m ≤ ns.length) ∧ But (Just br) w w' ∧
      (m ≤ ns.length → Rc w' br bn (ns.drop m) ∧ Vals w' w.heap.size e m (fun j => .int .i64 ((ns.getD j 0 : Nat) : Int))) := by
  have h1 := h.but (S := No) ((But.refl _ _).alloc (.cells cur e)) (fun f => f) (fun f => f)
  have hv : Vals (w.alloc (.cells cur e)) w.heap.size e m (fun _ => Value.int .i64 0) := by rw [hcur]; exact Blk.new w _ _
  have l1 := h.ltr
  have l2 := h.ltn
  refine (fill_any br bn w.heap.size m e ns _ _ h1.rd h.ne (by omega) (by omega) hv hm).mono fun r w' ⟨ok, hr, ho, hb, hf⟩ => ⟨ok, hr, ho, ?_, fun hm => ?_⟩
  · exact ((But.refl _ w).alloc _).andThen hb (fun k hk => hk.elim .inl (fun e => .inr (by omega)))
  · have f := hf hm
    have := hb.size
    have hs := h1.ltr
    have hn := h1.ltn
    exact ⟨⟨f.left, h.ne, by omega, by omega⟩, f.vals⟩
def RetSecs (w : World) (br bn : Nat) (ns : List Nat) (k : Nat) (r : Ending) (w' : World) : Prop :=
  ∃ A n c E, r = .returned (.tuple #[.slice A n c, .int .i64 ((E : Nat) : Int)]) ∧ E = (if 4 < k then 7 else if ns.length < 3 * k then 8 else 0) ∧ But (Just br) w w' ∧
    (E = 0 → n = k ∧ Os w w' (.slice A n c) (pSecs k ns) ∧ Rc w' br bn (ns.drop (3 * k)))
set_option maxRecDepth 100000 in
set_option maxHeartbeats 1000000 in
theorem readSections_any (br bn k : Nat) (ns : List Nat) (w : World) (h : Rc w br bn ns) (hk : k ≤ 9223372036854775807) : Calls Try.prog 43 #[.int .i64 (k : Int), nextV br] w (RetSecs w br bn ns k) := by
  have HC := Lib.hid h
  clear h
  by_cases h4 : 4 < k
  · go_enter Try.func43, Try.ntmps43
    go_wp2
    go_ret2
    exact ⟨none, 0, 0, 7, rfl, by rw [if_pos h4], But.refl _ _, fun h => by cases h⟩
  · obtain ⟨i0, hi0, hi1, hi2, hi3⟩ := info_parts info41
    have I0 : Hid (Try.prog.info? 41 = some i0 ∧ i0.zero = some (.agg #[.int .i64 0, .int .i64 0, .int .i64 0]) ∧ i0.size = 3 ∧ i0.bytes = 24) := ⟨hi0, hi1, hi2, hi3⟩
    clear hi0 hi1 hi2 hi3
    go_enter Try.func43, Try.ntmps43
    go_wp2
    go_loopw [6, 11] (fun u i wr => ∃ (A : Option Addr) (n c j : Nat), u = .slice A n c ∧ i = .int .i64 (j : Int) ∧ j ≤ k ∧ n ≤ 4 ∧ Hid (n = j) ∧ 3 * j ≤ ns.length ∧ Hid (But (Just br) w wr) ∧ Hid (Os w wr (.slice A n c) (pSecs j ns)) ∧ Hid (Rc wr br bn (ns.drop (3 * j)))) (fun _ i _ => k - (intOf i).toNat)
    case atStart => exact ⟨none, 0, 0, 0, rfl, rfl, by omega, by omega, rfl, by omega, But.refl _ _, Os.nil, HC⟩
    case round =>
      obtain ⟨A, n, c, j, rfl, rfl, hj, hn4, HN, hjn, HB, HO, HR⟩ := hrel
      by_cases hlt : j < k
      · have hld : (ns.drop (3 * j)).length = ns.length - 3 * j := List.length_drop
        have CF : Hid (Calls Try.prog 37 #[.slice (some ⟨wr.heap.size, 0, none⟩) 3 3, nextV br] (wr.alloc (.cells #[.int .i64 0, .int .i64 0, .int .i64 0] 92)) fun r w' => ∃ ok : Bool, r = .returned (.bool ok) ∧ ok = decide (3 ≤ (ns.drop (3 * j)).length) ∧ But (Just br) wr w' ∧
          (3 ≤ (ns.drop (3 * j)).length → Rc w' br bn ((ns.drop (3 * j)).drop 3) ∧ Vals w' wr.heap.size 92 3 (fun i => .int .i64 (((ns.drop (3 * j)).getD i 0 : Nat) : Int)))) := fill_new HR.out (m := 3) rfl (by omega)
        have HSN := Lib.hid (pSecs_snoc j ns)
        unfold secAt at HSN
        obtain ⟨x0, hx0⟩ : ∃ x, x = (ns.drop (3 * j)).getD 0 0 := ⟨_, rfl⟩
        obtain ⟨x1, hx1⟩ : ∃ x, x = (ns.drop (3 * j)).getD 1 0 := ⟨_, rfl⟩
        obtain ⟨x2, hx2⟩ : ∃ x, x = (ns.drop (3 * j)).getD 2 0 := ⟨_, rfl⟩
        rw [← hx0, ← hx1, ← hx2] at HSN
        by_cases h3 : 3 ≤ (ns.drop (3 * j)).length
        · have CF2 : Hid (Calls Try.prog 37 #[.slice (some ⟨wr.heap.size, 0, none⟩) 3 3, nextV br] (wr.alloc (.cells #[.int .i64 0, .int .i64 0, .int .i64 0] 92)) fun r w' => r = .returned (.bool true) ∧ But (Just br) wr w' ∧ Rc w' br bn (ns.drop (3 * (j + 1))) ∧ w'.cell? ⟨wr.heap.size, 0, none⟩ = some (.int .i64 (x0 : Int)) ∧ w'.cell? ⟨wr.heap.size, 1, none⟩ = some (.int .i64 (x1 : Int)) ∧ w'.cell? ⟨wr.heap.size, 2, none⟩ = some (.int .i64 (x2 : Int))) := CF.out.mono fun r w' ⟨ok, hr, ho, hb, hf⟩ => by
            obtain ⟨f1, f2⟩ := hf h3
            rw [List.drop_drop, show 3 * j + 3 = 3 * (j + 1) by omega] at f1
            refine ⟨by rw [hr, ho, decide_eq_true h3], hb, f1, ?_, ?_, ?_⟩
            · rw [f2.cell (k := 0) (by omega), hx0]
            · rw [f2.cell (k := 1) (by omega), hx1]
            · rw [f2.cell (k := 2) (by omega), hx2]
          have hjn2 : 3 * (j + 1) ≤ ns.length := by omega
          clear CF hx0 hx1 hx2 h3 hld
          have HPL := Lib.hid ((pSecs_len j ns).trans HN.out.symm)
          go_wp2_with (first | (go_at_call 37; refine CF2.out.mono ?_; rintro e w2 ⟨rfl, hb2, hr2, d0, d1, d2⟩; have HB2 := Lib.hid hb2; have HR2 := Lib.hid hr2; have HO2 := Lib.hid (HO.out.but hb2 (fun j e f => by have h1 := HO.out.new j e; have h2 := HC.out.ltr; unfold Just at f; omega)); have ROW := Lib.hid (HO2.out.row HPL.out); clear hb2 hr2) | (at_builtin; refine wpList_append_sh _ rfl _ _ 37 rfl 41 i0 _ 3 24 Try.underlying37 I0.out.1 I0.out.2.1 I0.out.2.2.1 I0.out.2.2.2 rfl (by omega) (.slice A n c) n _ rfl (ROW.out.alloc _) (w2.heap.size + 1) (some ⟨w2.heap.size, 0, none⟩) 1 1 [.int .i64 (x0 : Int), .int .i64 (x1 : Int), .int .i64 (x2 : Int)] rfl (reads_sec w2 _ _ _) (cells3 _ _ _) (by unfold maxLen; omega) (by omega) ?_; intro A3 c3 w3 hown hgrow hat; have HG := Lib.hid hgrow; have HAT := Lib.hid hat; have HOW := Lib.hid hown; clear hown hgrow hat))
          have HZ : Hid (w.heap.size ≤ w2.heap.size) := Nat.le_trans HB.out.size HB2.out.size
          have HG2 : Hid (But (OB (.slice A n c)) w2 w3) := ((But.refl _ w2).alloc _).grown HG.out (fun _ e => .inl e)
          have HNW : Hid (∀ k, OB (.slice A n c) k → w.heap.size ≤ k) := fun k e => HO.out.new k e
          go_roundw
          case rel =>
            refine ⟨A3, n + 1, c3, j + 1, rfl, by go_num, by omega, by have := HN.out; omega, by have := HN.out; show _ = _; omega, hjn2, ?_, ?_, ?_⟩
            · exact (HB.out.trans HB2.out).andThen HG2.out (fun k hk => .inr (HNW.out k hk))
            · rw [HSN.out]
              exact HO2.out.app (W := w2.alloc (.cells #[.int .i64 (x0 : Int), .int .i64 (x1 : Int), .int .i64 (x2 : Int)] 41)) HPL.out (by have := HZ.out; simp; omega) HOW.out HAT.out
            · exact HR2.out.but HG2.out (fun f => by have h1 := HNW.out _ f; have h2 := HC.out.ltn; omega) (fun f => by have h1 := HNW.out _ f; have h2 := HC.out.ltr; omega)
          case measure => simp [intOf]; omega
        · have CF2 : Hid (Calls Try.prog 37 #[.slice (some ⟨wr.heap.size, 0, none⟩) 3 3, nextV br] (wr.alloc (.cells #[.int .i64 0, .int .i64 0, .int .i64 0] 92)) fun r w' => r = .returned (.bool false) ∧ But (Just br) wr w') := CF.out.mono fun r w' ⟨ok, hr, ho, hb, hf⟩ => ⟨by rw [hr, ho, decide_eq_false h3], hb⟩
          have HE : Hid (ns.length < 3 * k) := by show _ < _; omega
          clear CF hx0 hx1 hx2 h3 hld
          go_wp2_with (go_at_call 37; refine CF2.out.mono ?_; rintro e w2 ⟨rfl, hb2⟩; have HB2 := Lib.hid hb2; clear hb2)
          go_ret2
          exact ⟨none, 0, 0, 8, rfl, by rw [if_neg h4, if_pos HE.out], HB.out.trans HB2.out, fun h => by cases h⟩
      · obtain rfl : j = k := by omega
        go_wp2
        go_ret2
        exact ⟨A, n, c, 0, rfl, by rw [if_neg h4, if_neg (by omega)], HB.out, fun _ => ⟨HN.out, HO.out, HR.out⟩⟩
end Go.Proofs.Ytlkcelmamenhpaa
