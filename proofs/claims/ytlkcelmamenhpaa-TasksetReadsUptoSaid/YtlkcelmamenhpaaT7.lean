/- The contract of readTasks. -/
import Derived.Test.YtlkcelmamenhpaaT6
namespace Go.Proofs.Ytlkcelmamenhpaa
open Go.ChangeShapes Go.WideShapes Go.ChangeAt Go.RowKit Go.Deep
theorem pTasks_step (k : Nat) (l : List Nat) : pTasks (k + 1) l = if tErr l ≠ 0 then (tErr l, [], []) else if (pTasks k (tRest l)).1 ≠ 0 then ((pTasks k (tRest l)).1, [], []) else (0, tAt l :: (pTasks k (tRest l)).2.1, (pTasks k (tRest l)).2.2) := by
  rw [pTasks]
  unfold tErr tRest tAt
  generalize l.getD 3 0 = q
  by_cases h1 : l.length < 4
  · rw [if_pos h1, if_pos (by rw [if_pos h1]; simp), if_pos h1]
  · rw [if_neg h1, if_neg h1]
    by_cases h2 : 4 < q
    · rw [if_pos h2, if_pos h2, if_pos (by simp)]
    · rw [if_neg h2, if_neg h2]
      by_cases h3 : l.length - 4 < 3 * q
      · rw [if_pos h3, if_pos h3, if_pos (by simp)]
      · rw [if_neg h3, if_neg h3, if_neg (c := (0 : Nat) ≠ 0) (by simp)]
/-- So many tasks are read (D), so many are left, out of these numbers. -/
structure Pt (k : Nat) (ns : List Nat) (D : List Tsk) (r : Nat) (ms : List Nat) : Prop where
  err : (pTasks k ns).1 = (pTasks r ms).1
  ans : (pTasks r ms).1 = 0 → (pTasks k ns).2 = (D ++ (pTasks r ms).2.1, (pTasks r ms).2.2)
theorem Pt.start (k : Nat) (ns : List Nat) : Pt k ns [] k ns := ⟨rfl, fun _ => rfl⟩
theorem Pt.next {k r : Nat} {ns ms : List Nat} {D : List Tsk} (h : Pt k ns D (r + 1) ms) (he : tErr ms = 0) : Pt k ns (D ++ [tAt ms]) r (tRest ms) := by
  have h1 := h.err
  have h2 := h.ans
  rw [pTasks_step, if_neg (by simp [he])] at h1 h2
  by_cases h3 : (pTasks r (tRest ms)).1 ≠ 0
  · rw [if_pos h3] at h1
    exact ⟨h1, fun e => absurd e h3⟩
  · rw [if_neg h3] at h1 h2
    have h3 : (pTasks r (tRest ms)).1 = 0 := Decidable.not_not.1 h3
    exact ⟨h1.trans h3.symm, fun _ => by rw [h2 rfl]; simp⟩
theorem Pt.bad {k r : Nat} {ns ms : List Nat} {D : List Tsk} (h : Pt k ns D (r + 1) ms) (he : tErr ms ≠ 0) : (pTasks k ns).1 = tErr ms := by
  have h1 := h.err
  rw [pTasks_step, if_pos he] at h1
  exact h1
theorem Pt.done {k : Nat} {ns ms : List Nat} {D : List Tsk} (h : Pt k ns D 0 ms) : (pTasks k ns).1 = 0 ∧ (pTasks k ns).2.1 = D ∧ (pTasks k ns).2.2 = ms := by
  have h2 := h.ans rfl
  rw [pTasks] at h2
  exact ⟨h.err, by rw [h2]; simp, by rw [h2]⟩
def tvC (x : Tsk × Value) : List Value := [.int .i64 x.1.p, .int .i64 x.1.d, .int .i64 x.1.w, x.2]
/-- A slice of tasks of the call's own, with their sections. -/
structure Ot (w0 w : World) (v : Value) (L : List (Tsk × Value)) : Prop where
  own : w.ownsRow 0 39 4 v L.length (L.flatMap tvC)
  new : ∀ j, v.ownBlock = some j → w0.heap.size ≤ j
  secs : ∀ x ∈ L, Os w0 w x.2 x.1.secs ∧ ∀ j, x.2.ownBlock = some j → v.ownBlock ≠ some j
section
variable {w0 w W w2 : World} {v : Value} {L : List (Tsk × Value)} {n c : Nat} {A : Option Addr} {x : Tsk × Value}
theorem Ot.nil : Ot w0 w (.slice none 0 0) [] := ⟨World.ownsRow_nil _ _ _ _, own_none, by simp⟩
theorem Ot.but {S : Nat → Prop} (h : Ot w0 w v L) (hb : But S w W) (hs : ∀ j, S j → j < w0.heap.size) : Ot w0 W v L :=
  ⟨owns_but h.own hb (fun j e f => by have := h.new j e; have := hs j f; omega), h.new, fun x hx => ⟨(h.secs x hx).1.but hb (fun j e f => by have := (h.secs x hx).1.new j e; have := hs j f; omega), (h.secs x hx).2⟩⟩
theorem Ot.row (h : Ot w0 w v L) (hn : L.length = n) : w.ownsRow 0 39 4 v n (L.flatMap tvC) := by rw [← hn]; exact h.own
theorem Ot.app (h : Ot w0 w v L) (hn : L.length = n) (hb : But No w W) (hW : w0.heap.size ≤ w.heap.size) (hx : Os w0 w x.2 x.1.secs) (hxn : ∀ j, x.2.ownBlock = some j → v.ownBlock ≠ some j)
    (ho : w2.ownsRow 0 39 4 (.slice A (n + 1) c) (n + 1) (L.flatMap tvC ++ tvC x)) (hg : W.grownBy w2 v.ownBlock)
    (hat : (Value.slice A (n + 1) c).ownBlock = v.ownBlock ∨ (Value.slice A (n + 1) c).ownBlock = some W.heap.size) : Ot w0 w2 (.slice A (n + 1) c) (L ++ [x]) := by
  have hs := hb.size
  have hgb := grown_but hg
  refine ⟨?_, own_new h.new hat (by omega), fun y hy => ?_⟩
  · rw [List.length_append, List.flatMap_append, hn]
    simpa using ho
  · have hy2 : Os w0 w y.2 y.1.secs ∧ ∀ j, y.2.ownBlock = some j → v.ownBlock ≠ some j := by
      rcases List.mem_append.1 hy with hy | hy
      · exact h.secs y hy
      · obtain rfl : y = x := by simpa using hy
        exact ⟨hx, hxn⟩
    refine ⟨(hy2.1.but hb (fun _ _ f => f)).but hgb (fun j e f => hy2.2 j e f), fun j e => ?_⟩
    have hl := hy2.1.lt j e
    rcases hat with q | q
    · rw [q]; exact hy2.2 j e
    · rw [q]; intro f; cases f; omega
end
theorem reads_tsk (w : World) (o : Obj) (a b c : Int) (v : Value) : Reads ((w.alloc o).alloc (.cells #[.int .i64 a, .int .i64 b, .int .i64 c, v] 39)) (w.heap.size + 2) 4 (some ⟨w.heap.size + 1, 0, none⟩) 1 [.int .i64 a, .int .i64 b, .int .i64 c, v] :=
  ⟨rfl, fun _ => ⟨_, rfl, by show w.heap.size + 1 < w.heap.size + 2; omega, World.news_of_block (cs := #[.int .i64 a, .int .i64 b, .int .i64 c, v]) (t := 39) (fr := (0, 0)) (blk2 w o _ _)⟩⟩
theorem cells_tsk (a b c : Int) (A : Option Addr) (n m : Nat) : ∀ u ∈ [Value.int .i64 a, Value.int .i64 b, Value.int .i64 c, Value.slice A n m], u.oneCell' = true := by simp [Value.oneCell']
theorem info39 : (Try.prog.info? 39).map (fun i => (i.zero, i.size, i.bytes)) = some (some (.agg #[.int .i64 0, .int .i64 0, .int .i64 0, .slice none 0 0]), 4, 48) := by kernel_rfl
def RetTasks (w : World) (br bn : Nat) (ns : List Nat) (k : Nat) (r : Ending) (w' : World) : Prop :=
  ∃ A n c E, r = .returned (.tuple #[.slice A n c, .int .i64 ((E : Nat) : Int)]) ∧ E = (if 24 < k then 7 else (pTasks k ns).1) ∧ But (Just br) w w' ∧
    (E = 0 → ∃ L, L.map (·.1) = (pTasks k ns).2.1 ∧ L.length = n ∧ Ot w w' (.slice A n c) L ∧ Rc w' br bn (pTasks k ns).2.2)
theorem tErr_fit {ns : List Nat} (h : ∀ x ∈ ns, x ≤ 9223372036854775807) : ∀ x ∈ tRest ns, x ≤ 9223372036854775807 := fun x hx => h x (List.mem_of_mem_drop hx)
set_option maxRecDepth 100000 in
set_option maxHeartbeats 1000000 in
theorem readTasks_any (br bn k : Nat) (ns : List Nat) (w : World) (h : Rc w br bn ns) (hfit : ∀ x ∈ ns, x ≤ 9223372036854775807) (hk : k ≤ 9223372036854775807) : Calls Try.prog 38 #[.int .i64 (k : Int), nextV br] w (RetTasks w br bn ns k) := by
  have HC := Lib.hid h
  have HF := Lib.hid hfit
  clear h hfit
  by_cases h4 : 24 < k
  · go_enter Try.func38, Try.ntmps38
    go_wp2
    go_ret2
    exact ⟨none, 0, 0, 7, rfl, by rw [if_pos h4], But.refl _ _, fun h => by cases h⟩
  · obtain ⟨i0, hi0, hi1, hi2, hi3⟩ := info_parts info39
    have I0 : Hid (Try.prog.info? 39 = some i0 ∧ i0.zero = some (.agg #[.int .i64 0, .int .i64 0, .int .i64 0, .slice none 0 0]) ∧ i0.size = 4 ∧ i0.bytes = 48) := ⟨hi0, hi1, hi2, hi3⟩
    clear hi0 hi1 hi2 hi3
    go_enter Try.func38, Try.ntmps38
    go_wp2
    go_loopw [6, 12] (fun u i wr => ∃ (A : Option Addr) (n c j : Nat) (L : List (Tsk × Value)) (ms : List Nat), u = .slice A n c ∧ i = .int .i64 (j : Int) ∧ j ≤ k ∧ n ≤ 24 ∧ Hid (n = j) ∧ Hid (L.length = n) ∧ Hid (But (Just br) w wr) ∧ Hid (Ot w wr (.slice A n c) L) ∧ Hid (Rc wr br bn ms) ∧ Hid (∀ x ∈ ms, x ≤ 9223372036854775807) ∧ Hid (Pt k ns (L.map (·.1)) (k - j) ms)) (fun _ i _ => k - (intOf i).toNat)
    case atStart => exact ⟨none, 0, 0, 0, [], ns, rfl, rfl, by omega, by omega, rfl, rfl, But.refl _ _, Ot.nil, HC, HF, Pt.start k ns⟩
    case round =>
      obtain ⟨A, n, c, j, L, ms, rfl, rfl, hj, hn4, HN, HL, HB, HO, HR, HX, HP⟩ := hrel
      by_cases hlt : j < k
      · have CT := Lib.hid (readTask_any br bn ms wr HR.out HX.out)
        have HP2 : Hid (Pt k ns (L.map (·.1)) (k - (j + 1) + 1) ms) := by rw [show k - (j + 1) + 1 = k - j by omega]; exact HP
        clear HP
        by_cases he : tErr ms = 0
        · have CT2 : Hid (Calls Try.prog 42 #[nextV br] wr fun r w' => ∃ (t : Tsk) (A : Option Addr) (n c : Nat), r = .returned (.tuple #[tskV t A n c, .int .i64 0]) ∧ But (Just br) wr w' ∧ t = tAt ms ∧ t.secs.length = n ∧ Os wr w' (.slice A n c) t.secs ∧ Rc w' br bn (tRest ms)) := CT.out.mono fun r w' ⟨t, A, n, c, E, hr, hE, hb, hf⟩ => by
            have e0 : E = 0 := by rw [hE, he]
            subst e0
            obtain ⟨f1, f2, f3, f4⟩ := hf rfl
            exact ⟨t, A, n, c, hr, hb, f1, f2, f3, f4⟩
          have HP3 := Lib.hid (HP2.out.next he)
          clear CT HP2 he
          go_wp2_with (first | (go_at_call 42; refine CT2.out.mono ?_; rintro e w2 ⟨t, A2, n2, c2, rfl, hb2, ht2, hn2, ho2, hr2⟩; have HB2 := Lib.hid hb2; have HT2 := Lib.hid ht2; have HS2 := Lib.hid ho2; have HR2 := Lib.hid hr2; have HN2 := Lib.hid hn2; have HO2 := Lib.hid (HO.out.but hb2 (fun j f => by have h2 := HC.out.ltr; unfold Just at f; omega)); have ROW := Lib.hid (HO2.out.row HL.out); clear hb2 ht2 hn2 ho2 hr2) | (at_builtin; refine wpList_append_sh _ rfl _ _ 22 rfl 39 i0 _ 4 48 Try.underlying22 I0.out.1 I0.out.2.1 I0.out.2.2.1 I0.out.2.2.2 rfl (by omega) (.slice A n c) n _ rfl ((ROW.out.alloc _).alloc _) (w2.heap.size + 2) (some ⟨w2.heap.size + 1, 0, none⟩) 1 1 [.int .i64 t.p, .int .i64 t.d, .int .i64 t.w, .slice A2 n2 c2] rfl (reads_tsk w2 _ _ _ _ _) (cells_tsk _ _ _ _ _ _) (by unfold maxLen; omega) (by omega) ?_; intro A3 c3 w3 hown hgrow hat; have HG := Lib.hid hgrow; have HAT := Lib.hid hat; have HOW := Lib.hid hown; clear hown hgrow hat))
          have HZ0 : Hid (w.heap.size ≤ wr.heap.size) := HB.out.size
          have HZ : Hid (wr.heap.size ≤ w2.heap.size) := HB2.out.size
          have HG2 : Hid (But (OB (.slice A n c)) w2 w3) := (((But.refl _ w2).alloc _).alloc _).grown HG.out (fun _ e => .inl e)
          have HNW : Hid (∀ k, OB (.slice A n c) k → w.heap.size ≤ k) := fun k e => HO.out.new k e
          have HLT : Hid (∀ j, (Value.slice A n c).ownBlock = some j → j < wr.heap.size) := fun j e => (HO.out.own.lt j e).2
          go_roundw
          case rel =>
            refine ⟨A3, n + 1, c3, j + 1, L ++ [(t, .slice A2 n2 c2)], tRest ms, rfl, by go_num, by omega, by have := HN.out; omega, by have := HN.out; show _ = _; omega, by show _ = _; rw [List.length_append, HL.out]; rfl, ?_, ?_, ?_, tErr_fit HX.out, ?_⟩
            · exact (HB.out.trans HB2.out).andThen HG2.out (fun k hk => .inr (HNW.out k hk))
            · exact HO2.out.app (x := (t, .slice A2 n2 c2)) HL.out (((But.refl _ w2).alloc _).alloc _) (Nat.le_trans HZ0.out HZ.out) (HS2.out.start HZ0.out) (fun j e f => by have h1 := HS2.out.new j e; have h2 := HLT.out j f; omega) HOW.out HG.out HAT.out
            · exact HR2.out.but HG2.out (fun f => by have h1 := HNW.out _ f; have h2 := HC.out.ltn; omega) (fun f => by have h1 := HNW.out _ f; have h2 := HC.out.ltr; omega)
            · have := HP3.out
              rw [← HT2.out] at this
              show Pt _ _ _ _ _
              rw [List.map_append]; exact this
          case measure => simp [intOf]; omega
        · obtain ⟨E, hE⟩ : ∃ E, E = tErr ms := ⟨_, rfl⟩
          have CT2 : Hid (Calls Try.prog 42 #[nextV br] wr fun r w' => ∃ (t : Tsk) (A : Option Addr) (n c : Nat), r = .returned (.tuple #[tskV t A n c, .int .i64 (E : Int)]) ∧ But (Just br) wr w') := CT.out.mono fun r w' ⟨t, A, n, c, E', hr, hE', hb, hf⟩ => by
            have e0 : E' = E := by rw [hE, hE']
            subst e0
            exact ⟨t, A, n, c, hr, hb⟩
          have HP3 : Hid ((pTasks k ns).1 = E) := by show _ = _; rw [hE]; exact HP2.out.bad he
          rw [← hE] at he
          have hne : ((E : Int) != 0) = true := by rw [bne_iff_ne]; omega
          clear CT HP2 hE
          go_wp2_with (go_at_call 42; refine CT2.out.mono ?_; rintro e w2 ⟨t, A2, n2, c2, rfl, hb2⟩; have HB2 := Lib.hid hb2; clear hb2)
          go_ret2
          exact ⟨none, 0, 0, E, rfl, by rw [if_neg h4, HP3.out], (HB.out.trans HB2.out).alloc _, fun h => absurd h he⟩
      · have HP2 : Hid (Pt k ns (L.map (·.1)) 0 ms) := by rw [show 0 = k - j by omega]; exact HP
        obtain rfl : j = k := by omega
        go_wp2
        go_ret2
        obtain ⟨d1, d2, d3⟩ := HP2.out.done
        exact ⟨A, n, c, 0, rfl, by rw [if_neg h4, d1], HB.out, fun _ => ⟨L, d2.symm, HL.out, HO.out, by rw [d3]; exact HR.out⟩⟩
end Go.Proofs.Ytlkcelmamenhpaa
