/- Comparisons of arrays and sections; the contracts of sameTask and Same. -/
import Derived.Test.YtlkcelmamenhpaaT10
namespace Go.Proofs.Ytlkcelmamenhpaa
open Go.ChangeShapes Go.WideShapes Go.ChangeAt Go.RowKit Go.Deep
theorem info3e : ∃ i, Try.prog.info? 3 = some i := ⟨_, rfl⟩
theorem cells_of3 : Try.prog.cellsOf 3 = 1 := by kernel_rfl
theorem eq_items (d : Nat) (w : World) (X Y : Array Value) (fx fy : Nat → Int) : ∀ is : List Nat, (∀ i ∈ is, X[i]? = some (.int .i64 (fx i)) ∧ Y[i]? = some (.int .i64 (fy i))) →
    (Op.eqItems (d + 1) 3 1 X Y is).run Try.prog w = .ok (is.all fun i => fx i == fy i) w
  | [], _ => by simp [Op.eqItems]
  | i :: is, h => by
    have h0 := h i (by simp)
    have ih := eq_items d w X Y fx fy is (fun j hj => h j (by simp [hj]))
    simp [Op.eqItems, part, go_sem, Try.underlying3, h0.1, h0.2]
    by_cases e : fx i = fy i
    · simp [e, ih]
    · simp [e]
def arrV (l : List Int) : Array Value := (l.map (Value.int .i64)).toArray
theorem eq_arr {t : TypeId} {n : Nat} (ht : Try.prog.underlying t = some (.array n 3)) (xs ys : List Int) (hx : xs.length = n) (hy : ys.length = n) (w : World) : (Op.equalIn 10000 t (.agg (arrV xs)) (.agg (arrV ys))).run Try.prog w = .ok (decide (xs = ys)) w := by
  obtain ⟨i, hi⟩ := info3e
  rw [run_equalIn_array w 9999 _ _ ht hi, cells_of3, eq_items 9998 w (arrV xs) (arrV ys) (fun j => xs.getD j 0) (fun j => ys.getD j 0) _ (fun j hj => by
    have hj' : j < n := List.mem_range.1 hj
    unfold arrV
    have h1 : j < xs.length := by omega
    have h2 : j < ys.length := by omega
    simp [List.getD, h1, h2])]
  congr 1
  by_cases e : xs = ys
  · subst e; simp
  · rw [decide_eq_false e, Bool.eq_false_iff]
    intro f
    apply e
    rw [List.all_eq_true] at f
    apply List.ext_getElem (by omega)
    intro j h1 h2
    have := f j (List.mem_range.2 (by omega))
    simpa [List.getD, h1, h2] using this
theorem neq_head (s t : Sys) {n m : Nat} (hn : s.ts.length = n) (hm : t.ts.length = m) (w : World) : (binOp .neq 63 (headV s n) (headV t m)).run Try.prog w = .ok (.bool (!decide (headL s = headL t))) w := by
  subst hn hm
  rw [run_neq_struct]
  have := eq_arr Try.underlying63 (headL s) (headL t) rfl rfl w
  have e1 : ∀ u : Sys, (#[.int .i64 1, .int .i64 u.co, .int .i64 u.po, .int .i64 u.pr, .int .i64 u.re, .int .i64 u.sw, .int .i64 u.fi, .int .i64 u.la, .int .i64 u.rs, .int .i64 (u.ts.length : Int)] : Array Value) = arrV (headL u) := fun u => rfl
  rw [e1 s, e1 t, this]
  rfl
theorem neq_thead (s t : Tsk) {n m : Nat} (hn : s.secs.length = n) (hm : t.secs.length = m) (w : World) : (binOp .neq 75 (theadV s n) (theadV t m)).run Try.prog w = .ok (.bool (!decide (theadL s = theadL t))) w := by
  subst hn hm
  rw [run_neq_struct]
  have := eq_arr Try.underlying75 (theadL s) (theadL t) rfl rfl w
  have e1 : ∀ u : Tsk, (#[.int .i64 u.p, .int .i64 u.d, .int .i64 u.w, .int .i64 (u.secs.length : Int)] : Array Value) = arrV (theadL u) := fun u => rfl
  rw [e1 s, e1 t, this]
  rfl
theorem guard_75 (s t : Tsk) (n m : Nat) (op : BinOp) (x y : Operand) (w : World) : (eqGuard op 75 x y (theadV s n) (theadV t m)).run Try.prog w = .ok () w := run_eqGuard_agg w op 75 x y _ _ (by kernel_rfl)
theorem guard_63 (s t : Sys) (n m : Nat) (op : BinOp) (x y : Operand) (w : World) : (eqGuard op 63 x y (headV s n) (headV t m)).run Try.prog w = .ok () w := run_eqGuard_agg w op 63 x y _ _ (by kernel_rfl)
theorem neq_sec (x y : Int × Int × Int) (w : World) : (binOp .neq 41 (.agg #[.int .i64 x.1, .int .i64 x.2.1, .int .i64 x.2.2]) (.agg #[.int .i64 y.1, .int .i64 y.2.1, .int .i64 y.2.2])).run Try.prog w = .ok (.bool (!decide (x = y))) w := by
  obtain ⟨x0, x1, x2⟩ := x
  obtain ⟨y0, y1, y2⟩ := y
  rw [run_neq_struct, run_equalIn_agg w 9999 41 _ _ (by kernel_rfl) (by kernel_rfl)]
  have hf : ∃ f0 f1 f2, (Try.prog.fieldsOf 41).toList = [f0, f1, f2] ∧ f0.name = "At" ∧ f0.type = 3 ∧ f0.offset = 0 ∧ f1.name = "Res" ∧ f1.type = 3 ∧ f1.offset = 1 ∧ f2.name = "Len" ∧ f2.type = 3 ∧ f2.offset = 2 := ⟨_, _, _, rfl, rfl, rfl, rfl, rfl, rfl, rfl, rfl, rfl, rfl⟩
  obtain ⟨f0, f1, f2, hf, n0, t0, o0, n1, t1, o1, n2, t2, o2⟩ := hf
  rw [hf]
  simp [Op.eqFields, n0, t0, o0, n1, t1, o1, n2, t2, o2, part, go_sem, Try.underlying3]
  by_cases a : x0 = y0 <;> by_cases b : x1 = y1 <;> by_cases c : x2 = y2 <;> simp [a, b, c]
abbrev T4 (w : World) (b : Nat) (t : Tsk) (A : Option Addr) (n c : Nat) : Prop := w.cell? ⟨b, 0, none⟩ = some (.int .i64 t.p) ∧ w.cell? ⟨b, 1, none⟩ = some (.int .i64 t.d) ∧ w.cell? ⟨b, 2, none⟩ = some (.int .i64 t.w) ∧ w.cell? ⟨b, 3, none⟩ = some (.slice A n c)
theorem keepT4 {w1 w2 : World} {b : Nat} {t : Tsk} {A : Option Addr} {n c : Nat} (h : T4 w1 b t A n c) (hb : But No w1 w2) : T4 w2 b t A n c := ⟨cell_keep h.1 hb, cell_keep h.2.1 hb, cell_keep h.2.2.1 hb, cell_keep h.2.2.2 hb⟩
theorem keepT {w w1 w2 : World} {b b' : Nat} {t t' : Tsk} {A A' : Option Addr} {n n' c c' : Nat} (h : T4 w1 b t A n c ∧ T4 w1 b' t' A' n' c' ∧ But No w w1) (hb : But No w1 w2) : T4 w2 b t A n c ∧ T4 w2 b' t' A' n' c' ∧ But No w w2 := ⟨keepT4 h.1 hb, keepT4 h.2.1 hb, h.2.2.trans hb⟩
theorem two_tsk (w : World) (a b : Tsk) (A B : Option Addr) (n c m d : Nat) : ∃ w2, (w.alloc (.cells #[.int .i64 a.p, .int .i64 a.d, .int .i64 a.w, .slice A n c] 39)).alloc (.cells #[.int .i64 b.p, .int .i64 b.d, .int .i64 b.w, .slice B m d] 39) = w2 ∧ But No w w2 ∧ T4 w2 w.heap.size a A n c ∧ T4 w2 (w.heap.size + 1) b B m d :=
  ⟨_, rfl, ((But.refl _ _).alloc _).alloc _, tsk_cells (t := a) (e := 39) ((Blk.new w _ _).alloc _), tsk_cells (t := b) (e := 39) (blk2 w _ _ _)⟩
theorem tskN_eq {a b : Tsk} : tskN a = tskN b ↔ theadL a = theadL b ∧ a.secs = b.secs := by
  constructor
  · intro h
    obtain ⟨h1, _⟩ := tskN_inj (a := [a]) (b := [b]) (x := []) (y := []) rfl (by simp [h])
    cases h1
    exact ⟨rfl, rfl⟩
  · rintro ⟨h1, h2⟩
    rw [tskN_head, tskN_head, h1, h2]
theorem list_of_at {α : Type} {a b : List α} (hl : a.length = b.length) (h : ∀ j x y, j < a.length → a[j]? = some x → b[j]? = some y → x = y) : a = b := by
  apply List.ext_getElem hl
  intro j h1 h2
  exact h j _ _ h1 (List.getElem?_eq_getElem h1) (List.getElem?_eq_getElem h2)
set_option maxRecDepth 100000 in
set_option maxHeartbeats 2000000 in
theorem sameTask_any (a b : Tsk) (A B : Option Addr) (n c m d : Nat) (w : World) (ha : RSec w A n a.secs) (hb : RSec w B m b.secs) :
    Calls Try.prog 30 #[tskV a A n c, tskV b B m d] w fun e w' => e = .returned (.bool (decide (tskN a = tskN b))) ∧ But No w w' := by
  have HA := Lib.hid ha
  have HB := Lib.hid hb
  have hmx := ha.max
  have HLA := Lib.hid ha.len
  have HLB := Lib.hid hb.len
  clear ha hb
  have CA : ∀ W, Hid (Calls Try.prog 34 #[tskV a A n c] W fun e w' => e = .returned (theadV a n) ∧ But No W w') := fun W => taskHead_any a A n c W
  have CB : ∀ W, Hid (Calls Try.prog 34 #[tskV b B m d] W fun e w' => e = .returned (theadV b m) ∧ But No W w') := fun W => taskHead_any b B m d W
  have hnq := neq_thead a b HLA.out HLB.out
  have hgd := guard_75 a b n m .neq
  obtain ⟨va, hva⟩ : ∃ v, v = theadV a n := ⟨_, rfl⟩
  obtain ⟨vb, hvb⟩ : ∃ v, v = theadV b m := ⟨_, rfl⟩
  rw [← hva, ← hvb] at hnq hgd
  rw [← hva] at CA
  rw [← hvb] at CB
  clear hva hvb
  obtain ⟨q, hq⟩ : ∃ q, (!decide (theadL a = theadL b)) = q := ⟨_, rfl⟩
  rw [hq] at hnq
  obtain ⟨w2, hw2, hb2, ht1, ht2⟩ := two_tsk w a b A B n c m d
  have HW2 := Lib.hid hw2
  have HB2 := Lib.hid hb2
  have HT1 := Lib.hid ht1
  have HT2 := Lib.hid ht2
  clear hw2 hb2 ht1 ht2
  have HQ := Lib.hid hq
  clear hq
  obtain ⟨b1, hb1⟩ : ∃ b1, b1 = w.heap.size := ⟨_, rfl⟩
  unfold tskV at CA CB ⊢
  go_enter Try.func30, Try.ntmps30
  go_wp2_with fail
  rw [HW2.out]
  go_region_held3 (fun w' => (w'.cell? ⟨w.heap.size, 0, none⟩ = some (.int .i64 a.p) ∧ w'.cell? ⟨w.heap.size, 1, none⟩ = some (.int .i64 a.d) ∧ w'.cell? ⟨w.heap.size, 2, none⟩ = some (.int .i64 a.w) ∧ w'.cell? ⟨w.heap.size, 3, none⟩ = some (.slice A n c)) ∧ (w'.cell? ⟨w.heap.size + 1, 0, none⟩ = some (.int .i64 b.p) ∧ w'.cell? ⟨w.heap.size + 1, 1, none⟩ = some (.int .i64 b.d) ∧ w'.cell? ⟨w.heap.size + 1, 2, none⟩ = some (.int .i64 b.w) ∧ w'.cell? ⟨w.heap.size + 1, 3, none⟩ = some (.slice B m d)) ∧ But No w w')
    (first | exact ⟨HT1.out, HT2.out, HB2.out.drew⟩ | exact keepT (by assumption) hbq)
    (first | (go_at_call 34; ((with_reducible refine (CA _).out.mono ?_); rintro e wq ⟨rfl, hbq⟩)) | (go_at_call 34; ((with_reducible refine (CB _).out.mono ?_); rintro e wq ⟨rfl, hbq⟩)))
  rename_i hH
  have HF := Lib.hid hH.2.2
  have HX := Lib.hid hH.1
  have HY := Lib.hid hH.2.1
  clear hH CA CB hnq hgd HW2 HB2 HT1 HT2
  cases q with
  | true =>
    have HE : Hid (decide (tskN a = tskN b) = false) := by
      have := HQ.out
      rw [Bool.not_eq_true', decide_eq_false_iff_not] at this
      exact decide_eq_false (fun e => this (tskN_eq.1 e).1)
    go_wp2
    go_ret
    exact ⟨retb2 HE.out.symm, HF.out⟩
  | false =>
    have hth : theadL a = theadL b := by
      have := HQ.out
      rw [Bool.not_eq_false', decide_eq_true_iff] at this
      exact this
    have hmn : m = n := by
      have := congrArg (fun l => l.getD 3 0) hth
      simp only [theadL, List.getD_cons_succ, List.getD_cons_zero] at this
      have h1 := HLA.out
      have h2 := HLB.out
      omega
    subst hmn
    have HTH := Lib.hid hth
    clear hth
    generalize w.heap.size = ba at *
    obtain ⟨bb, hbb⟩ : ∃ bb, bb = ba + 1 := ⟨_, rfl⟩
    rw [← hbb] at HY ⊢
    clear hbb
    have hx3 := HX.out.2.2.2
    go_wp2
    clear hx3
    generalize hwq : wq = w0 at *
    clear hwq
    go_loopw [14] (fun i wr => ∃ k : Nat, i = .int .i64 (k : Int) ∧ k ≤ m ∧ Hid (But No w0 wr) ∧ Hid (∀ j x y, j < k → a.secs[j]? = some x → b.secs[j]? = some y → x = y)) (fun i _ => m - (intOf i).toNat)
    case atStart => exact ⟨0, rfl, by omega, But.refl _ _, fun j _ _ hj => absurd hj (by omega)⟩
    case round =>
      obtain ⟨k, rfl, hk, HDB, HG⟩ := hrel
      by_cases hlt : k < m
      · obtain ⟨s1, o1, rfl, _, hc1⟩ := (HA.out.no (HF.out.trans HDB.out)).at_ (by omega)
        obtain ⟨s2, o2, rfl, _, hc2⟩ := (HB.out.no (HF.out.trans HDB.out)).at_ (by omega)
        obtain ⟨x, hx⟩ : ∃ x, a.secs[k]? = some x := ⟨_, List.getElem?_eq_getElem (by rw [HLA.out]; exact hlt)⟩
        obtain ⟨y, hy⟩ : ∃ y, b.secs[k]? = some y := ⟨_, List.getElem?_eq_getElem (by rw [HLB.out]; exact hlt)⟩
        obtain ⟨x0, x1, x2⟩ := hc1 k x hx
        obtain ⟨y0, y1, y2⟩ := hc2 k y hy
        have hnq := neq_sec x y
        have hx3 := cell_keep HX.out.2.2.2 HDB.out
        have hy3 := cell_keep HY.out.2.2.2 HDB.out
        have HPX := Lib.hid hx
        have HPY := Lib.hid hy
        clear hc1 hc2 hx hy
        by_cases e : x = y
        · have HXY := Lib.hid e
          rw [decide_eq_true e] at hnq
          clear e
          simp only [Bool.not_true] at hnq
          go_wp2_with fail
          go_quiet (fail)
          go_wp2
          go_roundw
          case rel =>
            refine ⟨k + 1, by go_num, by omega, ?_, fun j x' y' hj hx' hy' => ?_⟩
            · exact HDB.out.drewN _
            · by_cases e : j = k
              · subst e
                rw [HPX.out] at hx'
                rw [HPY.out] at hy'
                cases hx'
                cases hy'
                exact HXY.out
              · exact HG.out j x' y' (by omega) hx' hy'
          case measure => simp [intOf]; omega
        · have HE : Hid (decide (tskN a = tskN b) = false) := decide_eq_false (fun f => e (by
            have h1 := HPX.out
            rw [(tskN_eq.1 f).2, HPY.out] at h1
            cases h1; rfl))
          rw [decide_eq_false e] at hnq
          clear e
          simp only [Bool.not_false] at hnq
          go_wp2_with fail
          go_quiet (fail)
          go_wp2
          go_ret
          exact ⟨retb2 HE.out.symm, (HF.out.trans HDB.out).drewN _⟩
      · obtain rfl : k = m := by omega
        have HE : Hid (decide (tskN a = tskN b) = true) := decide_eq_true (tskN_eq.2 ⟨HTH.out, list_of_at (by rw [HLA.out, HLB.out]) (fun j x y hj => HG.out j x y (by rw [HLA.out] at hj; exact hj))⟩)
        go_wp2
        go_ret
        exact ⟨retb2 HE.out.symm, HF.out.trans HDB.out⟩
abbrev S9 (w : World) (b : Nat) (s : Sys) (A : Option Addr) (n c : Nat) : Prop := w.cell? ⟨b, 0, none⟩ = some (.int .i64 s.co) ∧ w.cell? ⟨b, 1, none⟩ = some (.int .i64 s.po) ∧ w.cell? ⟨b, 2, none⟩ = some (.int .i64 s.pr) ∧ w.cell? ⟨b, 3, none⟩ = some (.int .i64 s.re) ∧ w.cell? ⟨b, 4, none⟩ = some (.int .i64 s.sw) ∧ w.cell? ⟨b, 5, none⟩ = some (.int .i64 s.fi) ∧ w.cell? ⟨b, 6, none⟩ = some (.int .i64 s.la) ∧ w.cell? ⟨b, 7, none⟩ = some (.int .i64 s.rs) ∧ w.cell? ⟨b, 8, none⟩ = some (.slice A n c)
theorem keepS9 {w1 w2 : World} {b : Nat} {s : Sys} {A : Option Addr} {n c : Nat} (h : S9 w1 b s A n c) (hb : But No w1 w2) : S9 w2 b s A n c := by
  obtain ⟨h0, h1, h2, h3, h4, h5, h6, h7, h8⟩ := h
  exact ⟨cell_keep h0 hb, cell_keep h1 hb, cell_keep h2 hb, cell_keep h3 hb, cell_keep h4 hb, cell_keep h5 hb, cell_keep h6 hb, cell_keep h7 hb, cell_keep h8 hb⟩
theorem keepS {w w1 w2 : World} {b b' : Nat} {t t' : Sys} {A A' : Option Addr} {n n' c c' : Nat} (h : S9 w1 b t A n c ∧ S9 w1 b' t' A' n' c' ∧ But No w w1) (hb : But No w1 w2) : S9 w2 b t A n c ∧ S9 w2 b' t' A' n' c' ∧ But No w w2 := ⟨keepS9 h.1 hb, keepS9 h.2.1 hb, h.2.2.trans hb⟩
theorem two_sys (w : World) (s t : Sys) (A B : Option Addr) (n c m d : Nat) : ∃ w2, (w.alloc (.cells #[.int .i64 s.co, .int .i64 s.po, .int .i64 s.pr, .int .i64 s.re, .int .i64 s.sw, .int .i64 s.fi, .int .i64 s.la, .int .i64 s.rs, .slice A n c] 24)).alloc (.cells #[.int .i64 t.co, .int .i64 t.po, .int .i64 t.pr, .int .i64 t.re, .int .i64 t.sw, .int .i64 t.fi, .int .i64 t.la, .int .i64 t.rs, .slice B m d] 24) = w2 ∧ But No w w2 ∧ S9 w2 w.heap.size s A n c ∧ S9 w2 (w.heap.size + 1) t B m d :=
  ⟨_, rfl, ((But.refl _ _).alloc _).alloc _, sys_cells (s := s) ((Blk.new w _ _).alloc _), sys_cells (s := t) (blk2 w _ _ _)⟩
theorem nums_eq {s t : Sys} : nums s = nums t ↔ headL s = headL t ∧ s.ts = t.ts := by
  constructor
  · intro h
    cases nums_inj h
    exact ⟨rfl, rfl⟩
  · rintro ⟨h1, h2⟩
    rw [nums_head, nums_head, h1, h2]
theorem tsk_ext {a b : Tsk} (h : tskN a = tskN b) : a = b := by
  obtain ⟨h1, _⟩ := tskN_inj (a := [a]) (b := [b]) (x := []) (y := []) rfl (by simp [h])
  cases h1; rfl
/-- What a task in memory gives in a later world. -/
theorem RTsk.at1 {w : World} {A : Option Addr} {n : Nat} {ts : List Tsk} (h : RTsk w A n ts) {k : Nat} {t : Tsk} (ht : ts[k]? = some t) :
    ∃ b off A' c', A = some ⟨b, off, none⟩ ∧ w.cell? ⟨b, off + k * 4, none⟩ = some (.int .i64 t.p) ∧ w.cell? ⟨b, off + k * 4 + 1, none⟩ = some (.int .i64 t.d) ∧ w.cell? ⟨b, off + k * 4 + 2, none⟩ = some (.int .i64 t.w) ∧ w.cell? ⟨b, off + k * 4 + 3, none⟩ = some (.slice A' t.secs.length c') ∧ t.secs.length ≤ c' ∧ RSec w A' t.secs.length t.secs := by
  have hk : k < ts.length := (List.getElem?_eq_some_iff.1 ht).1
  obtain ⟨b, off, e, _, hc⟩ := h.at_ (by rw [← h.len]; omega)
  obtain ⟨h1, h2, h3, A', c', h4, h5, h6⟩ := hc k t ht
  exact ⟨b, off, A', c', e, h1, h2, h3, h4, h5, h6⟩
def eight (w' : World) (a b : Nat) (t : Tsk) (A : Option Addr) (n c : Nat) : Prop := w'.cell? ⟨a, b, none⟩ = some (.int .i64 t.p) ∧ w'.cell? ⟨a, b + 1, none⟩ = some (.int .i64 t.d) ∧ w'.cell? ⟨a, b + 2, none⟩ = some (.int .i64 t.w) ∧ w'.cell? ⟨a, b + 3, none⟩ = some (.slice A n c)
theorem keepQ {w w1 w2 : World} {p q a b a' b' : Nat} {t t' : Tsk} {A A' : Option Addr} {n n' c c' : Nat} {u v : Value}
    (h : w1.cell? ⟨p, 8, none⟩ = some u ∧ w1.cell? ⟨q, 8, none⟩ = some v ∧ (w1.cell? ⟨a, b, none⟩ = some (.int .i64 t.p) ∧ w1.cell? ⟨a, b + 1, none⟩ = some (.int .i64 t.d) ∧ w1.cell? ⟨a, b + 2, none⟩ = some (.int .i64 t.w) ∧ w1.cell? ⟨a, b + 3, none⟩ = some (.slice A n c)) ∧ (w1.cell? ⟨a', b', none⟩ = some (.int .i64 t'.p) ∧ w1.cell? ⟨a', b' + 1, none⟩ = some (.int .i64 t'.d) ∧ w1.cell? ⟨a', b' + 2, none⟩ = some (.int .i64 t'.w) ∧ w1.cell? ⟨a', b' + 3, none⟩ = some (.slice A' n' c')) ∧ But No w w1) (hb : But No w1 w2) :
    w2.cell? ⟨p, 8, none⟩ = some u ∧ w2.cell? ⟨q, 8, none⟩ = some v ∧ (w2.cell? ⟨a, b, none⟩ = some (.int .i64 t.p) ∧ w2.cell? ⟨a, b + 1, none⟩ = some (.int .i64 t.d) ∧ w2.cell? ⟨a, b + 2, none⟩ = some (.int .i64 t.w) ∧ w2.cell? ⟨a, b + 3, none⟩ = some (.slice A n c)) ∧ (w2.cell? ⟨a', b', none⟩ = some (.int .i64 t'.p) ∧ w2.cell? ⟨a', b' + 1, none⟩ = some (.int .i64 t'.d) ∧ w2.cell? ⟨a', b' + 2, none⟩ = some (.int .i64 t'.w) ∧ w2.cell? ⟨a', b' + 3, none⟩ = some (.slice A' n' c')) ∧ But No w w2 := by
  obtain ⟨h1, h2, ⟨h3, h4, h5, h6⟩, ⟨h7, h8, h9, h10⟩, h11⟩ := h
  exact ⟨cell_keep h1 hb, cell_keep h2 hb, ⟨cell_keep h3 hb, cell_keep h4 hb, cell_keep h5 hb, cell_keep h6 hb⟩, ⟨cell_keep h7 hb, cell_keep h8 hb, cell_keep h9 hb, cell_keep h10 hb⟩, h11.trans hb⟩
set_option maxRecDepth 100000 in
set_option maxHeartbeats 2000000 in
theorem same_any (s t : Sys) (A B : Option Addr) (n c m d : Nat) (w : World) (ha : RSys w A n c s) (hb : RSys w B m d t) :
    Calls Try.prog 14 #[sysV s A n c, sysV t B m d] w fun e w' => e = .returned (.bool (decide (nums s = nums t))) ∧ But No w w' := by
  have HA := Lib.hid ha.ts
  have HB := Lib.hid hb.ts
  have hmx := ha.ts.max
  have HLA := Lib.hid ha.ts.len
  have HLB := Lib.hid hb.ts.len
  clear ha hb
  have CA : ∀ W, Hid (Calls Try.prog 29 #[sysV s A n c] W fun e w' => e = .returned (headV s n) ∧ But No W w') := fun W => systemHead_any s A n c W
  have CB : ∀ W, Hid (Calls Try.prog 29 #[sysV t B m d] W fun e w' => e = .returned (headV t m) ∧ But No W w') := fun W => systemHead_any t B m d W
  have hnq := neq_head s t HLA.out HLB.out
  have hgd := guard_63 s t n m .neq
  obtain ⟨va, hva⟩ : ∃ v, v = headV s n := ⟨_, rfl⟩
  obtain ⟨vb, hvb⟩ : ∃ v, v = headV t m := ⟨_, rfl⟩
  rw [← hva, ← hvb] at hnq hgd
  rw [← hva] at CA
  rw [← hvb] at CB
  clear hva hvb
  obtain ⟨q, hq⟩ : ∃ q, (!decide (headL s = headL t)) = q := ⟨_, rfl⟩
  rw [hq] at hnq
  obtain ⟨w2, hw2, hb2, ht1, ht2⟩ := two_sys w s t A B n c m d
  have HW2 := Lib.hid hw2
  have HB2 := Lib.hid hb2
  have HT1 := Lib.hid ht1
  have HT2 := Lib.hid ht2
  clear hw2 hb2 ht1 ht2
  have HQ := Lib.hid hq
  clear hq
  unfold sysV at CA CB ⊢
  go_enter Try.func14, Try.ntmps14
  go_wp2_with fail
  rw [HW2.out]
  go_region_held3 (fun w' => (w'.cell? ⟨w.heap.size, 0, none⟩ = some (.int .i64 s.co) ∧ w'.cell? ⟨w.heap.size, 1, none⟩ = some (.int .i64 s.po) ∧ w'.cell? ⟨w.heap.size, 2, none⟩ = some (.int .i64 s.pr) ∧ w'.cell? ⟨w.heap.size, 3, none⟩ = some (.int .i64 s.re) ∧ w'.cell? ⟨w.heap.size, 4, none⟩ = some (.int .i64 s.sw) ∧ w'.cell? ⟨w.heap.size, 5, none⟩ = some (.int .i64 s.fi) ∧ w'.cell? ⟨w.heap.size, 6, none⟩ = some (.int .i64 s.la) ∧ w'.cell? ⟨w.heap.size, 7, none⟩ = some (.int .i64 s.rs) ∧ w'.cell? ⟨w.heap.size, 8, none⟩ = some (.slice A n c)) ∧ (w'.cell? ⟨w.heap.size + 1, 0, none⟩ = some (.int .i64 t.co) ∧ w'.cell? ⟨w.heap.size + 1, 1, none⟩ = some (.int .i64 t.po) ∧ w'.cell? ⟨w.heap.size + 1, 2, none⟩ = some (.int .i64 t.pr) ∧ w'.cell? ⟨w.heap.size + 1, 3, none⟩ = some (.int .i64 t.re) ∧ w'.cell? ⟨w.heap.size + 1, 4, none⟩ = some (.int .i64 t.sw) ∧ w'.cell? ⟨w.heap.size + 1, 5, none⟩ = some (.int .i64 t.fi) ∧ w'.cell? ⟨w.heap.size + 1, 6, none⟩ = some (.int .i64 t.la) ∧ w'.cell? ⟨w.heap.size + 1, 7, none⟩ = some (.int .i64 t.rs) ∧ w'.cell? ⟨w.heap.size + 1, 8, none⟩ = some (.slice B m d)) ∧ But No w w')
    (first | exact ⟨HT1.out, HT2.out, HB2.out.drew⟩ | exact keepS (by assumption) hbq)
    (first | (go_at_call 29; ((with_reducible refine (CA _).out.mono ?_); rintro e wq ⟨rfl, hbq⟩)) | (go_at_call 29; ((with_reducible refine (CB _).out.mono ?_); rintro e wq ⟨rfl, hbq⟩)))
  rename_i hH
  have HF := Lib.hid hH.2.2
  have HX := Lib.hid hH.1.2.2.2.2.2.2.2.2
  have HY := Lib.hid hH.2.1.2.2.2.2.2.2.2.2
  clear hH CA CB hnq hgd HW2 HB2 HT1 HT2
  cases q with
  | true =>
    have HE : Hid (decide (nums s = nums t) = false) := by
      have := HQ.out
      rw [Bool.not_eq_true', decide_eq_false_iff_not] at this
      exact decide_eq_false (fun e => this (nums_eq.1 e).1)
    go_wp2
    go_ret
    exact ⟨retb2 HE.out.symm, HF.out⟩
  | false =>
    have hth : headL s = headL t := by
      have := HQ.out
      rw [Bool.not_eq_false', decide_eq_true_iff] at this
      exact this
    have hmn : m = n := by
      have := congrArg (fun l => l.getD 9 0) hth
      simp only [headL, List.getD_cons_succ, List.getD_cons_zero] at this
      have h1 := HLA.out
      have h2 := HLB.out
      omega
    subst hmn
    have HTH := Lib.hid hth
    clear hth
    generalize w.heap.size = ba at *
    obtain ⟨bb, hbb⟩ : ∃ bb, bb = ba + 1 := ⟨_, rfl⟩
    rw [← hbb] at HY ⊢
    clear hbb
    have hx3 := HX.out
    go_wp2
    clear hx3
    generalize hwq : wq = w0 at *
    clear hwq
    go_loopw [14] (fun i wr => ∃ k : Nat, i = .int .i64 (k : Int) ∧ k ≤ m ∧ Hid (But No w0 wr) ∧ Hid (∀ j x y, j < k → s.ts[j]? = some x → t.ts[j]? = some y → x = y)) (fun i _ => m - (intOf i).toNat)
    case atStart => exact ⟨0, rfl, by omega, But.refl _ _, fun j _ _ hj => absurd hj (by omega)⟩
    case round =>
      obtain ⟨k, rfl, hk, HDB, HG⟩ := hrel
      by_cases hlt : k < m
      · have HWR := Lib.hid (HF.out.trans HDB.out)
        obtain ⟨x, hx⟩ : ∃ x, s.ts[k]? = some x := ⟨_, List.getElem?_eq_getElem (by rw [HLA.out]; exact hlt)⟩
        obtain ⟨y, hy⟩ : ∃ y, t.ts[k]? = some y := ⟨_, List.getElem?_eq_getElem (by rw [HLB.out]; exact hlt)⟩
        obtain ⟨s1, o1, A1, c1, rfl, x0, x1, x2, x3, _, hs1⟩ := (HA.out.no HWR.out).at1 hx
        obtain ⟨s2, o2, A2, c2, rfl, y0, y1, y2, y3, _, hs2⟩ := (HB.out.no HWR.out).at1 hy
        have CT : ∀ W, Hid (But No wr W) → Hid (Calls Try.prog 30 #[tskV x A1 x.secs.length c1, tskV y A2 y.secs.length c2] W fun e w' => e = .returned (.bool (decide (tskN x = tskN y))) ∧ But No W w') := fun W hb => sameTask_any x y A1 A2 _ c1 _ c2 W (hs1.no hb.out) (hs2.no hb.out)
        have hx3 := cell_keep HX.out HDB.out
        have hy3 := cell_keep HY.out HDB.out
        have HPX := Lib.hid hx
        have HPY := Lib.hid hy
        have HCX := Lib.hid (And.intro x0 (And.intro x1 (And.intro x2 x3)))
        have HCY := Lib.hid (And.intro y0 (And.intro y1 (And.intro y2 y3)))
        have HH3 := Lib.hid hx3
        have HH4 := Lib.hid hy3
        clear hs1 hs2 hx hy x0 x1 x2 x3 y0 y1 y2 y3 hx3 hy3
        generalize x.secs.length = nx at *
        generalize y.secs.length = ny at *
        unfold tskV at CT
        by_cases e : tskN x = tskN y
        · have HXY := Lib.hid (tsk_ext e)
          rw [decide_eq_true e] at CT
          have CT2 := CT wr.drew (Lib.hid ((But.refl No wr).drew))
          clear e CT
          go_wp2_with fail
          go_region_held3 (fun w' => w'.cell? ⟨ba, 8, none⟩ = some (.slice (some ⟨s1, o1, none⟩) m c) ∧ w'.cell? ⟨bb, 8, none⟩ = some (.slice (some ⟨s2, o2, none⟩) m d) ∧ (w'.cell? ⟨s1, o1 + k * 4, none⟩ = some (.int .i64 x.p) ∧ w'.cell? ⟨s1, o1 + k * 4 + 1, none⟩ = some (.int .i64 x.d) ∧ w'.cell? ⟨s1, o1 + k * 4 + 2, none⟩ = some (.int .i64 x.w) ∧ w'.cell? ⟨s1, o1 + k * 4 + 3, none⟩ = some (.slice A1 nx c1)) ∧ (w'.cell? ⟨s2, o2 + k * 4, none⟩ = some (.int .i64 y.p) ∧ w'.cell? ⟨s2, o2 + k * 4 + 1, none⟩ = some (.int .i64 y.d) ∧ w'.cell? ⟨s2, o2 + k * 4 + 2, none⟩ = some (.int .i64 y.w) ∧ w'.cell? ⟨s2, o2 + k * 4 + 3, none⟩ = some (.slice A2 ny c2)) ∧ But No wr w')
            (first | exact ⟨HH3.out, HH4.out, HCX.out, HCY.out, (But.refl _ _).drew⟩ | exact keepQ (by assumption) hbq)
            (first | (go_at_call 30; ((with_reducible refine CT2.out.mono ?_); rintro e wq ⟨rfl, hbq⟩)))
          rename_i hH
          have HW3 := Lib.hid hH.2.2.2.2
          clear hH
          go_wp2
          go_roundw
          case rel =>
            refine ⟨k + 1, by go_num, by omega, HDB.out.trans HW3.out, fun j x' y' hj hx' hy' => ?_⟩
            by_cases e : j = k
            · subst e
              rw [HPX.out] at hx'
              rw [HPY.out] at hy'
              cases hx'
              cases hy'
              exact HXY.out
            · exact HG.out j x' y' (by omega) hx' hy'
          case measure => simp [intOf]; omega
        · have HE : Hid (decide (nums s = nums t) = false) := decide_eq_false (fun f => e (by
            have h1 := HPX.out
            rw [(nums_eq.1 f).2, HPY.out] at h1
            cases h1; rfl))
          rw [decide_eq_false e] at CT
          have CT2 := CT wr.drew (Lib.hid ((But.refl No wr).drew))
          clear e CT
          go_wp2_with fail
          go_region_held3 (fun w' => w'.cell? ⟨ba, 8, none⟩ = some (.slice (some ⟨s1, o1, none⟩) m c) ∧ w'.cell? ⟨bb, 8, none⟩ = some (.slice (some ⟨s2, o2, none⟩) m d) ∧ (w'.cell? ⟨s1, o1 + k * 4, none⟩ = some (.int .i64 x.p) ∧ w'.cell? ⟨s1, o1 + k * 4 + 1, none⟩ = some (.int .i64 x.d) ∧ w'.cell? ⟨s1, o1 + k * 4 + 2, none⟩ = some (.int .i64 x.w) ∧ w'.cell? ⟨s1, o1 + k * 4 + 3, none⟩ = some (.slice A1 nx c1)) ∧ (w'.cell? ⟨s2, o2 + k * 4, none⟩ = some (.int .i64 y.p) ∧ w'.cell? ⟨s2, o2 + k * 4 + 1, none⟩ = some (.int .i64 y.d) ∧ w'.cell? ⟨s2, o2 + k * 4 + 2, none⟩ = some (.int .i64 y.w) ∧ w'.cell? ⟨s2, o2 + k * 4 + 3, none⟩ = some (.slice A2 ny c2)) ∧ But No wr w')
            (first | exact ⟨HH3.out, HH4.out, HCX.out, HCY.out, (But.refl _ _).drew⟩ | exact keepQ (by assumption) hbq)
            (first | (go_at_call 30; ((with_reducible refine CT2.out.mono ?_); rintro e wq ⟨rfl, hbq⟩)))
          rename_i hH
          have HW3 := Lib.hid hH.2.2.2.2
          clear hH
          go_wp2
          go_ret
          exact ⟨retb2 HE.out.symm, HWR.out.trans HW3.out⟩
      · obtain rfl : k = m := by omega
        have HE : Hid (decide (nums s = nums t) = true) := decide_eq_true (nums_eq.2 ⟨HTH.out, list_of_at (by rw [HLA.out, HLB.out]) (fun j x y hj => HG.out j x y (by rw [HLA.out] at hj; exact hj))⟩)
        go_wp2
        go_ret
        exact ⟨retb2 HE.out.symm, HF.out.trans HDB.out⟩
end Go.Proofs.Ytlkcelmamenhpaa
