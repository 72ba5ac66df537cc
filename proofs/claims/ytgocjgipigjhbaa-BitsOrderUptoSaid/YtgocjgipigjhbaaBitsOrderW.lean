/- Levels may be taken in any order, and twice: the set is the same: BitsOrder returns true, for at most 1,048,576 numbers. (The walk.) -/
import Derived.Test.YtgocjgipigjhbaaK
import Derived.Test.YtgocjgipigjhbaaBitsMakesW
namespace Go.Proofs.Ytgocjgipigjhbaa.bitsOrder
open Go.ChangeShapes Go.WideShapes Go.ChangeAt Go.RowKit Go.Deep
attribute [local go_sem] eq_in23
theorem lvs_twice (zs : List Int) : lvs (zs.reverse ++ zs) = lvs zs := by
  unfold lvs
  rw [List.all_append, List.all_reverse, Bool.and_self]
theorem of_twice {zs : List Int} (h : lvs zs = true) : Q.of (zs.reverse ++ zs) = Q.of zs :=
  Q.ext_has (Q.of_ok _) (Q.of_ok _) (fun j hj => by
    unfold Q.of
    rw [bitsMakes.has_fold hj _ (by rw [lvs_twice]; exact h), bitsMakes.has_fold hj _ h]
    unfold inL
    by_cases c : (j : Int) ∈ zs <;> simp [c])
theorem ans_twice (zs : List Int) : ofAns (zs.reverse ++ zs) = ofAns zs ∧ ofErr (zs.reverse ++ zs) = ofErr zs := by
  unfold ofAns ofErr
  rw [lvs_twice]
  cases h : lvs zs with
  | false => exact ⟨rfl, rfl⟩
  | true => rw [of_twice h]; exact ⟨rfl, rfl⟩
theorem fit_twice {zs : List Int} (h : ∀ k, inR (zs.getD k 0)) (k : Nat) : inR ((zs.reverse ++ zs).getD k 0) := by
  have hm : ∀ z ∈ zs, inR z := fun z hz => by
    obtain ⟨j, hj, rfl⟩ := List.mem_iff_getElem.1 hz
    have := h j
    simpa [List.getD, List.getElem?_eq_getElem hj] using this
  by_cases hk : k < (zs.reverse ++ zs).length
  · have e : (zs.reverse ++ zs).getD k 0 = (zs.reverse ++ zs)[k] := by simp [List.getD, List.getElem?_eq_getElem hk]
    rw [e]
    have := List.getElem_mem hk
    rw [List.mem_append, List.mem_reverse, or_self] at this
    exact hm _ this
  · have : (zs.reverse ++ zs).getD k 0 = 0 := by simp only [List.getD]; rw [List.getElem?_eq_none (by omega)]; rfl
    rw [this]; unfold inR; omega
theorem drop_rev {zs : List Int} {j : Nat} (h : j < zs.length) : (zs.drop j).reverse = (zs.drop (j + 1)).reverse ++ [zs.getD j 0] := by
  rw [List.drop_eq_getElem_cons h, List.reverse_cons]
  simp [List.getD, List.getElem?_eq_getElem h]
/-- What was turned so far. -/
structure Tn (w3 w : World) (A : Option Addr) (m c : Nat) (zs : List Int) : Prop where
  row : w.ownsRow 0 3 1 (.slice A m c) m (zs.map (Value.int .i64))
  new : ∀ k, (Value.slice A m c).ownBlock = some k → w3.heap.size ≤ k
  but : But No w3 w
theorem owns_alloc {w : World} {A : Option Addr} {m c : Nat} {xs : List Value} (h : w.ownsRow 0 3 1 (.slice A m c) m xs) (o : Obj) : (w.alloc o).ownsRow 0 3 1 (.slice A m c) m xs := by
  obtain ⟨h1, h2⟩ := h
  refine ⟨h1, ?_⟩
  rcases h2 with h2 | ⟨g, cap, cur, hv, hg, hh, hr⟩
  · exact .inl h2
  · exact .inr ⟨g, cap, cur, hv, hg, by rw [Below.heap_alloc _ _ _ (Blk.lt hh)]; exact hh, hr⟩
theorem Tn.app {w3 w w2 : World} {A : Option Addr} {m c g cap : Nat} {zs : List Int} {x : Int} (h : Tn w3 w A m c zs)
    (ho : w2.ownsRow 0 3 1 (.slice (some ⟨g, 0, none⟩) (m + 1) cap) (m + 1) (zs.map (Value.int .i64) ++ [.int .i64 x])) (hg : (w.alloc (.cells #[.int .i64 x] 3)).grownBy w2 (Value.slice A m c).ownBlock) (hat : (Value.slice A m c).ownBlock = some g ∨ g = w.heap.size + 1) :
    Tn w3 w2 (some ⟨g, 0, none⟩) (m + 1) cap (zs ++ [x]) := by
  refine ⟨by rw [List.map_append]; exact ho, fun k e => ?_, (h.but.alloc _).grown hg (fun k e => .inr (h.new k e))⟩
  have e' : k = g := by simpa [Value.ownBlock] using e.symm
  have := h.but.size
  rcases hat with h1 | h1
  · rw [e']; exact h.new g h1
  · omega
theorem app_none (w : World) (A : Option Addr) (c ty : Nat) {i0 : TypeInfo} (hi : Try.prog.info? 3 = some i0) : (Builtin.append_ #[29, 29] ty #[.slice none 0 0, .slice A 0 c]).run Try.prog w = .ok (.slice none 0 0) w := by
  cases A with
  | none => simp [Builtin.append_, run_underlying Try.underlying29, sizeOf, typeInfo, hi, Builtin.lenOf, Builtin.firstCells]
  | some a => simp [Builtin.append_, run_underlying Try.underlying29, sizeOf, typeInfo, hi, Builtin.lenOf, Builtin.firstCells, loadCells, loadCellsFrom]
theorem wpList_app_none {w : World} {ops : Array Oper} {rest : List Oper} {o : Oper} {a : Act} {Q' : Exit → Act → World → Prop} (hgd : o.guard = none) (s x : Operand)
    (ho : o.op = .call { callee := .builtin .append, args := #[s, x], argTypes := #[29, 29] }) {i0 : TypeInfo} (hi : Try.prog.info? 3 = some i0) (A : Option Addr) (c : Nat) (hs : a.eval s = .slice none 0 0) (hx : a.eval x = .slice A 0 c)
    (h : wpList Try.prog ops Q' rest (a.put o.dst (.slice none 0 0)) w) : wpList Try.prog ops Q' (o :: rest) a w := by
  refine wpList_plain hgd fun K hK => ?_
  have hr := app_none w A c o.type hi
  unfold Oper.wp execOp
  simp only [ho, resolve, invoke, builtin, Sem.run_bind, Sem.run_pure, Result.andThen_ok, List.map_toArray, List.map_cons, List.map_nil, hs, hx, hr]
  exact hK _ _ h
set_option maxHeartbeats 4000000 in
set_option maxRecDepth 100000 in
theorem walk_none (A : Option Addr) (c : Nat) (w : World) : Calls Try.prog 9 #[.slice A 0 c] w fun e w' => e = .returned (.bool true) ∧ But No w w' := by
  have CE : Hid (∀ w, Calls Try.prog 10 #[] w fun e w' => e = .returned (.bool true) ∧ But No w w') := examples_any
  have RD : ∀ (w : World) (A : Option Addr), Rd w A 0 [] := fun w A => ⟨rfl, by omega, fun h => absurd h (by omega), fun k => by simp [inR]⟩
  have CO : Hid (∀ w A c, Calls Try.prog 21 #[.slice A 0 c] w fun e w' => e = .returned (.tuple #[sv (ofAns []), .int .i64 (ofErr [])]) ∧ But No w w') := fun w A c => of_any A 0 c [] w (RD w A)
  clear RD
  generalize ofAns [] = x at CO
  generalize ofErr [] = er at CO
  have he := eq4_self x.a x.b x.c x.d
  obtain ⟨i0, hi0, hz0, hz1, hz2⟩ := info_parts info3
  have I0 : Hid (Try.prog.info? 3 = some i0) := hi0
  clear hi0 hz0 hz1 hz2
  go_enter Try.func9, Try.ntmps9
  go_wp2_with (first
    | (go_at_call 10; (with_reducible refine (CE.out _).mono ?_); rintro e w1 ⟨rfl, hb1⟩; have HB1 := Lib.hid hb1; clear hb1)
    | (go_at_call 21; (with_reducible refine (CO.out _ _ _).mono ?_); rintro e w2 ⟨rfl, hb2⟩; have HB2 := Lib.hid (HB1.out.trans hb2); clear hb2))
  refine wp_loop_rounds 1 ?_
  rw [rounds_succ]
  go_wp2_with (first
    | (at_builtin; refine wpList_app_none rfl _ _ rfl I0.out _ _ rfl rfl ?_)
    | (go_at_call 21; (with_reducible refine (CO.out _ _ _).mono ?_); rintro e w3 ⟨rfl, hb3⟩; have HB3 := Lib.hid ((HB2.out.alloc _).trans hb3); have HX3 := Lib.hid ((Blk.new w2 (cells4 x) 26).but hb3 (fun f => f)); clear hb3; have c0 := HX3.out.cell (o := 0) rfl; have c1 := HX3.out.cell (o := 1) rfl; have c2 := HX3.out.cell (o := 2) rfl; have c3 := HX3.out.cell (o := 3) rfl; have hl3 := HX3.out.lt))
  go_ret
  exact ⟨rfl, HB3.out.alloc _⟩
set_option maxHeartbeats 8000000 in
set_option maxRecDepth 100000 in
theorem walk_some (A : Option Addr) (n c : Nat) (zs : List Int) (hn : 0 < n) (hmax : n ≤ 1048576) (w : World) (hz : Rd w A n zs) : Calls Try.prog 9 #[.slice A n c] w fun e w' => e = .returned (.bool true) ∧ But No w w' := by
  have CE : Hid (∀ w, Calls Try.prog 10 #[] w fun e w' => e = .returned (.bool true) ∧ But No w w') := examples_any
  obtain ⟨b, off, rfl, hbl, hcell⟩ := hz.at_ hn
  have HZ := Lib.hid hz
  have HL := Lib.hid hz.len
  have CO : Hid (∀ w', But No w w' → Calls Try.prog 21 #[.slice (some ⟨b, off, none⟩) n c] w' fun e w'' => e = .returned (.tuple #[sv (ofAns zs), .int .i64 (ofErr zs)]) ∧ But No w' w'') := fun w' hb => of_any (some ⟨b, off, none⟩) n c zs w' (HZ.out.no hb)
  have CT : Hid (∀ w' g cap, Row w' g (n + n) cap (zs.reverse ++ zs) → Calls Try.prog 21 #[.slice (some ⟨g, 0, none⟩) (n + n) cap] w' fun e w'' => e = .returned (.tuple #[sv (ofAns zs), .int .i64 (ofErr zs)]) ∧ But No w' w'') := fun w' g cap h => by
    have := of_any (some ⟨g, 0, none⟩) (n + n) cap (zs.reverse ++ zs) w' (h.rd (by omega) (fit_twice HZ.out.fit))
    rw [(ans_twice zs).1, (ans_twice zs).2] at this
    exact this
  generalize ofAns zs = x at CO CT
  generalize ofErr zs = er at CO CT
  have he := eq4_self x.a x.b x.c x.d
  obtain ⟨i0, hi0, hz0, hz1, hz2⟩ := info_parts info3
  have I0 : Hid (Try.prog.info? 3 = some i0 ∧ i0.zero = some (.int .i64 0) ∧ i0.size = 1 ∧ i0.bytes = 8) := ⟨hi0, hz0, hz1, hz2⟩
  clear hi0 hz0 hz1 hz2 hz hcell
  go_enter Try.func9, Try.ntmps9
  go_wp2_with (first
    | (go_at_call 10; (with_reducible refine (CE.out _).mono ?_); rintro e w1 ⟨rfl, hb1⟩; have HB1 := Lib.hid hb1; clear hb1)
    | (go_at_call 21; (with_reducible refine (CO.out _ HB1.out).mono ?_); rintro e w2 ⟨rfl, hb2⟩; have HB2 := Lib.hid (HB1.out.trans hb2); clear hb2))
  obtain ⟨w3, hw3, hb3, hq3⟩ := box_new w2 x
  rw [hw3]
  have HB3 := Lib.hid (HB2.out.trans hb3)
  have HQ3 := Lib.hid hq3
  clear hw3 hb3 hq3
  have HT0 : Hid (Tn w3 w3 none 0 0 ((zs.drop n).reverse)) := by
    have e : zs.drop n = [] := List.drop_eq_nil_of_le (by rw [HL.out]; exact Nat.le_refl _)
    rw [e]
    exact ⟨World.ownsRow_nil _ _ _ _, fun k h => by simp [Value.ownBlock] at h, But.refl _ _⟩
  go_loopw [6, 7] (fun t6 t7 wr => ∃ (k m d : Nat) (B : Option Addr), t6 = .slice B m d ∧ t7 = .int .i64 ((k : Int) - 1) ∧ k ≤ n ∧ m + k = n ∧ Hid (Tn w3 wr B m d ((zs.drop k).reverse))) (fun _ t7 _ => (intOf t7 + 1).toNat)
  case atStart => exact ⟨n, 0, 0, none, rfl, rfl, by omega, by omega, HT0⟩
  case round =>
    obtain ⟨k, m, d, B, rfl, rfl, hk, hmk, ht⟩ := hrel
    have RDW := Lib.hid (HZ.out.no (HB3.out.trans ht.out.but))
    obtain ⟨b', off', he', hbl', hc'⟩ := RDW.out.at_ hn
    cases he'
    cases k with
    | succ j =>
      have hj : j < n := by omega
      have e : (((j + 1 : Nat) : Int) - 1) = (j : Int) := by omega
      rw [e]
      clear e
      have hcj := hc' j hj
      clear hc'
      have hjn : (j : Int) < (n : Int) := by omega
      obtain ⟨z, hze⟩ : ∃ z, zs.getD j 0 = z := ⟨_, rfl⟩
      rw [hze] at hcj
      have HD : Hid ((zs.drop j).reverse = (zs.drop (j + 1)).reverse ++ [z]) := by show _ = _; rw [← hze]; exact drop_rev (by rw [HL.out]; exact hj)
      clear hze
      have ROW : Hid ((wr.alloc (.cells #[.int .i64 z] 3)).ownsRow 0 3 1 (.slice B m d) m ((zs.drop (j + 1)).reverse.map (Value.int .i64))) := owns_alloc ht.out.row _
      go_wp2_with (first
        | (at_builtin; refine wpList_append_lies _ rfl _ _ 29 rfl 0 3 i0 _ 1 8 Try.underlying29 I0.out.1 I0.out.2.1 I0.out.2.2.1 I0.out.2.2.2 rfl (by omega) _ m _ rfl ROW.out ⟨wr.heap.size, 0, none⟩ 1 1 [.int .i64 z] rfl rfl (one_news wr z) (by simp [Value.oneCell']) (by omega) (by unfold maxLen; omega) (by omega) (Nat.zero_le _) (wr.heap.size + 1) (by simp) ?_; intro g2 cap2 w6 hown6 hgrow6 hat6 hlt6; have HT6 := Lib.hid (ht.out.app hown6 hgrow6 hat6); clear hown6 hgrow6 hat6))
      go_roundw
      case rel => exact ⟨j, m + 1, cap2, some ⟨g2, 0, none⟩, rfl, rfl, by omega, by omega, by rw [HD.out]; exact HT6.out⟩
      case measure => simp [intOf]
    | zero =>
      obtain rfl : m = n := by omega
      have ht' : Hid (Tn w3 wr B m d zs.reverse) := ht.out
      have HQW := Lib.hid (HQ3.out.but ht.out.but (fun f => f))
      have NEWS : Hid (∀ j u, (zs.map (Value.int .i64))[j]? = some u → wr.cell? ((⟨b, off, none⟩ : Addr).add j) = some u) := by
        intro j u hu
        rw [List.getElem?_map] at hu
        by_cases hj : j < m
        · have hjl : j < zs.length := by rw [HL.out]; exact hj
          rw [List.getElem?_eq_getElem hjl] at hu
          simp at hu
          subst hu
          rw [add_plain, hc' j hj]
          simp [List.getD, List.getElem?_eq_getElem hjl]
        · rw [List.getElem?_eq_none (by rw [HL.out]; omega)] at hu
          cases hu
      clear hc' ht
      go_wp2_with (first
        | (at_builtin; refine wpList_append_lies _ rfl _ _ 29 rfl 0 3 i0 _ 1 8 Try.underlying29 I0.out.1 I0.out.2.1 I0.out.2.2.1 I0.out.2.2.2 rfl (by omega) _ m _ rfl ht'.out.row ⟨b, off, none⟩ m c (zs.map (Value.int .i64)) rfl (by rw [List.length_map, HL.out, Nat.mul_one]) NEWS.out (by simp [Value.oneCell']) hn (by unfold maxLen; omega) (by omega) (Nat.zero_le _) wr.heap.size rfl ?_; intro g2 cap2 w6 hown6 hgrow6 hat6 hlt6; have HR6 : Hid (Row w6 g2 (m + m) cap2 (zs.reverse ++ zs)) := (by unfold Hid Row; rw [List.map_append]; exact hown6); have HB6 : Hid (But No w3 w6) := ht'.out.but.grown hgrow6 (fun k e => .inr (ht'.out.new k e)); clear hown6 hgrow6 hat6)
        | (go_at_call 21; (with_reducible refine (CT.out _ _ _ HR6.out).mono ?_); rintro e w7 ⟨rfl, hb7⟩; have HB7 := Lib.hid (HB6.out.trans hb7); have HX7 := Lib.hid (HQ3.out.but HB7.out (fun f => f)); clear hb7; have c0 := HX7.out.cell (o := 0) rfl; have c1 := HX7.out.cell (o := 1) rfl; have c2 := HX7.out.cell (o := 2) rfl; have c3 := HX7.out.cell (o := 3) rfl; have hl7 := HX7.out.lt))
      go_ret
      exact ⟨rfl, (HB3.out.trans HB7.out).alloc _⟩
theorem walk (A : Option Addr) (n c : Nat) (zs : List Int) (hmax : n ≤ 1048576) (w : World) (hz : Rd w A n zs) : Calls Try.prog 9 #[.slice A n c] w fun e w' => e = .returned (.bool true) ∧ But No w w' := by
  rcases Nat.eq_zero_or_pos n with h | h
  · subst h; exact walk_none A c w
  · exact walk_some A n c zs h hmax w hz
end Go.Proofs.Ytgocjgipigjhbaa.bitsOrder
