/- Rows of numbers that a call makes by appends of several; the contract of numbers. -/
import Derived.Test.YtlkcelmamenhpaaT1
namespace Go.Proofs.Ytlkcelmamenhpaa
open Go.ChangeShapes Go.WideShapes Go.ChangeAt Go.RowKit Go.Deep
def vi (z : Int) : Value := .int .i64 z
/-- v is a row of numbers of the call's own (which began at w0). -/
structure Oz (w0 w : World) (v : Value) (zs : List Int) : Prop where
  own : w.ownsRow 0 3 1 v zs.length (zs.map vi)
  but : But No w0 w
  new : ∀ j, v.ownBlock = some j → w0.heap.size ≤ j
section
variable {w0 w W w2 : World} {v : Value} {zs ys : List Int} {n m c : Nat} {A : Option Addr} {xs : List Value}
theorem Oz.nil (hb : But No w0 w) : Oz w0 w (.slice none 0 0) [] := ⟨World.ownsRow_nil _ _ _ _, hb, own_none⟩
theorem Oz.row (h : Oz w0 w v zs) (hn : zs.length = n) (hb : But No w W) : W.ownsRow 0 3 1 v n (zs.map vi) := by rw [← hn]; exact owns_but h.own hb (fun _ _ f => f)
theorem Oz.step (h : Oz w0 w v zs) (hb : But No w W) : Oz w0 W v zs := ⟨owns_but h.own hb (fun _ _ f => f), h.but.trans hb, h.new⟩
theorem Oz.app (h : Oz w0 w v zs) (hn : zs.length = n) (hb : But No w W) (hm : ys.length = m) (ho : w2.ownsRow 0 3 1 (.slice A (n + m) c) (n + m) (zs.map vi ++ xs)) (hx : xs = ys.map vi)
    (hg : W.grownBy w2 v.ownBlock) (hat : (Value.slice A (n + m) c).ownBlock = v.ownBlock ∨ (Value.slice A (n + m) c).ownBlock = some W.heap.size) :
    Oz w0 w2 (.slice A (n + m) c) (zs ++ ys) := by
  refine ⟨?_, (h.but.trans hb).grown hg (fun j e => .inr (h.new j e)), own_new h.new hat ?_⟩
  · rw [List.length_append, List.map_append, hn, hm, ← hx]; exact ho
  · have := h.but.size; have := hb.size; omega
theorem Oz.slice (h : Oz w0 w v zs) : ∃ A c, v = .slice A zs.length c := owns_slice h.own
theorem Oz.rl {A : Option Addr} {n c : Nat} (h : Oz w0 w (.slice A n c) zs) (hn : zs.length ≤ 10000000) : Rl w A n zs := by
  obtain ⟨h1, h2⟩ := h.own
  rcases h2 with ⟨h2, e⟩ | ⟨g, cap, cur, hv, _, hh, hc, _, hs, ht⟩
  · cases h2
    exact ⟨e, by omega, fun h => absurd h (by omega)⟩
  · cases hv
    refine ⟨rfl, by omega, fun hn => ⟨g, 0, rfl, Blk.lt hh, fun k hk => ?_⟩⟩
    rw [Nat.zero_add]
    refine Blk.cell hh ?_
    have e : (cur.toList.take (zs.length * 1))[k]? = some (.int .i64 (zs.getD k 0)) := by
      rw [ht]; simp [hk, vi]
    rw [List.getElem?_take, if_pos (by omega)] at e
    simpa using e
theorem Oz.start (h : Oz w0 w v zs) (hb : But No w2 w0) : Oz w2 w v zs := ⟨h.own, hb.trans h.but, fun j hj => Nat.le_trans hb.size (h.new j hj)⟩
end
/-- A block that stays while a row beside it grows. -/
structure Bx (w : World) (b : Nat) (cur : Array Value) (e : TypeId) (v : Value) : Prop where
  blk : Blk w b cur e
  ne : v.ownBlock ≠ some b
section
variable {w W w2 : World} {b : Nat} {cur : Array Value} {e : TypeId} {v v2 : Value}
theorem Bx.step (h : Bx w b cur e v) (hb : But No w W) : Bx W b cur e v := ⟨h.blk.but hb (fun f => f), h.ne⟩
theorem Bx.app (h : Bx w b cur e v) (hb : But No w W) (hg : W.grownBy w2 v.ownBlock) (hat : v2.ownBlock = v.ownBlock ∨ v2.ownBlock = some W.heap.size) : Bx w2 b cur e v2 := by
  have h1 := h.blk.but hb (fun f => f)
  have hl := h1.lt
  refine ⟨?_, ?_⟩
  · have h2 := hg.block b h1.lt (fun e => h.ne e.symm)
    unfold Blk at h1 ⊢
    rw [h2]; exact h1
  · rcases hat with e | e
    · rw [e]; exact h.ne
    · rw [e]; intro f; cases f; omega
end
def headL (s : Sys) : List Int := [1, s.co, s.po, s.pr, s.re, s.sw, s.fi, s.la, s.rs, (s.ts.length : Int)]
def theadL (t : Tsk) : List Int := [t.p, t.d, t.w, (t.secs.length : Int)]
theorem nums_head (s : Sys) : nums s = headL s ++ s.ts.flatMap tskN := rfl
theorem tskN_head (t : Tsk) : tskN t = theadL t ++ t.secs.flatMap secN := rfl
theorem index_head (s : Sys) {n : Nat} (hn : s.ts.length = n) {k : Nat} (hk : k < 10) (W : World) : (Instr.index 63 (headV s n) (.int .i64 (k : Int))).run Try.prog W = .ok (.int .i64 ((headL s).getD k 0)) W := by
  subst hn
  unfold headL
  match k, hk with
  | 0, _ => simp [go_sem]; rfl
  | 1, _ => simp [go_sem]; rfl
  | 2, _ => simp [go_sem]; rfl
  | 3, _ => simp [go_sem]; rfl
  | 4, _ => simp [go_sem]; rfl
  | 5, _ => simp [go_sem]; rfl
  | 6, _ => simp [go_sem]; rfl
  | 7, _ => simp [go_sem]; rfl
  | 8, _ => simp [go_sem]; rfl
  | 9, _ => simp [go_sem]; rfl
theorem index_thead (t : Tsk) {n : Nat} (hn : t.secs.length = n) {k : Nat} (hk : k < 4) (W : World) : (Instr.index 75 (theadV t n) (.int .i64 (k : Int))).run Try.prog W = .ok (.int .i64 ((theadL t).getD k 0)) W := by
  subst hn
  unfold theadL
  match k, hk with
  | 0, _ => simp [go_sem]; rfl
  | 1, _ => simp [go_sem]; rfl
  | 2, _ => simp [go_sem]; rfl
  | 3, _ => simp [go_sem]; rfl
theorem drop_at {α : Type} {l : List α} {k : Nat} {x : α} (h : l[k]? = some x) : l.drop k = x :: l.drop (k + 1) := by
  obtain ⟨hk, rfl⟩ := List.getElem?_eq_some_iff.1 h
  exact List.drop_eq_getElem_cons hk
theorem drop_getD {l : List Int} {k : Nat} (h : k < l.length) : l.drop k = l.getD k 0 :: l.drop (k + 1) := by
  rw [List.drop_eq_getElem_cons h]
  simp [List.getD, List.getElem?_eq_getElem h]
/-- A step of 'so much is there, so much is left'. -/
theorem left_step {a : List Int} {x : Int} {r t : List Int} (h : a ++ x :: r = t) : (a ++ [x]) ++ r = t := by rw [← h]; simp
theorem left_len {a r t : List Int} (h : a ++ r = t) : a.length + r.length = t.length := by rw [← h, List.length_append]
theorem reads3 (w : World) (o : Obj) (a b c : Int) : Reads ((w.alloc o).alloc (.cells #[.int .i64 a, .int .i64 b, .int .i64 c] 3)) (w.heap.size + 2) 1 (some ⟨w.heap.size + 1, 0, none⟩) 3 [.int .i64 a, .int .i64 b, .int .i64 c] :=
  ⟨rfl, fun _ => ⟨_, rfl, by show w.heap.size + 1 < w.heap.size + 2; omega, World.news_of_block (cs := #[.int .i64 a, .int .i64 b, .int .i64 c]) (t := 3) (fr := (0, 0)) (blk2 w o _ _)⟩⟩
theorem cells3 (a b c : Int) : ∀ u ∈ [Value.int .i64 a, Value.int .i64 b, Value.int .i64 c], u.oneCell' = true := by simp [Value.oneCell']
def RetZ (w0 : World) (zs : List Int) (r : Ending) (w' : World) : Prop := ∃ A n c, r = .returned (.slice A n c) ∧ zs.length = n ∧ Oz w0 w' (.slice A n c) zs
def boxS (s : Sys) (A : Option Addr) (n c : Nat) : Array Value := #[.int .i64 s.co, .int .i64 s.po, .int .i64 s.pr, .int .i64 s.re, .int .i64 s.sw, .int .i64 s.fi, .int .i64 s.la, .int .i64 s.rs, .slice A n c]
def boxT (t : Tsk) (A : Option Addr) (n c : Nat) : Array Value := #[.int .i64 t.p, .int .i64 t.d, .int .i64 t.w, .slice A n c]
theorem Bx.none {w : World} {b : Nat} {cur : Array Value} {e : TypeId} (h : Blk w b cur e) : Bx w b cur e (.slice none 0 0) := ⟨h, by simp [Value.ownBlock]⟩
theorem Oz.lt {w0 w : World} {v : Value} {zs : List Int} (h : Oz w0 w v zs) : ∀ j, v.ownBlock = some j → j < w.heap.size := fun j e => (h.own.lt j e).2
theorem Bx.fresh {w0 w W : World} {v : Value} {zs : List Int} {cur : Array Value} {e : TypeId} (h : Oz w0 w v zs) (hb : Blk W w.heap.size cur e) : Bx W w.heap.size cur e v := ⟨hb, fun e => by have := h.lt _ e; omega⟩
set_option maxRecDepth 100000 in
set_option maxHeartbeats 4000000 in
theorem numbers_any (s : Sys) (A : Option Addr) (n c : Nat) (w : World) (h : RSys w A n c s) (hlen : (nums s).length ≤ 10000000) : Calls Try.prog 20 #[sysV s A n c] w (RetZ w (nums s)) := by
  have HT := Lib.hid h.ts
  have HN := Lib.hid h.ts.len
  have hmx := h.ts.max
  have CH : ∀ W, Hid (Calls Try.prog 29 #[sysV s A n c] W fun e w' => e = .returned (headV s n) ∧ But No W w') := fun W => systemHead_any s A n c W
  clear h
  obtain ⟨hv, hhv⟩ : ∃ hv, hv = headV s n := ⟨_, rfl⟩
  rw [← hhv] at CH
  have IX : Hid (∀ k : Nat, k < 10 → ∀ W, (Instr.index 63 hv (.int .i64 (k : Int))).run Try.prog W = .ok (.int .i64 ((headL s).getD k 0)) W) := fun k hk W => by rw [hhv]; exact index_head s HN.out hk W
  clear hhv
  obtain ⟨i0, hi0, hi1, hi2, hi3⟩ := info_parts info3
  have I0 : Hid (Try.prog.info? 3 = some i0 ∧ i0.zero = some (.int .i64 0) ∧ i0.size = 1 ∧ i0.bytes = 8) := ⟨hi0, hi1, hi2, hi3⟩
  clear hi0 hi1 hi2 hi3
  obtain ⟨tot, htot⟩ : ∃ tot, (nums s).length = tot := ⟨_, rfl⟩
  rw [htot] at hlen
  have HTOT := Lib.hid htot
  clear htot
  unfold sysV at CH ⊢
  go_enter Try.func20, Try.ntmps20
  go_wp2_with (go_at_call 29; refine (CH _).out.mono ?_; rintro e w1 ⟨rfl, hb1⟩; have HB1 := Lib.hid (((But.refl No w).alloc _).trans hb1); have HX : Hid (Blk w1 w.heap.size (boxS s A n c) 24) := ((Blk.new w _ _)).but hb1 (fun f => f); clear hb1)
  clear CH
  generalize hbx : w.heap.size = bx at HX ⊢
  clear hbx
  go_loopw [3, 14] (fun u i wr => ∃ (A' : Option Addr) (n' c' k : Nat) (zs : List Int), u = .slice A' n' c' ∧ i = .int .i64 (k : Int) ∧ k ≤ 10 ∧ Hid (zs.length = n') ∧ Hid (Oz w wr (.slice A' n' c') zs) ∧ Hid (Bx wr bx (boxS s A n c) 24 (.slice A' n' c')) ∧ Hid (zs ++ ((headL s).drop k ++ s.ts.flatMap tskN) = nums s)) (fun _ i _ => 10 - (intOf i).toNat)
  case atStart => exact ⟨none, 0, 0, 0, [], rfl, rfl, by omega, rfl, Oz.nil HB1.out, Bx.none HX.out, rfl⟩
  case round =>
    obtain ⟨A', n', c', k, zs, rfl, rfl, hk, HL, HO, HB, HE⟩ := hrel
    by_cases hlt : k < 10
    · have hix := IX.out k hlt
      have HD := Lib.hid (drop_getD (l := headL s) (k := k) hlt)
      generalize (headL s).getD k 0 = z at *
      have HE2 : Hid ((zs ++ [z]) ++ ((headL s).drop (k + 1) ++ s.ts.flatMap tskN) = nums s) := left_step (by rw [← HE.out, HD.out]; rfl)
      have hbd := left_len HE2.out
      rw [HTOT.out, List.length_append, HL.out] at hbd
      simp only [List.length_cons, List.length_nil] at hbd
      have hbd2 : n' + 1 ≤ tot := by omega
      clear hbd HD
      go_wp2_with (at_builtin; refine wpList_append_sh _ rfl _ _ 44 rfl 3 i0 _ 1 8 Try.underlying44 I0.out.1 I0.out.2.1 I0.out.2.2.1 I0.out.2.2.2 rfl (by omega) (.slice A' n' c') n' _ rfl (HO.out.row HL.out ((But.refl _ _).alloc _)) (wr.heap.size + 1) (some ⟨wr.heap.size, 0, none⟩) 1 1 [.int .i64 z] rfl (one_reads wr z) (one_cell z) (by unfold maxLen; omega) (by omega) ?_; intro A3 c3 w3 hown hgrow hat; have HF := Lib.hid (HO.out.app HL.out ((But.refl _ _).alloc _) (ys := [z]) rfl hown rfl hgrow hat); have HB3 := Lib.hid (HB.out.app ((But.refl _ _).alloc _) hgrow hat); clear hown hgrow hat)
      go_roundw
      case rel => exact ⟨A3, n' + 1, c3, k + 1, zs ++ [z], rfl, by go_num, by omega, by show _ = _; rw [List.length_append, HL.out]; rfl, HF, HB3, HE2⟩
      case measure => simp [intOf]; omega
    · have HE2 : Hid (zs ++ (s.ts.drop 0).flatMap tskN = nums s) := by show _ = _; rw [← HE.out, show k = 10 by omega]; rfl
      clear HE IX
      have hc8 : wr.cell? ⟨bx, 8, none⟩ = some (.slice A n c) := HB.out.blk.cell (o := 8) rfl
      go_wp2
      clear hc8
      go_loopw [3, 25] (fun u i wr => ∃ (A' : Option Addr) (n' c' k : Nat) (zs : List Int), u = .slice A' n' c' ∧ i = .int .i64 (k : Int) ∧ k ≤ n ∧ Hid (zs.length = n') ∧ Hid (Oz w wr (.slice A' n' c') zs) ∧ Hid (zs ++ (s.ts.drop k).flatMap tskN = nums s)) (fun _ i _ => n - (intOf i).toNat)
      case atStart => exact ⟨A', n', c', 0, zs, rfl, rfl, by omega, HL, HO, HE2⟩
      case round =>
        clear HE2 HL HO HB
        obtain ⟨A', n', c', k, zs, rfl, rfl, hk, HL, HO, HE⟩ := hrel
        by_cases hlt : k < n
        · obtain ⟨b, off, rfl, hb, hc⟩ := (HT.out.no HO.out.but).at_ (by omega)
          obtain ⟨t, ht⟩ : ∃ t, s.ts[k]? = some t := ⟨_, List.getElem?_eq_getElem (by rw [HN.out]; exact hlt)⟩
          obtain ⟨c0, c1, c2, AS, cS, c3, hcc, hS⟩ := hc k t ht
          have HE2 : Hid (zs ++ (tskN t ++ (s.ts.drop (k + 1)).flatMap tskN) = nums s) := by show _ = _; rw [← HE.out, drop_at ht, List.flatMap_cons]
          have HS : Hid (RSec w AS t.secs.length t.secs) := by
            obtain ⟨b1, off1, e1, hb1, hc1⟩ := HT.out.at_ (by omega)
            obtain ⟨_, _, _, AS1, cS1, d3, _, hS1⟩ := hc1 k t ht
            cases e1
            rw [HO.out.but.cell hb1 (fun f => f), d3] at c3
            cases c3
            exact hS1
          have hmS := hS.max
          obtain ⟨R, hR⟩ : ∃ R, R = (s.ts.drop (k + 1)).flatMap tskN := ⟨_, rfl⟩
          rw [← hR] at HE2
          have HR := Lib.hid hR
          clear hc hS ht HE hR
          obtain ⟨m, hm4⟩ : ∃ m, t.secs.length = m := ⟨_, rfl⟩
          rw [hm4] at c3 hcc hmS HS
          have HM := Lib.hid hm4
          clear hm4
          have CT : ∀ W, Hid (Calls Try.prog 34 #[tskV t AS m cS] W fun e w' => e = .returned (theadV t m) ∧ But No W w') := fun W => taskHead_any t AS m cS W
          obtain ⟨tv, htv⟩ : ∃ tv, tv = theadV t m := ⟨_, rfl⟩
          rw [← htv] at CT
          have IT : Hid (∀ k : Nat, k < 4 → ∀ W, (Instr.index 75 tv (.int .i64 (k : Int))).run Try.prog W = .ok (.int .i64 ((theadL t).getD k 0)) W) := fun k hk W => by rw [htv]; exact index_thead t HM.out hk W
          clear htv
          have HE3 : Hid (zs ++ ((theadL t).drop 0 ++ (t.secs.flatMap secN ++ R)) = nums s) := by show _ = _; rw [← HE2.out, tskN_head, List.append_assoc]; rfl
          clear HE2
          unfold tskV at CT
          go_wp2_with (go_at_call 34; refine (CT _).out.mono ?_; rintro e w2 ⟨rfl, hb2⟩; have HO2 := Lib.hid (HO.out.step (((But.refl No wr).alloc _).trans hb2)); have HX2 : Hid (Bx w2 wr.heap.size (boxT t AS m cS) 39 (.slice A' n' c')) := Bx.fresh HO.out ((Blk.new wr _ _).but hb2 (fun f => f)); clear hb2)
          clear CT c0 c1 c2 c3 hb
          generalize hbt : wr.heap.size = bt at HX2 ⊢
          clear hbt
          obtain ⟨kk, hkk⟩ : ∃ kk, kk = k := ⟨_, rfl⟩
          rw [← hkk] at HR hlt hk ⊢
          have HKK := Lib.hid hkk
          clear hkk
          have hkn : kk < n := hlt
          go_loopw [3, 31] (fun u i wr => ∃ (A' : Option Addr) (n' c' k : Nat) (zs : List Int), u = .slice A' n' c' ∧ i = .int .i64 (k : Int) ∧ k ≤ 4 ∧ Hid (zs.length = n') ∧ Hid (Oz w wr (.slice A' n' c') zs) ∧ Hid (Bx wr bt (boxT t AS m cS) 39 (.slice A' n' c')) ∧ Hid (zs ++ ((theadL t).drop k ++ (t.secs.flatMap secN ++ R)) = nums s)) (fun _ i _ => 4 - (intOf i).toNat)
          case atStart => exact ⟨A', n', c', 0, zs, rfl, rfl, by omega, HL, HO2, HX2, HE3⟩
          case round =>
            clear HE3 HL HO HO2 HX2 hlt hk
            obtain ⟨A', n', c', k, zs, rfl, rfl, hk, HL, HO, HB, HE⟩ := hrel
            by_cases hlt : k < 4
            · have hix := IT.out k hlt
              have HD := Lib.hid (drop_getD (l := theadL t) (k := k) hlt)
              generalize (theadL t).getD k 0 = z at *
              have HE2 : Hid ((zs ++ [z]) ++ ((theadL t).drop (k + 1) ++ (t.secs.flatMap secN ++ R)) = nums s) := left_step (by rw [← HE.out, HD.out]; rfl)
              have hbd := left_len HE2.out
              rw [HTOT.out, List.length_append, HL.out] at hbd
              simp only [List.length_cons, List.length_nil] at hbd
              have hbd2 : n' + 1 ≤ tot := by omega
              clear hbd HD
              go_wp2_with (at_builtin; refine wpList_append_sh _ rfl _ _ 44 rfl 3 i0 _ 1 8 Try.underlying44 I0.out.1 I0.out.2.1 I0.out.2.2.1 I0.out.2.2.2 rfl (by omega) (.slice A' n' c') n' _ rfl (HO.out.row HL.out ((But.refl _ _).alloc _)) (wr.heap.size + 1) (some ⟨wr.heap.size, 0, none⟩) 1 1 [.int .i64 z] rfl (one_reads wr z) (one_cell z) (by unfold maxLen; omega) (by omega) ?_; intro A3 c3 w3 hown hgrow hat; have HF := Lib.hid (HO.out.app HL.out ((But.refl _ _).alloc _) (ys := [z]) rfl hown rfl hgrow hat); have HB3 := Lib.hid (HB.out.app ((But.refl _ _).alloc _) hgrow hat); clear hown hgrow hat)
              go_roundw
              case rel => exact ⟨A3, n' + 1, c3, k + 1, zs ++ [z], rfl, by go_num, by omega, by show _ = _; rw [List.length_append, HL.out]; rfl, HF, HB3, HE2⟩
              case measure => simp [intOf]; omega
            · have HE2 : Hid (zs ++ ((t.secs.drop 0).flatMap secN ++ R) = nums s) := by show _ = _; rw [← HE.out, show k = 4 by omega]; rfl
              clear HE IT
              have hc3 : wr.cell? ⟨bt, 3, none⟩ = some (.slice AS m cS) := HB.out.blk.cell (o := 3) rfl
              go_wp2
              clear hc3
              go_loopw [3, 42] (fun u i wr => ∃ (A' : Option Addr) (n' c' k : Nat) (zs : List Int), u = .slice A' n' c' ∧ i = .int .i64 (k : Int) ∧ k ≤ m ∧ Hid (zs.length = n') ∧ Hid (Oz w wr (.slice A' n' c') zs) ∧ Hid (zs ++ ((t.secs.drop k).flatMap secN ++ R) = nums s)) (fun _ i _ => m - (intOf i).toNat)
              case atStart => exact ⟨A', n', c', 0, zs, rfl, rfl, by omega, HL, HO, HE2⟩
              case round =>
                clear HE2 HL HO HB
                obtain ⟨A', n', c', k, zs, rfl, rfl, hk, HL, HO, HE⟩ := hrel
                by_cases hlt : k < m
                · obtain ⟨b, off, rfl, hb, hc⟩ := (HS.out.no HO.out.but).at_ (by omega)
                  obtain ⟨x, hx⟩ : ∃ x, t.secs[k]? = some x := ⟨_, List.getElem?_eq_getElem (by rw [HM.out]; exact hlt)⟩
                  obtain ⟨c0, c1, c2⟩ := hc k x hx
                  obtain ⟨x0, x1, x2⟩ := x
                  have HE2 : Hid ((zs ++ [x0, x1, x2]) ++ ((t.secs.drop (k + 1)).flatMap secN ++ R) = nums s) := by show _ = _; rw [← HE.out, drop_at hx, List.flatMap_cons]; simp [secN]
                  have hbd := left_len HE2.out
                  rw [HTOT.out, List.length_append, HL.out] at hbd
                  simp only [List.length_cons, List.length_nil] at hbd
                  have hbd2 : n' + 3 ≤ tot := by omega
                  simp only at c0 c1 c2
                  clear hbd hc hx HE
                  go_wp2_with (at_builtin; refine wpList_append_sh _ rfl _ _ 44 rfl 3 i0 _ 1 8 Try.underlying44 I0.out.1 I0.out.2.1 I0.out.2.2.1 I0.out.2.2.2 rfl (by omega) (.slice A' n' c') n' _ rfl (HO.out.row HL.out (((But.refl _ _).alloc _).alloc _)) (wr.heap.size + 2) (some ⟨wr.heap.size + 1, 0, none⟩) 3 3 [.int .i64 x0, .int .i64 x1, .int .i64 x2] rfl (reads3 wr _ x0 x1 x2) (cells3 x0 x1 x2) (by unfold maxLen; omega) (by omega) ?_; intro A3 c3 w3 hown hgrow hat; have HF := Lib.hid (HO.out.app HL.out (((But.refl _ _).alloc _).alloc _) (ys := [x0, x1, x2]) rfl hown rfl hgrow hat); clear hown hgrow hat)
                  go_roundw
                  case rel => exact ⟨A3, n' + 3, c3, k + 1, zs ++ [x0, x1, x2], rfl, by go_num, by omega, by show _ = _; rw [List.length_append, HL.out]; rfl, HF, HE2⟩
                  case measure => simp [intOf]; omega
                · obtain rfl : k = m := by omega
                  have HE2 : Hid (zs ++ R = nums s) := by show _ = _; rw [← HE.out, List.drop_eq_nil_of_le (by rw [HM.out]; exact Nat.le_refl _)]; simp
                  go_wp2
                  go_roundw
                  case rel => exact ⟨A', n', c', kk + 1, zs, rfl, by go_num, by omega, HL, HO, by rw [← HR.out]; exact HE2⟩
                  case measure =>
                    have := HKK.out
                    simp [intOf]; omega
        · obtain rfl : k = n := by omega
          have HE3 : Hid (zs = nums s) := by show _ = _; rw [← HE.out, List.drop_eq_nil_of_le (by rw [HN.out]; exact Nat.le_refl _)]; simp
          go_wp2
          go_ret
          exact ⟨A', n', c', rfl, by rw [← HE3.out]; exact HL.out, by rw [← HE3.out]; exact HO.out⟩
end Go.Proofs.Ytlkcelmamenhpaa
