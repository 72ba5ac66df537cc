/- The contract of readSystem. -/
import Derived.Test.YtlkcelmamenhpaaT7
namespace Go.Proofs.Ytlkcelmamenhpaa
open Go.ChangeShapes Go.WideShapes Go.ChangeAt Go.RowKit Go.Deep
/-- A system of the call's own. -/
def OSy (w0 w : World) (A : Option Addr) (n c : Nat) (s : Sys) : Prop := ∃ L : List (Tsk × Value), s.ts = L.map (·.1) ∧ L.length = n ∧ Ot w0 w (.slice A n c) L
theorem OSy.none {w0 w : World} : OSy w0 w none 0 0 sys0 := ⟨[], rfl, rfl, Ot.nil⟩
theorem store9 {w : World} {b : Nat} {e : TypeId} {u0 u1 u2 u3 u4 u5 u6 u7 u8 : Value} (h : Blk w b #[u0, u1, u2, u3, u4, u5, u6, u7, u8] e) (v0 v1 v2 v3 v4 v5 v6 v7 v8 : Value) :
    Blk (((((((((w.setCell ⟨b, 0, none⟩ v0).setCell ⟨b, 1, none⟩ v1).setCell ⟨b, 2, none⟩ v2).setCell ⟨b, 3, none⟩ v3).setCell ⟨b, 4, none⟩ v4).setCell ⟨b, 5, none⟩ v5).setCell ⟨b, 6, none⟩ v6).setCell ⟨b, 7, none⟩ v7).setCell ⟨b, 8, none⟩ v8) b #[v0, v1, v2, v3, v4, v5, v6, v7, v8] e ∧ But (Just b) w (((((((((w.setCell ⟨b, 0, none⟩ v0).setCell ⟨b, 1, none⟩ v1).setCell ⟨b, 2, none⟩ v2).setCell ⟨b, 3, none⟩ v3).setCell ⟨b, 4, none⟩ v4).setCell ⟨b, 5, none⟩ v5).setCell ⟨b, 6, none⟩ v6).setCell ⟨b, 7, none⟩ v7).setCell ⟨b, 8, none⟩ v8) :=
  by
    have h0 : Blk (w.setCell ⟨b, 0, none⟩ v0) b #[v0, u1, u2, u3, u4, u5, u6, u7, u8] e := by simpa using h.set 0 v0
    have h1 : Blk ((w.setCell ⟨b, 0, none⟩ v0).setCell ⟨b, 1, none⟩ v1) b #[v0, v1, u2, u3, u4, u5, u6, u7, u8] e := by simpa using h0.set 1 v1
    have h2 : Blk (((w.setCell ⟨b, 0, none⟩ v0).setCell ⟨b, 1, none⟩ v1).setCell ⟨b, 2, none⟩ v2) b #[v0, v1, v2, u3, u4, u5, u6, u7, u8] e := by simpa using h1.set 2 v2
    have h3 : Blk ((((w.setCell ⟨b, 0, none⟩ v0).setCell ⟨b, 1, none⟩ v1).setCell ⟨b, 2, none⟩ v2).setCell ⟨b, 3, none⟩ v3) b #[v0, v1, v2, v3, u4, u5, u6, u7, u8] e := by simpa using h2.set 3 v3
    have h4 : Blk (((((w.setCell ⟨b, 0, none⟩ v0).setCell ⟨b, 1, none⟩ v1).setCell ⟨b, 2, none⟩ v2).setCell ⟨b, 3, none⟩ v3).setCell ⟨b, 4, none⟩ v4) b #[v0, v1, v2, v3, v4, u5, u6, u7, u8] e := by simpa using h3.set 4 v4
    have h5 : Blk ((((((w.setCell ⟨b, 0, none⟩ v0).setCell ⟨b, 1, none⟩ v1).setCell ⟨b, 2, none⟩ v2).setCell ⟨b, 3, none⟩ v3).setCell ⟨b, 4, none⟩ v4).setCell ⟨b, 5, none⟩ v5) b #[v0, v1, v2, v3, v4, v5, u6, u7, u8] e := by simpa using h4.set 5 v5
    have h6 : Blk (((((((w.setCell ⟨b, 0, none⟩ v0).setCell ⟨b, 1, none⟩ v1).setCell ⟨b, 2, none⟩ v2).setCell ⟨b, 3, none⟩ v3).setCell ⟨b, 4, none⟩ v4).setCell ⟨b, 5, none⟩ v5).setCell ⟨b, 6, none⟩ v6) b #[v0, v1, v2, v3, v4, v5, v6, u7, u8] e := by simpa using h5.set 6 v6
    have h7 : Blk ((((((((w.setCell ⟨b, 0, none⟩ v0).setCell ⟨b, 1, none⟩ v1).setCell ⟨b, 2, none⟩ v2).setCell ⟨b, 3, none⟩ v3).setCell ⟨b, 4, none⟩ v4).setCell ⟨b, 5, none⟩ v5).setCell ⟨b, 6, none⟩ v6).setCell ⟨b, 7, none⟩ v7) b #[v0, v1, v2, v3, v4, v5, v6, v7, u8] e := by simpa using h6.set 7 v7
    have h8 : Blk (((((((((w.setCell ⟨b, 0, none⟩ v0).setCell ⟨b, 1, none⟩ v1).setCell ⟨b, 2, none⟩ v2).setCell ⟨b, 3, none⟩ v3).setCell ⟨b, 4, none⟩ v4).setCell ⟨b, 5, none⟩ v5).setCell ⟨b, 6, none⟩ v6).setCell ⟨b, 7, none⟩ v7).setCell ⟨b, 8, none⟩ v8) b #[v0, v1, v2, v3, v4, v5, v6, v7, v8] e := by simpa using h7.set 8 v8
    exact ⟨h8, (((((((((But.refl _ _).setCell (just b) _).setCell (just b) _).setCell (just b) _).setCell (just b) _).setCell (just b) _).setCell (just b) _).setCell (just b) _).setCell (just b) _).setCell (just b) _⟩
def RetSy (w0 : World) (S : Nat → Prop) (w : World) (p : Nat × Sys) (r : Ending) (w' : World) : Prop :=
  ∃ A n c, r = .returned (.tuple #[sysV p.2 A n c, .int .i64 (p.1 : Int)]) ∧ But S w w' ∧ OSy w0 w' A n c p.2
set_option maxRecDepth 100000 in
set_option maxHeartbeats 2000000 in
theorem readSystem_any (br bn : Nat) (ns : List Nat) (w : World) (h : Rc w br bn ns) (hfit : ∀ x ∈ ns, x ≤ 9223372036854775807) : Calls Try.prog 27 #[nextV br] w (RetSy w (Just br) w (parse ns)) := by
  have HC := Lib.hid h
  have CF : Hid (Calls Try.prog 37 #[.slice (some ⟨w.heap.size + 1, 0, none⟩) 10 10, nextV br] ((w.alloc (.cells #[.int .i64 0, .int .i64 0, .int .i64 0, .int .i64 0, .int .i64 0, .int .i64 0, .int .i64 0, .int .i64 0, .slice none 0 0] 24)).alloc (.cells #[.int .i64 0, .int .i64 0, .int .i64 0, .int .i64 0, .int .i64 0, .int .i64 0, .int .i64 0, .int .i64 0, .int .i64 0, .int .i64 0] 63)) fun r w' => ∃ ok : Bool, r = .returned (.bool ok) ∧ ok = decide (10 ≤ ns.length) ∧ But (Just br) (w.alloc (.cells #[.int .i64 0, .int .i64 0, .int .i64 0, .int .i64 0, .int .i64 0, .int .i64 0, .int .i64 0, .int .i64 0, .slice none 0 0] 24)) w' ∧
          (10 ≤ ns.length → Rc w' br bn (ns.drop 10) ∧ Vals w' (w.heap.size + 1) 63 10 (fun i => .int .i64 ((ns.getD i 0 : Nat) : Int)))) := by
    have := fill_new (e := 63) (m := 10) (h.but (S := No) ((But.refl _ _).alloc (.cells #[.int .i64 0, .int .i64 0, .int .i64 0, .int .i64 0, .int .i64 0, .int .i64 0, .int .i64 0, .int .i64 0, .slice none 0 0] 24)) (fun f => f) (fun f => f)) rfl (by omega)
    rw [size_alloc1] at this
    exact this
  clear h
  have hne1 : w.heap.size ≠ br := by have := HC.out.ltr; omega
  have hne2 : w.heap.size + 1 ≠ br := by have := HC.out.ltr; omega
  by_cases h4 : 10 ≤ ns.length
  · have CF2 : Hid (Calls Try.prog 37 #[.slice (some ⟨w.heap.size + 1, 0, none⟩) 10 10, nextV br] ((w.alloc (.cells #[.int .i64 0, .int .i64 0, .int .i64 0, .int .i64 0, .int .i64 0, .int .i64 0, .int .i64 0, .int .i64 0, .slice none 0 0] 24)).alloc (.cells #[.int .i64 0, .int .i64 0, .int .i64 0, .int .i64 0, .int .i64 0, .int .i64 0, .int .i64 0, .int .i64 0, .int .i64 0, .int .i64 0] 63)) fun r w' => r = .returned (.bool true) ∧ But (Just br) w w' ∧ Blk w' w.heap.size (boxS sys0 none 0 0) 24 ∧ Rc w' br bn (ns.drop 10) ∧ w'.cell? ⟨w.heap.size + 1, 0, none⟩ = some (.int .i64 ((ns.getD 0 0 : Nat) : Int)) ∧ w'.cell? ⟨w.heap.size + 1, 1, none⟩ = some (.int .i64 ((ns.getD 1 0 : Nat) : Int)) ∧ w'.cell? ⟨w.heap.size + 1, 2, none⟩ = some (.int .i64 ((ns.getD 2 0 : Nat) : Int)) ∧ w'.cell? ⟨w.heap.size + 1, 3, none⟩ = some (.int .i64 ((ns.getD 3 0 : Nat) : Int)) ∧ w'.cell? ⟨w.heap.size + 1, 4, none⟩ = some (.int .i64 ((ns.getD 4 0 : Nat) : Int)) ∧ w'.cell? ⟨w.heap.size + 1, 5, none⟩ = some (.int .i64 ((ns.getD 5 0 : Nat) : Int)) ∧ w'.cell? ⟨w.heap.size + 1, 6, none⟩ = some (.int .i64 ((ns.getD 6 0 : Nat) : Int)) ∧ w'.cell? ⟨w.heap.size + 1, 7, none⟩ = some (.int .i64 ((ns.getD 7 0 : Nat) : Int)) ∧ w'.cell? ⟨w.heap.size + 1, 8, none⟩ = some (.int .i64 ((ns.getD 8 0 : Nat) : Int)) ∧ w'.cell? ⟨w.heap.size + 1, 9, none⟩ = some (.int .i64 ((ns.getD 9 0 : Nat) : Int)) ∧ w.heap.size + 1 < w'.heap.size) := CF.out.mono fun r w' ⟨ok, hr, ho, hb, hf⟩ => by
      obtain ⟨f1, f2⟩ := hf h4
      exact ⟨by rw [hr, ho, decide_eq_true h4], ((But.refl _ _).alloc _).trans hb, (Blk.new w _ _).but hb (fun e => by have := HC.out.ltr; unfold Just at e; omega), f1, f2.cell (by omega), f2.cell (by omega), f2.cell (by omega), f2.cell (by omega), f2.cell (by omega), f2.cell (by omega), f2.cell (by omega), f2.cell (by omega), f2.cell (by omega), f2.cell (by omega), f2.lt⟩
    have hk : ns.getD 9 0 ≤ 9223372036854775807 := hfit _ (by simp [List.getD, List.getElem?_eq_getElem (show 9 < ns.length by omega)])
    have CS : Hid (∀ W, Rc W br bn (ns.drop 10) → Calls Try.prog 38 #[.int .i64 ((ns.getD 9 0 : Nat) : Int), nextV br] W (RetTasks W br bn (ns.drop 10) (ns.getD 9 0))) := fun W hc => readTasks_any br bn _ _ W hc (fun x hx => hfit x (List.mem_of_mem_drop hx)) hk
    have HP : Hid (parse ns = if ns.getD 0 0 ≠ 1 then (8, sys0) else if 24 < ns.getD 9 0 then (7, sys0)
      else if (pTasks (ns.getD 9 0) (ns.drop 10)).1 ≠ 0 then ((pTasks (ns.getD 9 0) (ns.drop 10)).1, sys0)
      else if 0 < (pTasks (ns.getD 9 0) (ns.drop 10)).2.2.length then (8, sys0)
      else (0, ⟨(ns.getD 1 0 : Nat), (ns.getD 2 0 : Nat), (ns.getD 3 0 : Nat), (ns.getD 4 0 : Nat), (ns.getD 5 0 : Nat), (ns.getD 6 0 : Nat), (ns.getD 7 0 : Nat), (ns.getD 8 0 : Nat), (pTasks (ns.getD 9 0) (ns.drop 10)).2.1⟩)) := by
      show _ = _
      unfold parse
      by_cases q : ns.getD 0 0 ≠ 1
      · rw [if_pos (.inr q), if_pos q]
      · rw [if_neg (fun f => f.elim (by omega) q), if_neg q]
    clear CF hfit h4
    generalize ns.getD 0 0 = x0 at *
    generalize ns.getD 1 0 = x1 at *
    generalize ns.getD 2 0 = x2 at *
    generalize ns.getD 3 0 = x3 at *
    generalize ns.getD 4 0 = x4 at *
    generalize ns.getD 5 0 = x5 at *
    generalize ns.getD 6 0 = x6 at *
    generalize ns.getD 7 0 = x7 at *
    generalize ns.getD 8 0 = x8 at *
    generalize ns.getD 9 0 = x9 at *
    generalize ns.drop 10 = ms at *
    by_cases h1 : x0 = 1
    · subst h1
      obtain ⟨E, hE⟩ : ∃ E, E = (if 24 < x9 then 7 else (pTasks x9 ms).1) := ⟨_, rfl⟩
      by_cases h0 : E = 0
      · have hp : ¬ 24 < x9 ∧ (pTasks x9 ms).1 = 0 := by
          by_cases q : 24 < x9
          · rw [if_pos q] at hE; omega
          · rw [if_neg q] at hE; exact ⟨q, by omega⟩
        have CS2 : Hid (∀ W, Rc W br bn ms → Calls Try.prog 38 #[.int .i64 (x9 : Int), nextV br] W fun r w' => ∃ A n c L, r = .returned (.tuple #[.slice A n c, .int .i64 0]) ∧ But (Just br) W w' ∧ L.map (·.1) = (pTasks x9 ms).2.1 ∧ L.length = n ∧ Ot W w' (.slice A n c) L ∧ Rc w' br bn (pTasks x9 ms).2.2) := fun W hc => (CS.out W hc).mono fun r w' ⟨A, n, c, E', hr, he, hb, hf⟩ => by
          have e0 : E' = 0 := by rw [he, ← hE]; exact h0
          subst e0
          obtain ⟨L, f1, f2, f3, f4⟩ := hf rfl
          exact ⟨A, n, c, L, hr, hb, f1, f2, f3, f4⟩
        have HP2 : Hid (parse ns = if 0 < (pTasks x9 ms).2.2.length then (8, sys0) else (0, ⟨x1, x2, x3, x4, x5, x6, x7, x8, (pTasks x9 ms).2.1⟩)) := by
          show _ = _
          rw [HP.out, if_neg (by simp), if_neg hp.1, if_neg (by simp [hp.2])]
        clear CS HP hE h0 hp
        generalize (pTasks x9 ms).2.1 = ts at *
        generalize (pTasks x9 ms).2.2 = rest at *
        cases rest with
        | nil =>
          have HE : Hid (parse ns = (0, ⟨x1, x2, x3, x4, x5, x6, x7, x8, ts⟩)) := by show _ = _; rw [HP2.out, if_neg (by simp)]
          have CN : Hid (∀ W, Rc W br bn [] → Calls Try.prog 28 #[.pointer (some ⟨br, 0, none⟩)] W fun e w' => e = .returned (.tuple #[.int .i64 0, .bool false]) ∧ W = w') := fun W hc => next_nil hc.rd
          clear HP2
          go_enter Try.func27, Try.ntmps27
          go_wp2_with (first | (go_at_call 37; refine CF2.out.mono ?_; rintro e w2 ⟨rfl, hb2, hk2, hr2, d0, d1, d2, d3, d4, d5, d6, d7, d8, d9, hl2⟩; have HB2 := Lib.hid hb2; have HK2 := Lib.hid hk2; have HR2 := Lib.hid hr2; have f0 := HK2.out.frozen 0; have f1 := HK2.out.frozen 1; have f2 := HK2.out.frozen 2; have f3 := HK2.out.frozen 3; have f4 := HK2.out.frozen 4; have f5 := HK2.out.frozen 5; have f6 := HK2.out.frozen 6; have f7 := HK2.out.frozen 7; have f8 := HK2.out.frozen 8; obtain ⟨g0, g1, g2, g3, g4, g5, g6, g7, g8⟩ := sys_cells hk2; clear hb2 hk2 hr2) | (go_at_call 38; refine (CS2.out _ HR2.out).mono ?_; rintro e w3 ⟨A, n, c, L, rfl, hb3, hL, hLn, ho3, hr3⟩; have HB3 := Lib.hid hb3; have HL3 := Lib.hid hL; have HLN := Lib.hid hLn; have HO3 := Lib.hid ho3; have HR3 := Lib.hid hr3; have HK3 := Lib.hid (HK2.out.but hb3 hne1); have e1 := (hb3.cell hl2 hne2).trans d1; have e2 := (hb3.cell hl2 hne2).trans d2; have e3 := (hb3.cell hl2 hne2).trans d3; have e4 := (hb3.cell hl2 hne2).trans d4; have e5 := (hb3.cell hl2 hne2).trans d5; have e6 := (hb3.cell hl2 hne2).trans d6; have e7 := (hb3.cell hl2 hne2).trans d7; have e8 := (hb3.cell hl2 hne2).trans d8; clear hb3 hL hLn ho3 hr3) | (go_at_call 28; refine (CN.out _ HR3.out).mono ?_; rintro e w4 ⟨rfl, rfl⟩; clear f0 g0; clear f1 g1; clear f2 g2; clear f3 g3; clear f4 g4; clear f5 g5; clear f6 g6; clear f7 g7; clear f8 g8; have f0 := HK3.out.frozen 0; have f1 := HK3.out.frozen 1; have f2 := HK3.out.frozen 2; have f3 := HK3.out.frozen 3; have f4 := HK3.out.frozen 4; have f5 := HK3.out.frozen 5; have f6 := HK3.out.frozen 6; have f7 := HK3.out.frozen 7; have f8 := HK3.out.frozen 8; obtain ⟨g0, g1, g2, g3, g4, g5, g6, g7, g8⟩ := sys_cells HK3.out))
          obtain ⟨hk, hbb⟩ := store9 (e := 24) HK3.out (.int .i64 (x1 : Int)) (.int .i64 (x2 : Int)) (.int .i64 (x3 : Int)) (.int .i64 (x4 : Int)) (.int .i64 (x5 : Int)) (.int .i64 (x6 : Int)) (.int .i64 (x7 : Int)) (.int .i64 (x8 : Int)) (.slice A n c)
          generalize (((((((((w3.setCell ⟨w.heap.size, 0, none⟩ (.int .i64 (x1 : Int))).setCell ⟨w.heap.size, 1, none⟩ (.int .i64 (x2 : Int))).setCell ⟨w.heap.size, 2, none⟩ (.int .i64 (x3 : Int))).setCell ⟨w.heap.size, 3, none⟩ (.int .i64 (x4 : Int))).setCell ⟨w.heap.size, 4, none⟩ (.int .i64 (x5 : Int))).setCell ⟨w.heap.size, 5, none⟩ (.int .i64 (x6 : Int))).setCell ⟨w.heap.size, 6, none⟩ (.int .i64 (x7 : Int))).setCell ⟨w.heap.size, 7, none⟩ (.int .i64 (x8 : Int))).setCell ⟨w.heap.size, 8, none⟩ (.slice A n c)) = W at *
          obtain ⟨k0, k1, k2, k3, k4, k5, k6, k7, k8⟩ := sys_cells (s := ⟨x1, x2, x3, x4, x5, x6, x7, x8, ts⟩) hk
          refine bodyPost_ret (v := .tuple #[sysV ⟨x1, x2, x3, x4, x5, x6, x7, x8, ts⟩ A n c, .int .i64 0]) (by simp [results, Try.results27, go_sem, sysV, k0, k1, k2, k3, k4, k5, k6, k7, k8]) rfl ?_
          refine ⟨A, n, c, by rw [HE.out]; rfl, (HB2.out.trans HB3.out).andThen hbb (fun k e => .inr (by unfold Just at e; omega)), ?_⟩
          rw [HE.out]
          have hz := HB2.out.size
          have ho := HO3.out.but hbb (fun j f => by unfold Just at f; omega)
          exact ⟨L, HL3.out.symm, HLN.out, ho.own, fun j e => Nat.le_trans hz (ho.new j e), fun x hx => ⟨(ho.secs x hx).1.start hz, (ho.secs x hx).2⟩⟩
        | cons y r =>
          have HE : Hid (parse ns = (8, sys0)) := by show _ = _; rw [HP2.out, if_pos (by simp)]
          have CN : Hid (∀ W, Rc W br bn (y :: r) → Calls Try.prog 28 #[.pointer (some ⟨br, 0, none⟩)] W fun e w' => ∃ x : Nat, e = .returned (.tuple #[.int .i64 (x : Int), .bool true]) ∧ But (Just br) W w') := fun W hc => (next_cons hc.rd hc.ne).mono fun e w' ⟨h1, _, h3⟩ => ⟨y, h1, h3⟩
          clear HP2
          go_enter Try.func27, Try.ntmps27
          go_wp2_with (first | (go_at_call 37; refine CF2.out.mono ?_; rintro e w2 ⟨rfl, hb2, hk2, hr2, d0, d1, d2, d3, d4, d5, d6, d7, d8, d9, hl2⟩; have HB2 := Lib.hid hb2; have HK2 := Lib.hid hk2; have HR2 := Lib.hid hr2; have f0 := HK2.out.frozen 0; have f1 := HK2.out.frozen 1; have f2 := HK2.out.frozen 2; have f3 := HK2.out.frozen 3; have f4 := HK2.out.frozen 4; have f5 := HK2.out.frozen 5; have f6 := HK2.out.frozen 6; have f7 := HK2.out.frozen 7; have f8 := HK2.out.frozen 8; obtain ⟨g0, g1, g2, g3, g4, g5, g6, g7, g8⟩ := sys_cells hk2; clear hb2 hk2 hr2) | (go_at_call 38; refine (CS2.out _ HR2.out).mono ?_; rintro e w3 ⟨A, n, c, L, rfl, hb3, hL, hLn, ho3, hr3⟩; have HB3 := Lib.hid hb3; have HL3 := Lib.hid hL; have HLN := Lib.hid hLn; have HO3 := Lib.hid ho3; have HR3 := Lib.hid hr3; have HK3 := Lib.hid (HK2.out.but hb3 hne1); have e1 := (hb3.cell hl2 hne2).trans d1; have e2 := (hb3.cell hl2 hne2).trans d2; have e3 := (hb3.cell hl2 hne2).trans d3; have e4 := (hb3.cell hl2 hne2).trans d4; have e5 := (hb3.cell hl2 hne2).trans d5; have e6 := (hb3.cell hl2 hne2).trans d6; have e7 := (hb3.cell hl2 hne2).trans d7; have e8 := (hb3.cell hl2 hne2).trans d8; clear hb3 hL hLn ho3 hr3) | (go_at_call 28; refine (CN.out _ HR3.out).mono ?_; rintro e w4 ⟨x, rfl, hb4⟩; have HB4 := Lib.hid hb4; have HK4 := Lib.hid (HK3.out.but hb4 hne1); clear f0 g0; clear f1 g1; clear f2 g2; clear f3 g3; clear f4 g4; clear f5 g5; clear f6 g6; clear f7 g7; clear f8 g8; have f0 := HK4.out.frozen 0; have f1 := HK4.out.frozen 1; have f2 := HK4.out.frozen 2; have f3 := HK4.out.frozen 3; have f4 := HK4.out.frozen 4; have f5 := HK4.out.frozen 5; have f6 := HK4.out.frozen 6; have f7 := HK4.out.frozen 7; have f8 := HK4.out.frozen 8; obtain ⟨g0, g1, g2, g3, g4, g5, g6, g7, g8⟩ := sys_cells HK4.out; clear hb4))
          obtain ⟨hk, hbb⟩ := store9 (e := 24) HK4.out (.int .i64 0) (.int .i64 0) (.int .i64 0) (.int .i64 0) (.int .i64 0) (.int .i64 0) (.int .i64 0) (.int .i64 0) (.slice none 0 0)
          generalize (((((((((w4.setCell ⟨w.heap.size, 0, none⟩ (.int .i64 0)).setCell ⟨w.heap.size, 1, none⟩ (.int .i64 0)).setCell ⟨w.heap.size, 2, none⟩ (.int .i64 0)).setCell ⟨w.heap.size, 3, none⟩ (.int .i64 0)).setCell ⟨w.heap.size, 4, none⟩ (.int .i64 0)).setCell ⟨w.heap.size, 5, none⟩ (.int .i64 0)).setCell ⟨w.heap.size, 6, none⟩ (.int .i64 0)).setCell ⟨w.heap.size, 7, none⟩ (.int .i64 0)).setCell ⟨w.heap.size, 8, none⟩ (.slice none 0 0)) = W at *
          obtain ⟨k0, k1, k2, k3, k4, k5, k6, k7, k8⟩ := sys_cells (s := sys0) hk
          refine bodyPost_ret (v := .tuple #[sysV sys0 none 0 0, .int .i64 8]) (by simp [results, Try.results27, go_sem, sysV, sys0, k0, k1, k2, k3, k4, k5, k6, k7, k8]) rfl ?_
          exact ⟨none, 0, 0, by rw [HE.out] <;> rfl, ((HB2.out.trans HB3.out).trans HB4.out).andThen hbb (fun k e => .inr (by unfold Just at e; omega)), by rw [HE.out]; exact OSy.none⟩
      · have CS2 : Hid (∀ W, Rc W br bn ms → Calls Try.prog 38 #[.int .i64 (x9 : Int), nextV br] W fun r w' => ∃ A n c, r = .returned (.tuple #[.slice A n c, .int .i64 (E : Int)]) ∧ But (Just br) W w') := fun W hc => (CS.out W hc).mono fun r w' ⟨A, n, c, E', hr, he, hb, hf⟩ => by
          have e0 : E' = E := by rw [he, ← hE]
          subst e0
          exact ⟨A, n, c, hr, hb⟩
        have HE : Hid (parse ns = (E, sys0)) := by
          show _ = _
          rw [HP.out, if_neg (by simp)]
          by_cases q : 24 < x9
          · rw [if_pos q] at hE
            rw [if_pos q, hE]
          · rw [if_neg q] at hE
            rw [if_neg q, ← hE, if_pos h0]
        have hne : ((E : Int) != 0) = true := by rw [bne_iff_ne]; omega
        clear CS hE HP
        go_enter Try.func27, Try.ntmps27
        go_wp2_with (first | (go_at_call 37; refine CF2.out.mono ?_; rintro e w2 ⟨rfl, hb2, hk2, hr2, d0, d1, d2, d3, d4, d5, d6, d7, d8, d9, hl2⟩; have HB2 := Lib.hid hb2; have HK2 := Lib.hid hk2; have HR2 := Lib.hid hr2; have f0 := HK2.out.frozen 0; have f1 := HK2.out.frozen 1; have f2 := HK2.out.frozen 2; have f3 := HK2.out.frozen 3; have f4 := HK2.out.frozen 4; have f5 := HK2.out.frozen 5; have f6 := HK2.out.frozen 6; have f7 := HK2.out.frozen 7; have f8 := HK2.out.frozen 8; obtain ⟨g0, g1, g2, g3, g4, g5, g6, g7, g8⟩ := sys_cells hk2; clear hb2 hk2 hr2) | (go_at_call 38; refine (CS2.out _ HR2.out).mono ?_; rintro e w3 ⟨A, n, c, rfl, hb3⟩; have HB3 := Lib.hid hb3; have HK3 := Lib.hid (HK2.out.but hb3 hne1); clear f0 g0; clear f1 g1; clear f2 g2; clear f3 g3; clear f4 g4; clear f5 g5; clear f6 g6; clear f7 g7; clear f8 g8; have f0 := HK3.out.frozen 0; have f1 := HK3.out.frozen 1; have f2 := HK3.out.frozen 2; have f3 := HK3.out.frozen 3; have f4 := HK3.out.frozen 4; have f5 := HK3.out.frozen 5; have f6 := HK3.out.frozen 6; have f7 := HK3.out.frozen 7; have f8 := HK3.out.frozen 8; obtain ⟨g0, g1, g2, g3, g4, g5, g6, g7, g8⟩ := sys_cells HK3.out; clear hb3))
        obtain ⟨hk, hbb⟩ := store9 (e := 24) HK3.out (.int .i64 0) (.int .i64 0) (.int .i64 0) (.int .i64 0) (.int .i64 0) (.int .i64 0) (.int .i64 0) (.int .i64 0) (.slice none 0 0)
        generalize (((((((((w3.setCell ⟨w.heap.size, 0, none⟩ (.int .i64 0)).setCell ⟨w.heap.size, 1, none⟩ (.int .i64 0)).setCell ⟨w.heap.size, 2, none⟩ (.int .i64 0)).setCell ⟨w.heap.size, 3, none⟩ (.int .i64 0)).setCell ⟨w.heap.size, 4, none⟩ (.int .i64 0)).setCell ⟨w.heap.size, 5, none⟩ (.int .i64 0)).setCell ⟨w.heap.size, 6, none⟩ (.int .i64 0)).setCell ⟨w.heap.size, 7, none⟩ (.int .i64 0)).setCell ⟨w.heap.size, 8, none⟩ (.slice none 0 0)) = W at *
        obtain ⟨k0, k1, k2, k3, k4, k5, k6, k7, k8⟩ := sys_cells (s := sys0) hk
        refine bodyPost_ret (v := .tuple #[sysV sys0 none 0 0, .int .i64 (E : Int)]) (by simp [results, Try.results27, go_sem, sysV, sys0, k0, k1, k2, k3, k4, k5, k6, k7, k8]) rfl ?_
        exact ⟨none, 0, 0, by rw [HE.out] <;> rfl, (HB2.out.trans HB3.out).andThen hbb (fun k e => .inr (by unfold Just at e; omega)), by rw [HE.out]; exact OSy.none⟩
    · have HE : Hid (parse ns = (8, sys0)) := by show _ = _; rw [HP.out, if_pos h1]
      have hne : ((x0 : Int) != 1) = true := by rw [bne_iff_ne]; omega
      clear CS HP
      go_enter Try.func27, Try.ntmps27
      go_wp2_with (go_at_call 37; refine CF2.out.mono ?_; rintro e w2 ⟨rfl, hb2, hk2, hr2, d0, d1, d2, d3, d4, d5, d6, d7, d8, d9, hl2⟩; have HB2 := Lib.hid hb2; have HK2 := Lib.hid hk2; have HR2 := Lib.hid hr2; have f0 := HK2.out.frozen 0; have f1 := HK2.out.frozen 1; have f2 := HK2.out.frozen 2; have f3 := HK2.out.frozen 3; have f4 := HK2.out.frozen 4; have f5 := HK2.out.frozen 5; have f6 := HK2.out.frozen 6; have f7 := HK2.out.frozen 7; have f8 := HK2.out.frozen 8; obtain ⟨g0, g1, g2, g3, g4, g5, g6, g7, g8⟩ := sys_cells hk2; clear hb2 hk2 hr2)
      obtain ⟨hk, hbb⟩ := store9 (e := 24) HK2.out (.int .i64 0) (.int .i64 0) (.int .i64 0) (.int .i64 0) (.int .i64 0) (.int .i64 0) (.int .i64 0) (.int .i64 0) (.slice none 0 0)
      generalize (((((((((w2.setCell ⟨w.heap.size, 0, none⟩ (.int .i64 0)).setCell ⟨w.heap.size, 1, none⟩ (.int .i64 0)).setCell ⟨w.heap.size, 2, none⟩ (.int .i64 0)).setCell ⟨w.heap.size, 3, none⟩ (.int .i64 0)).setCell ⟨w.heap.size, 4, none⟩ (.int .i64 0)).setCell ⟨w.heap.size, 5, none⟩ (.int .i64 0)).setCell ⟨w.heap.size, 6, none⟩ (.int .i64 0)).setCell ⟨w.heap.size, 7, none⟩ (.int .i64 0)).setCell ⟨w.heap.size, 8, none⟩ (.slice none 0 0)) = W at *
      obtain ⟨k0, k1, k2, k3, k4, k5, k6, k7, k8⟩ := sys_cells (s := sys0) hk
      refine bodyPost_ret (v := .tuple #[sysV sys0 none 0 0, .int .i64 8]) (by simp [results, Try.results27, go_sem, sysV, sys0, k0, k1, k2, k3, k4, k5, k6, k7, k8]) rfl ?_
      exact ⟨none, 0, 0, by rw [HE.out] <;> rfl, (HB2.out).andThen hbb (fun k e => .inr (by unfold Just at e; omega)), by rw [HE.out]; exact OSy.none⟩
  · have CF2 : Hid (Calls Try.prog 37 #[.slice (some ⟨w.heap.size + 1, 0, none⟩) 10 10, nextV br] ((w.alloc (.cells #[.int .i64 0, .int .i64 0, .int .i64 0, .int .i64 0, .int .i64 0, .int .i64 0, .int .i64 0, .int .i64 0, .slice none 0 0] 24)).alloc (.cells #[.int .i64 0, .int .i64 0, .int .i64 0, .int .i64 0, .int .i64 0, .int .i64 0, .int .i64 0, .int .i64 0, .int .i64 0, .int .i64 0] 63)) fun r w' => r = .returned (.bool false) ∧ But (Just br) w w' ∧ Blk w' w.heap.size (boxS sys0 none 0 0) 24) := CF.out.mono fun r w' ⟨ok, hr, ho, hb, hf⟩ =>
      ⟨by rw [hr, ho, decide_eq_false h4], ((But.refl _ _).alloc _).trans hb, (Blk.new w _ _).but hb (fun e => by have := HC.out.ltr; unfold Just at e; omega)⟩
    have HE : Hid (parse ns = (8, sys0)) := by show _ = _; unfold parse; rw [if_pos (.inl (by omega))]
    clear CF
    go_enter Try.func27, Try.ntmps27
    go_wp2_with (go_at_call 37; refine CF2.out.mono ?_; rintro e w2 ⟨rfl, hb2, hk2⟩; have HB2 := Lib.hid hb2; have HK2 := Lib.hid hk2; have f0 := HK2.out.frozen 0; have f1 := HK2.out.frozen 1; have f2 := HK2.out.frozen 2; have f3 := HK2.out.frozen 3; have f4 := HK2.out.frozen 4; have f5 := HK2.out.frozen 5; have f6 := HK2.out.frozen 6; have f7 := HK2.out.frozen 7; have f8 := HK2.out.frozen 8; obtain ⟨g0, g1, g2, g3, g4, g5, g6, g7, g8⟩ := sys_cells hk2; clear hb2 hk2)
    obtain ⟨hk, hbb⟩ := store9 (e := 24) HK2.out (.int .i64 0) (.int .i64 0) (.int .i64 0) (.int .i64 0) (.int .i64 0) (.int .i64 0) (.int .i64 0) (.int .i64 0) (.slice none 0 0)
    generalize (((((((((w2.setCell ⟨w.heap.size, 0, none⟩ (.int .i64 0)).setCell ⟨w.heap.size, 1, none⟩ (.int .i64 0)).setCell ⟨w.heap.size, 2, none⟩ (.int .i64 0)).setCell ⟨w.heap.size, 3, none⟩ (.int .i64 0)).setCell ⟨w.heap.size, 4, none⟩ (.int .i64 0)).setCell ⟨w.heap.size, 5, none⟩ (.int .i64 0)).setCell ⟨w.heap.size, 6, none⟩ (.int .i64 0)).setCell ⟨w.heap.size, 7, none⟩ (.int .i64 0)).setCell ⟨w.heap.size, 8, none⟩ (.slice none 0 0)) = W at *
    obtain ⟨k0, k1, k2, k3, k4, k5, k6, k7, k8⟩ := sys_cells (s := sys0) hk
    refine bodyPost_ret (v := .tuple #[sysV sys0 none 0 0, .int .i64 8]) (by simp [results, Try.results27, go_sem, sysV, sys0, k0, k1, k2, k3, k4, k5, k6, k7, k8]) rfl ?_
    exact ⟨none, 0, 0, by rw [HE.out] <;> rfl, (HB2.out).andThen hbb (fun k e => .inr (by unfold Just at e; omega)), by rw [HE.out]; exact OSy.none⟩
end Go.Proofs.Ytlkcelmamenhpaa
