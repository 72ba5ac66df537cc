/- The contract of readTask. -/
import Derived.Test.YtlkcelmamenhpaaT5
import Derived.Handy
namespace Go.Proofs.Ytlkcelmamenhpaa
open Go.ChangeShapes Go.WideShapes Go.ChangeAt Go.RowKit Go.Deep
def tErr (ns : List Nat) : Nat := if ns.length < 4 then 8 else if 4 < ns.getD 3 0 then 7 else if ns.length - 4 < 3 * ns.getD 3 0 then 8 else 0
def tAt (ns : List Nat) : Tsk := ⟨(ns.getD 0 0 : Nat), (ns.getD 1 0 : Nat), (ns.getD 2 0 : Nat), pSecs (ns.getD 3 0) (ns.drop 4)⟩
def tRest (ns : List Nat) : List Nat := ns.drop (4 + 3 * ns.getD 3 0)
theorem Os.start {w0 w1 w : World} {v : Value} {l : List (Int × Int × Int)} (h : Os w1 w v l) (hb : w0.heap.size ≤ w1.heap.size) : Os w0 w v l := ⟨h.own, fun j e => Nat.le_trans hb (h.new j e)⟩
def RetTask (w : World) (br bn : Nat) (ns : List Nat) (r : Ending) (w' : World) : Prop :=
  ∃ (t : Tsk) (A : Option Addr) (n c E : Nat), r = .returned (.tuple #[tskV t A n c, .int .i64 (E : Int)]) ∧ E = tErr ns ∧ But (Just br) w w' ∧
    (E = 0 → t = tAt ns ∧ t.secs.length = n ∧ Os w w' (.slice A n c) t.secs ∧ Rc w' br bn (tRest ns))
theorem tsk_cells {t : Tsk} {A : Option Addr} {n c : Nat} {w : World} {b : Nat} {e : TypeId} (h : Blk w b (boxT t A n c) e) : w.cell? ⟨b, 0, none⟩ = some (.int .i64 t.p) ∧ w.cell? ⟨b, 1, none⟩ = some (.int .i64 t.d) ∧ w.cell? ⟨b, 2, none⟩ = some (.int .i64 t.w) ∧ w.cell? ⟨b, 3, none⟩ = some (.slice A n c) :=
  ⟨h.cell rfl, h.cell rfl, h.cell rfl, h.cell rfl⟩
theorem rd_small {w : World} {br bn : Nat} {ns : List Nat} (h : RD w br bn ns) : ns.length ≤ 2000 := by
  obtain ⟨A, n, c, _, h2, h3⟩ := h
  rw [h2.len]; exact h3
def tsk0 : Tsk := ⟨0, 0, 0, []⟩
theorem store4 {w : World} {b : Nat} {e : TypeId} {u0 u1 u2 u3 : Value} (h : Blk w b #[u0, u1, u2, u3] e) (v0 v1 v2 v3 : Value) :
    Blk ((((w.setCell ⟨b, 0, none⟩ v0).setCell ⟨b, 1, none⟩ v1).setCell ⟨b, 2, none⟩ v2).setCell ⟨b, 3, none⟩ v3) b #[v0, v1, v2, v3] e ∧ But (Just b) w ((((w.setCell ⟨b, 0, none⟩ v0).setCell ⟨b, 1, none⟩ v1).setCell ⟨b, 2, none⟩ v2).setCell ⟨b, 3, none⟩ v3) :=
  ⟨(((h.set 0 v0).set 1 v1).set 2 v2).set 3 v3, ((((But.refl _ _).setCell (just b) _).setCell (just b) _).setCell (just b) _).setCell (just b) _⟩
set_option maxRecDepth 100000 in
set_option maxHeartbeats 1000000 in
theorem readTask_any (br bn : Nat) (ns : List Nat) (w : World) (h : Rc w br bn ns) (hfit : ∀ x ∈ ns, x ≤ 9223372036854775807) : Calls Try.prog 42 #[nextV br] w (RetTask w br bn ns) := by
  have HC := Lib.hid h
  obtain ⟨b2, hb2⟩ : ∃ b, b = w.heap.size := ⟨_, rfl⟩
  have CF : Hid (Calls Try.prog 37 #[.slice (some ⟨w.heap.size + 1, 0, none⟩) 4 4, nextV br] ((w.alloc (.cells #[.int .i64 0, .int .i64 0, .int .i64 0, .slice none 0 0] 39)).alloc (.cells #[.int .i64 0, .int .i64 0, .int .i64 0, .int .i64 0] 75)) fun r w' => ∃ ok : Bool, r = .returned (.bool ok) ∧ ok = decide (4 ≤ ns.length) ∧ But (Just br) (w.alloc (.cells #[.int .i64 0, .int .i64 0, .int .i64 0, .slice none 0 0] 39)) w' ∧
          (4 ≤ ns.length → Rc w' br bn (ns.drop 4) ∧ Vals w' (w.heap.size + 1) 75 4 (fun i => .int .i64 ((ns.getD i 0 : Nat) : Int)))) := by
    have := fill_new (e := 75) (m := 4) (h.but (S := No) ((But.refl _ _).alloc (.cells #[.int .i64 0, .int .i64 0, .int .i64 0, .slice none 0 0] 39)) (fun f => f) (fun f => f)) rfl (by omega)
    rw [size_alloc1] at this
    exact this
  clear h
  by_cases h4 : 4 ≤ ns.length
  · have CF2 : Hid (Calls Try.prog 37 #[.slice (some ⟨w.heap.size + 1, 0, none⟩) 4 4, nextV br] ((w.alloc (.cells #[.int .i64 0, .int .i64 0, .int .i64 0, .slice none 0 0] 39)).alloc (.cells #[.int .i64 0, .int .i64 0, .int .i64 0, .int .i64 0] 75)) fun r w' => r = .returned (.bool true) ∧ But (Just br) w w' ∧ Blk w' w.heap.size (boxT tsk0 none 0 0) 39 ∧ Rc w' br bn (ns.drop 4) ∧ w'.cell? ⟨w.heap.size + 1, 0, none⟩ = some (.int .i64 ((ns.getD 0 0 : Nat) : Int)) ∧ w'.cell? ⟨w.heap.size + 1, 1, none⟩ = some (.int .i64 ((ns.getD 1 0 : Nat) : Int)) ∧ w'.cell? ⟨w.heap.size + 1, 2, none⟩ = some (.int .i64 ((ns.getD 2 0 : Nat) : Int)) ∧ w'.cell? ⟨w.heap.size + 1, 3, none⟩ = some (.int .i64 ((ns.getD 3 0 : Nat) : Int)) ∧ w.heap.size + 1 < w'.heap.size) := CF.out.mono fun r w' ⟨ok, hr, ho, hb, hf⟩ => by
      obtain ⟨f1, f2⟩ := hf h4
      exact ⟨by rw [hr, ho, decide_eq_true h4], ((But.refl _ _).alloc _).trans hb, (Blk.new w _ _).but hb (fun e => by have := HC.out.ltr; unfold Just at e; omega), f1, f2.cell (by omega), f2.cell (by omega), f2.cell (by omega), f2.cell (by omega), f2.lt⟩
    have hk : ns.getD 3 0 ≤ 9223372036854775807 := hfit _ (by simp [List.getD, List.getElem?_eq_getElem (show 3 < ns.length by omega)])
    have CS : ∀ W, Hid (Rc W br bn (ns.drop 4)) → Hid (Calls Try.prog 43 #[.int .i64 ((ns.getD 3 0 : Nat) : Int), nextV br] W (RetSecs W br bn (ns.drop 4) (ns.getD 3 0))) := fun W hc => readSections_any br bn _ _ W hc.out hk
    obtain ⟨E, hE⟩ : ∃ E, E = (if 4 < ns.getD 3 0 then 7 else if (ns.drop 4).length < 3 * ns.getD 3 0 then 8 else 0) := ⟨_, rfl⟩
    have HE : Hid (tErr ns = E) := by show _ = _; rw [hE]; unfold tErr; rw [if_neg (by omega), List.length_drop]
    have HA : Hid (tAt ns = ⟨(ns.getD 0 0 : Nat), (ns.getD 1 0 : Nat), (ns.getD 2 0 : Nat), pSecs (ns.getD 3 0) (ns.drop 4)⟩) := rfl
    have HL : Hid (tRest ns = (ns.drop 4).drop (3 * ns.getD 3 0)) := by show _ = _; unfold tRest; rw [List.drop_drop]
    have HPL := Lib.hid (pSecs_len (ns.getD 3 0) (ns.drop 4))
    clear CF hfit h4
    generalize ns.getD 0 0 = x0 at *
    generalize ns.getD 1 0 = x1 at *
    generalize ns.getD 2 0 = x2 at *
    generalize ns.getD 3 0 = x3 at *
    generalize ns.drop 4 = ms at *
    have hne1 : w.heap.size ≠ br := by have := HC.out.ltr; omega
    have hne2 : w.heap.size + 1 ≠ br := by have := HC.out.ltr; omega
    by_cases h0 : E = 0
    · have CS2 : Hid (∀ W, Rc W br bn ms → Calls Try.prog 43 #[.int .i64 (x3 : Int), nextV br] W fun r w' => ∃ A n c, r = .returned (.tuple #[.slice A n c, .int .i64 0]) ∧ But (Just br) W w' ∧ n = x3 ∧ Os W w' (.slice A n c) (pSecs x3 ms) ∧ Rc w' br bn (ms.drop (3 * x3))) := fun W hc => (CS W hc).out.mono fun r w' ⟨A, n, c, E', hr, he, hb, hf⟩ => by
        have e0 : E' = 0 := by rw [he, ← hE]; exact h0
        subst e0
        obtain ⟨f1, f2, f3⟩ := hf rfl
        exact ⟨A, n, c, hr, hb, f1, f2, f3⟩
      clear CS hE
      rw [h0] at HE
      clear h0
      go_enter Try.func42, Try.ntmps42
      go_wp2_with (first | (go_at_call 37; refine CF2.out.mono ?_; rintro e w2 ⟨rfl, hb2, hk2, hr2, d0, d1, d2, d3, hl2⟩; have HB2 := Lib.hid hb2; have HK2 := Lib.hid hk2; have HR2 := Lib.hid hr2; clear hb2 hk2 hr2) | (go_at_call 43; refine (CS2.out _ HR2.out).mono ?_; rintro e w3 ⟨A, n, c, rfl, hb3, hn, ho3, hr3⟩; have HB3 := Lib.hid hb3; have HO3 := Lib.hid ho3; have HR3 := Lib.hid hr3; have HN := Lib.hid hn; have HK3 := Lib.hid (HK2.out.but hb3 hne1); have e0 := (hb3.cell hl2 hne2).trans d0; have e1 := (hb3.cell hl2 hne2).trans d1; have e2 := (hb3.cell hl2 hne2).trans d2; have f0 := HK3.out.frozen 0; have f1 := HK3.out.frozen 1; have f2 := HK3.out.frozen 2; have f3 := HK3.out.frozen 3; obtain ⟨g0, g1, g2, g3⟩ := tsk_cells HK3.out; clear hb3 ho3 hr3 hn))
      obtain ⟨hk, hbb⟩ := store4 (e := 39) HK3.out (.int .i64 (x0 : Int)) (.int .i64 (x1 : Int)) (.int .i64 (x2 : Int)) (.slice A n c)
      generalize ((((w3.setCell ⟨w.heap.size, 0, none⟩ (.int .i64 (x0 : Int))).setCell ⟨w.heap.size, 1, none⟩ (.int .i64 (x1 : Int))).setCell ⟨w.heap.size, 2, none⟩ (.int .i64 (x2 : Int))).setCell ⟨w.heap.size, 3, none⟩ (.slice A n c)) = W at *
      obtain ⟨k0, k1, k2, k3⟩ := tsk_cells (t := ⟨x0, x1, x2, []⟩) hk
      refine bodyPost_ret (v := .tuple #[tskV ⟨x0, x1, x2, pSecs x3 ms⟩ A n c, .int .i64 0]) (by simp [results, Try.results42, go_sem, k0, k1, k2, k3]) rfl ?_
      have hz := HB2.out.size
      refine ⟨⟨x0, x1, x2, pSecs x3 ms⟩, A, n, c, 0, rfl, HE.out.symm, (HB2.out.trans HB3.out).andThen hbb (fun k e => .inr (by unfold Just at e; omega)), fun _ => ⟨HA.out.symm, by rw [HN.out]; exact HPL.out, ?_, ?_⟩⟩
      · exact (HO3.out.but hbb (fun j e f => by have := HO3.out.new j e; unfold Just at f; omega)).start hz
      · rw [HL.out]
        exact HR3.out.but hbb (fun f => by have := HC.out.ltn; unfold Just at f; omega) (fun f => by have := HC.out.ltr; unfold Just at f; omega)
    · have CS2 : Hid (∀ W, Rc W br bn ms → Calls Try.prog 43 #[.int .i64 (x3 : Int), nextV br] W fun r w' => ∃ A n c, r = .returned (.tuple #[.slice A n c, .int .i64 (E : Int)]) ∧ But (Just br) W w') := fun W hc => (CS W hc).out.mono fun r w' ⟨A, n, c, E', hr, he, hb, hf⟩ => by
        have e0 : E' = E := by rw [he, ← hE]
        subst e0
        exact ⟨A, n, c, hr, hb⟩
      have hne : ((E : Int) != 0) = true := by rw [bne_iff_ne]; omega
      clear CS hE
      go_enter Try.func42, Try.ntmps42
      go_wp2_with (first | (go_at_call 37; refine CF2.out.mono ?_; rintro e w2 ⟨rfl, hb2, hk2, hr2, d0, d1, d2, d3, hl2⟩; have HB2 := Lib.hid hb2; have HK2 := Lib.hid hk2; have HR2 := Lib.hid hr2; clear hb2 hk2 hr2) | (go_at_call 43; refine (CS2.out _ HR2.out).mono ?_; rintro e w3 ⟨A, n, c, rfl, hb3⟩; have HB3 := Lib.hid hb3; have HK3 := Lib.hid (HK2.out.but hb3 hne1); have f0 := HK3.out.frozen 0; have f1 := HK3.out.frozen 1; have f2 := HK3.out.frozen 2; have f3 := HK3.out.frozen 3; obtain ⟨g0, g1, g2, g3⟩ := tsk_cells HK3.out; clear hb3))
      obtain ⟨hk, hbb⟩ := store4 (e := 39) HK3.out (.int .i64 0) (.int .i64 0) (.int .i64 0) (.slice none 0 0)
      generalize ((((w3.setCell ⟨w.heap.size, 0, none⟩ (.int .i64 0)).setCell ⟨w.heap.size, 1, none⟩ (.int .i64 0)).setCell ⟨w.heap.size, 2, none⟩ (.int .i64 0)).setCell ⟨w.heap.size, 3, none⟩ (.slice none 0 0)) = W at *
      obtain ⟨k0, k1, k2, k3⟩ := tsk_cells (t := tsk0) hk
      refine bodyPost_ret (v := .tuple #[tskV tsk0 none 0 0, .int .i64 (E : Int)]) (by simp [results, Try.results42, go_sem, k0, k1, k2, k3]) rfl ?_
      exact ⟨tsk0, none, 0, 0, E, rfl, HE.out.symm, (HB2.out.trans HB3.out).andThen hbb (fun k e => .inr (by have := HB2.out.size; unfold Just at e; omega)), fun h => absurd h h0⟩
  · have CF2 : Hid (Calls Try.prog 37 #[.slice (some ⟨w.heap.size + 1, 0, none⟩) 4 4, nextV br] ((w.alloc (.cells #[.int .i64 0, .int .i64 0, .int .i64 0, .slice none 0 0] 39)).alloc (.cells #[.int .i64 0, .int .i64 0, .int .i64 0, .int .i64 0] 75)) fun r w' => r = .returned (.bool false) ∧ But (Just br) w w' ∧ Blk w' w.heap.size (boxT tsk0 none 0 0) 39) := CF.out.mono fun r w' ⟨ok, hr, ho, hb, hf⟩ =>
      ⟨by rw [hr, ho, decide_eq_false h4], ((But.refl _ _).alloc _).trans hb, (Blk.new w _ _).but hb (fun e => by have := HC.out.ltr; unfold Just at e; omega)⟩
    have HE : Hid (tErr ns = 8) := by show _ = _; unfold tErr; rw [if_pos (by omega)]
    clear CF
    go_enter Try.func42, Try.ntmps42
    go_wp2_with (go_at_call 37; refine CF2.out.mono ?_; rintro e w2 ⟨rfl, hb2, hk2⟩; have HB2 := Lib.hid hb2; have HK2 := Lib.hid hk2; obtain ⟨d0, d1, d2, d3⟩ := tsk_cells hk2; have f0 := hk2.frozen 0; have f1 := hk2.frozen 1; have f2 := hk2.frozen 2; have f3 := hk2.frozen 3; clear hb2 hk2)
    obtain ⟨hk, hbb⟩ := store4 (e := 39) HK2.out (.int .i64 0) (.int .i64 0) (.int .i64 0) (.slice none 0 0)
    generalize ((((w2.setCell ⟨w.heap.size, 0, none⟩ (.int .i64 0)).setCell ⟨w.heap.size, 1, none⟩ (.int .i64 0)).setCell ⟨w.heap.size, 2, none⟩ (.int .i64 0)).setCell ⟨w.heap.size, 3, none⟩ (.slice none 0 0)) = W at *
    obtain ⟨g0, g1, g2, g3⟩ := tsk_cells (t := tsk0) hk
    refine bodyPost_ret (v := .tuple #[tskV tsk0 none 0 0, .int .i64 8]) (by simp [results, Try.results42, go_sem, g0, g1, g2, g3]) rfl ?_
    exact ⟨tsk0, none, 0, 0, 8, rfl, HE.out.symm, HB2.out.andThen hbb (fun k e => .inr (by unfold Just at e; omega)), fun h => by cases h⟩
end Go.Proofs.Ytlkcelmamenhpaa
