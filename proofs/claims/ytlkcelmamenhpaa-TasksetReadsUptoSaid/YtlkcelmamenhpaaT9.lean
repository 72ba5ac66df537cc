/- The contract of Decode. -/
import Derived.Test.YtlkcelmamenhpaaT8
namespace Go.Proofs.Ytlkcelmamenhpaa
open Go.ChangeShapes Go.WideShapes Go.ChangeAt Go.RowKit Go.Deep
/-- What bytes are read as: the error, the system. -/
def decP (l : List Nat) : Nat × Sys := if oErr l ≠ 0 then (oErr l, sys0) else if (rAll (oAns l)).2 ≠ 0 then ((rAll (oAns l)).2, sys0) else parse (rAll (oAns l)).1
theorem OSy.but {w0 w W : World} {A : Option Addr} {n c : Nat} {s : Sys} {S : Nat → Prop} (h : OSy w0 w A n c s) (hb : But S w W) (hs : ∀ j, S j → j < w0.heap.size) : OSy w0 W A n c s := by
  obtain ⟨L, h1, h2, h3⟩ := h
  exact ⟨L, h1, h2, h3.but hb hs⟩
theorem Ot.start {w0 w1 w : World} {v : Value} {L : List (Tsk × Value)} (h : Ot w1 w v L) (hz : w0.heap.size ≤ w1.heap.size) : Ot w0 w v L :=
  ⟨h.own, fun j e => Nat.le_trans hz (h.new j e), fun x hx => ⟨(h.secs x hx).1.start hz, (h.secs x hx).2⟩⟩
theorem OSy.start {w0 w1 w : World} {A : Option Addr} {n c : Nat} {s : Sys} (h : OSy w1 w A n c s) (hz : w0.heap.size ≤ w1.heap.size) : OSy w0 w A n c s := by
  obtain ⟨L, h1, h2, h3⟩ := h
  exact ⟨L, h1, h2, h3.start hz⟩
/-- A reader that was just made over numbers that were just read. -/
theorem rc_new {w0 w : World} {A : Option Addr} {n c b : Nat} {ns : List Nat} (hb : b < w.heap.size) (h : Oc 3 .i64 w0 w (.slice A n c) ns) (hn : ns.length = n) (h2 : ns.length ≤ 2000) :
    Rc (w.alloc (.cells #[.slice A n c] 60)) w.heap.size (((Value.slice A n c).ownBlock).getD b) ns := by
  have hr := h.rl (by omega)
  have hc := h.cap
  have hlt : ((Value.slice A n c).ownBlock).getD b < w.heap.size := by
    cases e : (Value.slice A n c).ownBlock with
    | none => exact hb
    | some j => exact (h.own.lt j e).2
  refine ⟨⟨A, n, c, Blk.new w _ _, ⟨hn, hc, fun h0 => ?_⟩, by omega⟩, by omega, by simp; omega, by simp⟩
  obtain ⟨g, off, rfl, hl, hcell⟩ := hr.at_ h0
  refine ⟨off, rfl, by simp [Value.ownBlock]; omega, fun k hk => ?_⟩
  have := hcell k hk
  rw [← ((But.refl No w).alloc (.cells #[.slice (some ⟨g, off, none⟩) n c] 60)).cell hl (fun f => f)] at this
  rw [show ((Value.slice (some (⟨g, off, none⟩ : Addr)) n c).ownBlock).getD b = g from rfl, this]
  have hk2 : k < ns.length := by omega
  simp [ofN, List.getD, List.getElem?_eq_getElem hk2]
theorem rAll_fit {l : List Nat} {s : ByteArray} (hs : nl s = l) {ns : List Nat} (h : rAll l = (ns, 0)) : ns.length ≤ 2000 ∧ ∀ x ∈ ns, x ≤ 9223372036854775807 := by
  subst hs
  obtain ⟨h0, _, h2⟩ := write_read h
  refine ⟨h2, fun x hx => ?_⟩
  have := ((wErr_zero h0).2 (x : Int) (List.mem_map.2 ⟨x, hx, rfl⟩)).2
  omega
set_option maxRecDepth 100000 in
set_option maxHeartbeats 2000000 in
theorem decode_any7 (b : ByteArray) (w : World) (hs : b.size ≤ 9223372036854775807) : Calls Try.prog 12 #[.string b] w (RetSy w No w (decP (nl b))) := by
  obtain ⟨E, hE⟩ : ∃ E, oErr (nl b) = E := ⟨_, rfl⟩
  have hol : (oAns (nl b)).length ≤ 9223372036854775807 := by
    unfold oAns
    by_cases q : oErr (nl b) = 0
    · rw [if_pos q, List.length_take, nl_len]; omega
    · rw [if_neg q]; simp
  obtain ⟨t, ht⟩ : ∃ t, nl t = oAns (nl b) := ⟨bl (oAns (nl b)), nl_bl (fun x hx => by
    unfold oAns at hx
    by_cases q : oErr (nl b) = 0
    · rw [if_pos q] at hx; exact nl_lt b x (List.mem_of_mem_take hx)
    · rw [if_neg q] at hx; simp at hx)⟩
  have hts : t.size ≤ 9223372036854775807 := by rw [← nl_len, ht]; exact hol
  have CO : ∀ W, Hid (Calls Try.prog 15 #[.string b] W fun e w' => e = .returned (.tuple #[.string t, .int .i64 (E : Int)]) ∧ But No W w') := fun W => open_to ht hE hs W
  by_cases h0 : E = 0
  · subst h0
    obtain ⟨ns, F, hF⟩ : ∃ ns F, rAll (nl t) = (ns, F) := ⟨_, _, rfl⟩
    have CR : Hid (∀ W, Calls Try.prog 16 #[.string t] W (RetNums W F ns)) := fun W => read_to hF hts W
    have HD : Hid (decP (nl b) = if F ≠ 0 then (F, sys0) else parse ns) := by show _ = _; unfold decP; rw [if_neg (by simp [hE]), ← ht, hF]
    clear hE hol
    by_cases h1 : F = 0
    · subst h1
      obtain ⟨hsm, hfit⟩ := rAll_fit rfl hF
      have HE : Hid (decP (nl b) = parse ns) := by show _ = _; rw [HD.out, if_neg (by simp)]
      have CY : Hid (∀ (W : World) (br bn : Nat), Rc W br bn ns → Calls Try.prog 27 #[nextV br] W fun r w' => ∃ A n c, r = .returned (.tuple #[sysV (parse ns).2 A n c, .int .i64 ((parse ns).1 : Int)]) ∧ But (Just br) W w' ∧ OSy W w' A n c (parse ns).2) := fun W br bn hc => readSystem_any br bn ns W hc hfit
      clear HD hF ht hfit
      obtain ⟨s, hs1⟩ : ∃ s, s = (parse ns).2 := ⟨_, rfl⟩
      obtain ⟨G, hG⟩ : ∃ G, G = (parse ns).1 := ⟨_, rfl⟩
      have HE2 : Hid (decP (nl b) = (G, s)) := by show _ = _; rw [HE.out, hs1, hG]
      rw [← hs1, ← hG] at CY
      clear HE hs1 hG
      unfold sysV at CY
      go_enter Try.func12, Try.ntmps12
      go_wp2_with (first | (go_at_call 15; refine (CO _).out.mono ?_; rintro e w2 ⟨rfl, hb2⟩; have HB2 := Lib.hid (((But.refl No w).alloc _).trans hb2); have HK2 : Hid (Blk w2 w.heap.size (boxS sys0 none 0 0) 24) := (Blk.new w _ _).but hb2 (fun f => f); have f0 := HK2.out.frozen 0; have f1 := HK2.out.frozen 1; have f2 := HK2.out.frozen 2; have f3 := HK2.out.frozen 3; have f4 := HK2.out.frozen 4; have f5 := HK2.out.frozen 5; have f6 := HK2.out.frozen 6; have f7 := HK2.out.frozen 7; have f8 := HK2.out.frozen 8; obtain ⟨g0, g1, g2, g3, g4, g5, g6, g7, g8⟩ := sys_cells HK2.out; clear hb2) | (go_at_call 16; refine (CR.out _).mono ?_; rintro e w3 ⟨A, n, c, rfl, hn3, ho3⟩; have HB3 := Lib.hid (HB2.out.trans ho3.but); have HO3 := Lib.hid ho3; have HN3 := Lib.hid hn3; have HK3 : Hid (Blk w3 w.heap.size (boxS sys0 none 0 0) 24) := HK2.out.but ho3.but (fun f => f); clear f0 g0; clear f1 g1; clear f2 g2; clear f3 g3; clear f4 g4; clear f5 g5; clear f6 g6; clear f7 g7; clear f8 g8; clear hn3 ho3) | (go_at_call 27; refine (CY.out _ _ _ (rc_new HK3.out.lt HO3.out HN3.out hsm)).mono ?_; rintro e w4 ⟨A4, n4, c4, rfl, hb4, ho4⟩; have HB4 := Lib.hid hb4; have HO4 := Lib.hid ho4; have HK4 : Hid (Blk w4 w.heap.size (boxS sys0 none 0 0) 24) := (HK3.out.alloc _).but hb4 (fun f => by have := HK3.out.lt; unfold Just at f; omega); have f0 := HK4.out.frozen 0; have f1 := HK4.out.frozen 1; have f2 := HK4.out.frozen 2; have f3 := HK4.out.frozen 3; have f4 := HK4.out.frozen 4; have f5 := HK4.out.frozen 5; have f6 := HK4.out.frozen 6; have f7 := HK4.out.frozen 7; have f8 := HK4.out.frozen 8; obtain ⟨g0, g1, g2, g3, g4, g5, g6, g7, g8⟩ := sys_cells HK4.out; clear hb4 ho4))
      obtain ⟨hk, hbb⟩ := store9 (e := 24) HK4.out (.int .i64 s.co) (.int .i64 s.po) (.int .i64 s.pr) (.int .i64 s.re) (.int .i64 s.sw) (.int .i64 s.fi) (.int .i64 s.la) (.int .i64 s.rs) (.slice A4 n4 c4)
      generalize (((((((((w4.setCell ⟨w.heap.size, 0, none⟩ (.int .i64 s.co)).setCell ⟨w.heap.size, 1, none⟩ (.int .i64 s.po)).setCell ⟨w.heap.size, 2, none⟩ (.int .i64 s.pr)).setCell ⟨w.heap.size, 3, none⟩ (.int .i64 s.re)).setCell ⟨w.heap.size, 4, none⟩ (.int .i64 s.sw)).setCell ⟨w.heap.size, 5, none⟩ (.int .i64 s.fi)).setCell ⟨w.heap.size, 6, none⟩ (.int .i64 s.la)).setCell ⟨w.heap.size, 7, none⟩ (.int .i64 s.rs)).setCell ⟨w.heap.size, 8, none⟩ (.slice A4 n4 c4)) = W at *
      obtain ⟨k0, k1, k2, k3, k4, k5, k6, k7, k8⟩ := sys_cells (s := s) hk
      refine bodyPost_ret (v := .tuple #[sysV s A4 n4 c4, .int .i64 (G : Int)]) (by simp [results, Try.results12, go_sem, sysV, k0, k1, k2, k3, k4, k5, k6, k7, k8]) rfl ?_
      have z3 := HB3.out.size
      have z4 := HK3.out.lt
      refine ⟨A4, n4, c4, by rw [HE2.out], ?_, ?_⟩
      · refine ((HB3.out.alloc _).andThen HB4.out (fun k e => .inr (by unfold Just at e; omega))).andThen hbb (fun k e => .inr (by unfold Just at e; omega))
      · rw [HE2.out]
        exact (HO4.out.but hbb (fun j f => by unfold Just at f; simp; omega)).start (by simp; omega)
    · have HE : Hid (decP (nl b) = (F, sys0)) := by show _ = _; rw [HD.out, if_pos h1]
      have hne : ((F : Int) != 0) = true := by rw [bne_iff_ne]; omega
      clear HD hF ht
      go_enter Try.func12, Try.ntmps12
      go_wp2_with (first | (go_at_call 15; refine (CO _).out.mono ?_; rintro e w2 ⟨rfl, hb2⟩; have HB2 := Lib.hid (((But.refl No w).alloc _).trans hb2); have HK2 : Hid (Blk w2 w.heap.size (boxS sys0 none 0 0) 24) := (Blk.new w _ _).but hb2 (fun f => f); have f0 := HK2.out.frozen 0; have f1 := HK2.out.frozen 1; have f2 := HK2.out.frozen 2; have f3 := HK2.out.frozen 3; have f4 := HK2.out.frozen 4; have f5 := HK2.out.frozen 5; have f6 := HK2.out.frozen 6; have f7 := HK2.out.frozen 7; have f8 := HK2.out.frozen 8; obtain ⟨g0, g1, g2, g3, g4, g5, g6, g7, g8⟩ := sys_cells HK2.out; clear hb2) | (go_at_call 16; refine (CR.out _).mono ?_; rintro e w3 ⟨A, n, c, rfl, hn3, ho3⟩; have HB3 := Lib.hid (HB2.out.trans ho3.but); have HK3 : Hid (Blk w3 w.heap.size (boxS sys0 none 0 0) 24) := HK2.out.but ho3.but (fun f => f); clear f0 g0; clear f1 g1; clear f2 g2; clear f3 g3; clear f4 g4; clear f5 g5; clear f6 g6; clear f7 g7; clear f8 g8; have f0 := HK3.out.frozen 0; have f1 := HK3.out.frozen 1; have f2 := HK3.out.frozen 2; have f3 := HK3.out.frozen 3; have f4 := HK3.out.frozen 4; have f5 := HK3.out.frozen 5; have f6 := HK3.out.frozen 6; have f7 := HK3.out.frozen 7; have f8 := HK3.out.frozen 8; obtain ⟨g0, g1, g2, g3, g4, g5, g6, g7, g8⟩ := sys_cells HK3.out; clear hn3 ho3))
      obtain ⟨hk, hbb⟩ := store9 (e := 24) HK3.out (.int .i64 0) (.int .i64 0) (.int .i64 0) (.int .i64 0) (.int .i64 0) (.int .i64 0) (.int .i64 0) (.int .i64 0) (.slice none 0 0)
      generalize (((((((((w3.setCell ⟨w.heap.size, 0, none⟩ (.int .i64 0)).setCell ⟨w.heap.size, 1, none⟩ (.int .i64 0)).setCell ⟨w.heap.size, 2, none⟩ (.int .i64 0)).setCell ⟨w.heap.size, 3, none⟩ (.int .i64 0)).setCell ⟨w.heap.size, 4, none⟩ (.int .i64 0)).setCell ⟨w.heap.size, 5, none⟩ (.int .i64 0)).setCell ⟨w.heap.size, 6, none⟩ (.int .i64 0)).setCell ⟨w.heap.size, 7, none⟩ (.int .i64 0)).setCell ⟨w.heap.size, 8, none⟩ (.slice none 0 0)) = W at *
      obtain ⟨k0, k1, k2, k3, k4, k5, k6, k7, k8⟩ := sys_cells (s := sys0) hk
      refine bodyPost_ret (v := .tuple #[sysV sys0 none 0 0, .int .i64 (F : Int)]) (by simp [results, Try.results12, go_sem, sysV, sys0, k0, k1, k2, k3, k4, k5, k6, k7, k8]) rfl ?_
      exact ⟨none, 0, 0, by rw [HE.out] <;> rfl, (HB3.out).andThen hbb (fun k e => .inr (by unfold Just at e; omega)), by rw [HE.out]; exact OSy.none⟩
  · have HE : Hid (decP (nl b) = (E, sys0)) := by show _ = _; unfold decP; rw [hE, if_pos h0]
    have hne : ((E : Int) != 0) = true := by rw [bne_iff_ne]; omega
    clear hE hol ht
    go_enter Try.func12, Try.ntmps12
    go_wp2_with (go_at_call 15; refine (CO _).out.mono ?_; rintro e w2 ⟨rfl, hb2⟩; have HB2 := Lib.hid (((But.refl No w).alloc _).trans hb2); have HK2 : Hid (Blk w2 w.heap.size (boxS sys0 none 0 0) 24) := (Blk.new w _ _).but hb2 (fun f => f); have f0 := HK2.out.frozen 0; have f1 := HK2.out.frozen 1; have f2 := HK2.out.frozen 2; have f3 := HK2.out.frozen 3; have f4 := HK2.out.frozen 4; have f5 := HK2.out.frozen 5; have f6 := HK2.out.frozen 6; have f7 := HK2.out.frozen 7; have f8 := HK2.out.frozen 8; obtain ⟨g0, g1, g2, g3, g4, g5, g6, g7, g8⟩ := sys_cells HK2.out; clear hb2)
    obtain ⟨hk, hbb⟩ := store9 (e := 24) HK2.out (.int .i64 0) (.int .i64 0) (.int .i64 0) (.int .i64 0) (.int .i64 0) (.int .i64 0) (.int .i64 0) (.int .i64 0) (.slice none 0 0)
    generalize (((((((((w2.setCell ⟨w.heap.size, 0, none⟩ (.int .i64 0)).setCell ⟨w.heap.size, 1, none⟩ (.int .i64 0)).setCell ⟨w.heap.size, 2, none⟩ (.int .i64 0)).setCell ⟨w.heap.size, 3, none⟩ (.int .i64 0)).setCell ⟨w.heap.size, 4, none⟩ (.int .i64 0)).setCell ⟨w.heap.size, 5, none⟩ (.int .i64 0)).setCell ⟨w.heap.size, 6, none⟩ (.int .i64 0)).setCell ⟨w.heap.size, 7, none⟩ (.int .i64 0)).setCell ⟨w.heap.size, 8, none⟩ (.slice none 0 0)) = W at *
    obtain ⟨k0, k1, k2, k3, k4, k5, k6, k7, k8⟩ := sys_cells (s := sys0) hk
    refine bodyPost_ret (v := .tuple #[sysV sys0 none 0 0, .int .i64 (E : Int)]) (by simp [results, Try.results12, go_sem, sysV, sys0, k0, k1, k2, k3, k4, k5, k6, k7, k8]) rfl ?_
    exact ⟨none, 0, 0, by rw [HE.out] <;> rfl, (HB2.out).andThen hbb (fun k e => .inr (by unfold Just at e; omega)), by rw [HE.out]; exact OSy.none⟩
end Go.Proofs.Ytlkcelmamenhpaa
