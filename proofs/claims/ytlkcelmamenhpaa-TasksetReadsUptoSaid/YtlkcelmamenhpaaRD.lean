/- The contract of the document's Decode. -/
import Derived.Test.YtlkcelmamenhpaaRT
import Derived.Test.YtlkcelmamenhpaaPkR3
import Derived.Deep.DeepCutAuto
namespace Go.Proofs.Ytlkcelmamenhpaa
open Go.ChangeShapes Go.WideShapes Go.ChangeAt Go.RowKit Go.Deep
theorem ropen_to {s t : ByteArray} {E : Nat} (ht : nl t = oAns (nl s)) (hE : oErr (nl s) = E) (hs : s.size ≤ 9223372036854775807) (W : World) :
    Calls Try.prog 24 #[.string s] W fun e w' => e = .returned (.tuple #[.string t, .int .i64 (E : Int)]) ∧ But No W w' :=
  (ropen_any s W hs).mono fun e w' ⟨t', he, hn, hb⟩ => by
    have : t' = t := nl_inj (by rw [hn, ht])
    subst this
    exact ⟨by rw [he, hE], hb⟩
theorem rread_to {s : ByteArray} {ns : List Nat} {E : Nat} (h : rAll (nl s) = (ns, E)) (hs : s.size ≤ 9223372036854775807) (W : World) : Calls Try.prog 25 #[.string s] W (RetNums W E ns) := by
  have := rread_any s W hs
  rw [h] at this
  exact this
set_option maxRecDepth 100000 in
set_option maxHeartbeats 4000000 in
theorem rdecode_any7 (b : ByteArray) (w : World) (hs : b.size ≤ 9223372036854775807) : Calls Try.prog 11 #[.string b] w (RetSy w No w (decP (nl b))) := by
  obtain ⟨E, hE⟩ : ∃ E, oErr (nl b) = E := ⟨_, rfl⟩
  obtain ⟨t, ht, hts⟩ := oAns_str b
  have hts : t.size ≤ 9223372036854775807 := Nat.le_trans hts hs
  have CO : ∀ W, Hid (Calls Try.prog 24 #[.string b] W fun e w' => e = .returned (.tuple #[.string t, .int .i64 (E : Int)]) ∧ But No W w') := fun W => ropen_to ht hE hs W
  by_cases h0 : E = 0
  · subst h0
    obtain ⟨ns, F, hF⟩ : ∃ ns F, rAll (nl t) = (ns, F) := ⟨_, _, rfl⟩
    have CR : Hid (∀ W, Calls Try.prog 25 #[.string t] W (RetNums W F ns)) := fun W => rread_to hF hts W
    have HD : Hid (decP (nl b) = if F ≠ 0 then (F, sys0) else parse ns) := by show _ = _; unfold decP; rw [if_neg (by simp [hE]), ← ht, hF]
    clear hE
    by_cases h1 : F = 0
    · subst h1
      obtain ⟨hsm, hfit⟩ := rAll_fit rfl hF
      have HE0 : Hid (decP (nl b) = parse ns) := by show _ = _; rw [HD.out, if_neg (by simp)]
      have CR2 : Hid (∀ W, Calls Try.prog 25 #[.string t] W fun r w' => ∃ A c, r = .returned (.tuple #[.slice A ns.length c, .int .i64 0]) ∧ But No W w' ∧ Rn w' A ns.length c ns) := fun W => (CR.out W).mono fun r w' ⟨A, n, c, hr, hn, ho⟩ => by
        subst hn
        exact ⟨A, c, hr, ho.but, ho.rl (by omega), ho.cap⟩
      clear HD hF ht hfit CR
      obtain ⟨n, hn⟩ : ∃ n, ns.length = n := ⟨_, rfl⟩
      rw [hn] at CR2 hsm
      have HN := Lib.hid hn
      by_cases h10 : n < 10
      · have HE : Hid (decP (nl b) = (8, sys0)) := by show _ = _; rw [HE0.out]; unfold parse; rw [if_pos (.inl (by rw [HN.out]; exact h10))]
        clear hn
        go_enter Try.func11, Try.ntmps11
        go_wp2_with (first | (go_at_call 24; refine (CO _).out.mono ?_; rintro e w2 ⟨rfl, hb2⟩; have HB2 := Lib.hid (((But.refl No w).alloc _).trans hb2); have HK2 : Hid (Blk w2 w.heap.size (boxS sys0 none 0 0) 24) := (Blk.new w _ _).but hb2 (fun f => f); have f0 := HK2.out.frozen 0; have f1 := HK2.out.frozen 1; have f2 := HK2.out.frozen 2; have f3 := HK2.out.frozen 3; have f4 := HK2.out.frozen 4; have f5 := HK2.out.frozen 5; have f6 := HK2.out.frozen 6; have f7 := HK2.out.frozen 7; have f8 := HK2.out.frozen 8; obtain ⟨g0, g1, g2, g3, g4, g5, g6, g7, g8⟩ := sys_cells HK2.out; clear hb2) | (go_at_call 25; refine (CR2.out _).mono ?_; rintro e w3 ⟨A, c, rfl, hb3, hr3⟩; have HB3 := Lib.hid (HB2.out.trans hb3); have HR3 := Lib.hid hr3; have HK3 : Hid (Blk w3 w.heap.size (boxS sys0 none 0 0) 24) := HK2.out.but hb3 (fun f => f); clear f0 g0; clear f1 g1; clear f2 g2; clear f3 g3; clear f4 g4; clear f5 g5; clear f6 g6; clear f7 g7; clear f8 g8; have f0 := HK3.out.frozen 0; have f1 := HK3.out.frozen 1; have f2 := HK3.out.frozen 2; have f3 := HK3.out.frozen 3; have f4 := HK3.out.frozen 4; have f5 := HK3.out.frozen 5; have f6 := HK3.out.frozen 6; have f7 := HK3.out.frozen 7; have f8 := HK3.out.frozen 8; obtain ⟨g0, g1, g2, g3, g4, g5, g6, g7, g8⟩ := sys_cells HK3.out; clear hb3 hr3))
        obtain ⟨hk, hbb⟩ := store9 (e := 24) HK3.out (.int .i64 0) (.int .i64 0) (.int .i64 0) (.int .i64 0) (.int .i64 0) (.int .i64 0) (.int .i64 0) (.int .i64 0) (.slice none 0 0)
        generalize (((((((((w3.setCell ⟨w.heap.size, 0, none⟩ (.int .i64 0)).setCell ⟨w.heap.size, 1, none⟩ (.int .i64 0)).setCell ⟨w.heap.size, 2, none⟩ (.int .i64 0)).setCell ⟨w.heap.size, 3, none⟩ (.int .i64 0)).setCell ⟨w.heap.size, 4, none⟩ (.int .i64 0)).setCell ⟨w.heap.size, 5, none⟩ (.int .i64 0)).setCell ⟨w.heap.size, 6, none⟩ (.int .i64 0)).setCell ⟨w.heap.size, 7, none⟩ (.int .i64 0)).setCell ⟨w.heap.size, 8, none⟩ (.slice none 0 0)) = W at *
        obtain ⟨k0, k1, k2, k3, k4, k5, k6, k7, k8⟩ := sys_cells (s := sys0) hk
        refine bodyPost_ret (v := .tuple #[sysV sys0 none 0 0, .int .i64 8]) (by simp [results, Try.results11, go_sem, sysV, sys0, k0, k1, k2, k3, k4, k5, k6, k7, k8]) rfl ?_
        exact ⟨none, 0, 0, by rw [HE.out] <;> rfl, (HB3.out).andThen hbb (fun k e => .inr (by unfold Just at e; omega)), by rw [HE.out]; exact OSy.none⟩
      · clear hn
        have HP : Hid (decP (nl b) = if ns.getD 0 0 ≠ 1 then (8, sys0) else if 24 < ns.getD 9 0 then (7, sys0)
          else if (pTasks (ns.getD 9 0) (ns.drop 10)).1 ≠ 0 then ((pTasks (ns.getD 9 0) (ns.drop 10)).1, sys0)
          else if 0 < (pTasks (ns.getD 9 0) (ns.drop 10)).2.2.length then (8, sys0)
          else (0, ⟨(ns.getD 1 0 : Nat), (ns.getD 2 0 : Nat), (ns.getD 3 0 : Nat), (ns.getD 4 0 : Nat), (ns.getD 5 0 : Nat), (ns.getD 6 0 : Nat), (ns.getD 7 0 : Nat), (ns.getD 8 0 : Nat), (pTasks (ns.getD 9 0) (ns.drop 10)).2.1⟩)) := by
          show _ = _
          rw [HE0.out]
          unfold parse
          by_cases q : ns.getD 0 0 ≠ 1
          · rw [if_pos (.inr q), if_pos q]
          · rw [if_neg (fun f => f.elim (by rw [HN.out]; exact h10) q), if_neg q]
        have CR3 : Hid (∀ W, Calls Try.prog 25 #[.string t] W fun r w' => ∃ bn off c, r = .returned (.tuple #[.slice (some ⟨bn, off, none⟩) n c, .int .i64 0]) ∧ But No W w' ∧ n ≤ c ∧ Rn w' (if c = 10 then some ⟨bn, off, none⟩ else (some (⟨bn, off, none⟩ : Addr)).map (·.add (10 * 1))) (n - 10) (c - 10) (ns.drop 10) ∧ w'.cell? ⟨bn, off + 0, none⟩ = some (.int .i64 ((ns.getD 0 0 : Nat) : Int)) ∧ w'.cell? ⟨bn, off + 1, none⟩ = some (.int .i64 ((ns.getD 1 0 : Nat) : Int)) ∧ w'.cell? ⟨bn, off + 2, none⟩ = some (.int .i64 ((ns.getD 2 0 : Nat) : Int)) ∧ w'.cell? ⟨bn, off + 3, none⟩ = some (.int .i64 ((ns.getD 3 0 : Nat) : Int)) ∧ w'.cell? ⟨bn, off + 4, none⟩ = some (.int .i64 ((ns.getD 4 0 : Nat) : Int)) ∧ w'.cell? ⟨bn, off + 5, none⟩ = some (.int .i64 ((ns.getD 5 0 : Nat) : Int)) ∧ w'.cell? ⟨bn, off + 6, none⟩ = some (.int .i64 ((ns.getD 6 0 : Nat) : Int)) ∧ w'.cell? ⟨bn, off + 7, none⟩ = some (.int .i64 ((ns.getD 7 0 : Nat) : Int)) ∧ w'.cell? ⟨bn, off + 8, none⟩ = some (.int .i64 ((ns.getD 8 0 : Nat) : Int)) ∧ w'.cell? ⟨bn, off + 9, none⟩ = some (.int .i64 ((ns.getD 9 0 : Nat) : Int))) := fun W => (CR2.out W).mono fun r w' ⟨A, c, hr, hb, ho⟩ => by
          obtain ⟨bn, off, rfl, _, hc⟩ := ho.at_ (by omega)
          exact ⟨bn, off, c, hr, hb, ho.cap, ho.drop (by omega), hc 0 (by omega), hc 1 (by omega), hc 2 (by omega), hc 3 (by omega), hc 4 (by omega), hc 5 (by omega), hc 6 (by omega), hc 7 (by omega), hc 8 (by omega), hc 9 (by omega)⟩
        clear CR2 HE0
        generalize ns.getD 0 0 = x0 at *
        generalize ns.getD 1 0 = x1 at *
        generalize ns.getD 2 0 = x2 at *
        generalize ns.getD 3 0 = x3 at *
        generalize ns.getD 4 0 = x4 at *
        generalize ns.getD 5 0 = x5 at *
        generalize ns.getD 6 0 = x6 at *
        generalize ns.getD 7 0 = x7 at *
        generalize ns.getD 8 0 = x8 at *
        generalize ns.getD 9 0 = x9 at *
        generalize ns.drop 10 = ms at *
        have hi10 : (10 : Int) ≤ (n : Int) := by omega
        have hi0 : (0 : Int) < (n : Int) := by omega
        have hi1 : (1 : Int) < (n : Int) := by omega
        have hi2 : (2 : Int) < (n : Int) := by omega
        have hi3 : (3 : Int) < (n : Int) := by omega
        have hi4 : (4 : Int) < (n : Int) := by omega
        have hi5 : (5 : Int) < (n : Int) := by omega
        have hi6 : (6 : Int) < (n : Int) := by omega
        have hi7 : (7 : Int) < (n : Int) := by omega
        have hi8 : (8 : Int) < (n : Int) := by omega
        have hi9 : (9 : Int) < (n : Int) := by omega
        have hd10 : decide ((n : Int) < 10) = false := by simp; omega
        by_cases h1 : x0 = 1
        · subst h1
          by_cases h24 : 24 < x9
          · have HE : Hid (decP (nl b) = (7, sys0)) := by show _ = _; rw [HP.out, if_neg (by simp), if_pos h24]
            go_enter Try.func11, Try.ntmps11
            go_wp2_with (first | (go_at_call 24; refine (CO _).out.mono ?_; rintro e w2 ⟨rfl, hb2⟩; have HB2 := Lib.hid (((But.refl No w).alloc _).trans hb2); have HK2 : Hid (Blk w2 w.heap.size (boxS sys0 none 0 0) 24) := (Blk.new w _ _).but hb2 (fun f => f); have f0 := HK2.out.frozen 0; have f1 := HK2.out.frozen 1; have f2 := HK2.out.frozen 2; have f3 := HK2.out.frozen 3; have f4 := HK2.out.frozen 4; have f5 := HK2.out.frozen 5; have f6 := HK2.out.frozen 6; have f7 := HK2.out.frozen 7; have f8 := HK2.out.frozen 8; obtain ⟨g0, g1, g2, g3, g4, g5, g6, g7, g8⟩ := sys_cells HK2.out; clear hb2) | (go_at_call 25; refine (CR3.out _).mono ?_; rintro e w3 ⟨bn, off, c, rfl, hb3, hcap, hr3, hl0, hl1, hl2, hl3, hl4, hl5, hl6, hl7, hl8, hl9⟩; simp only [Nat.add_zero] at hl0; have HB3 := Lib.hid (HB2.out.trans hb3); have HR3 := Lib.hid hr3; have HK3 : Hid (Blk w3 w.heap.size (boxS sys0 none 0 0) 24) := HK2.out.but hb3 (fun f => f); clear f0 g0; clear f1 g1; clear f2 g2; clear f3 g3; clear f4 g4; clear f5 g5; clear f6 g6; clear f7 g7; clear f8 g8; have f0 := HK3.out.frozen 0; have f1 := HK3.out.frozen 1; have f2 := HK3.out.frozen 2; have f3 := HK3.out.frozen 3; have f4 := HK3.out.frozen 4; have f5 := HK3.out.frozen 5; have f6 := HK3.out.frozen 6; have f7 := HK3.out.frozen 7; have f8 := HK3.out.frozen 8; obtain ⟨g0, g1, g2, g3, g4, g5, g6, g7, g8⟩ := sys_cells HK3.out; clear hb3 hr3; have K11 : Hid (∀ w4, But No w3 w4 → w4.cell? ⟨bn, off + 1, none⟩ = some (.int .i64 (x1 : Int)) ∧ w4.cell? ⟨bn, off + 2, none⟩ = some (.int .i64 (x2 : Int)) ∧ w4.cell? ⟨bn, off + 3, none⟩ = some (.int .i64 (x3 : Int)) ∧ w4.cell? ⟨bn, off + 4, none⟩ = some (.int .i64 (x4 : Int)) ∧ w4.cell? ⟨bn, off + 5, none⟩ = some (.int .i64 (x5 : Int)) ∧ w4.cell? ⟨bn, off + 6, none⟩ = some (.int .i64 (x6 : Int)) ∧ w4.cell? ⟨bn, off + 7, none⟩ = some (.int .i64 (x7 : Int)) ∧ w4.cell? ⟨bn, off + 8, none⟩ = some (.int .i64 (x8 : Int)) ∧ But No w3 w4) := fun w4 hb => ⟨cell_keep hl1 hb, cell_keep hl2 hb, cell_keep hl3 hb, cell_keep hl4 hb, cell_keep hl5 hb, cell_keep hl6 hb, cell_keep hl7 hb, cell_keep hl8 hb, hb⟩))
            obtain ⟨hk, hbb⟩ := store9 (e := 24) HK3.out (.int .i64 0) (.int .i64 0) (.int .i64 0) (.int .i64 0) (.int .i64 0) (.int .i64 0) (.int .i64 0) (.int .i64 0) (.slice none 0 0)
            generalize (((((((((w3.setCell ⟨w.heap.size, 0, none⟩ (.int .i64 0)).setCell ⟨w.heap.size, 1, none⟩ (.int .i64 0)).setCell ⟨w.heap.size, 2, none⟩ (.int .i64 0)).setCell ⟨w.heap.size, 3, none⟩ (.int .i64 0)).setCell ⟨w.heap.size, 4, none⟩ (.int .i64 0)).setCell ⟨w.heap.size, 5, none⟩ (.int .i64 0)).setCell ⟨w.heap.size, 6, none⟩ (.int .i64 0)).setCell ⟨w.heap.size, 7, none⟩ (.int .i64 0)).setCell ⟨w.heap.size, 8, none⟩ (.slice none 0 0)) = W at *
            obtain ⟨k0, k1, k2, k3, k4, k5, k6, k7, k8⟩ := sys_cells (s := sys0) hk
            refine bodyPost_ret (v := .tuple #[sysV sys0 none 0 0, .int .i64 7]) (by simp [results, Try.results11, go_sem, sysV, sys0, k0, k1, k2, k3, k4, k5, k6, k7, k8]) rfl ?_
            exact ⟨none, 0, 0, by rw [HE.out] <;> rfl, (HB3.out).andThen hbb (fun k e => .inr (by unfold Just at e; omega)), by rw [HE.out]; exact OSy.none⟩
          · have hd24 : decide ((24 : Int) < (x9 : Int)) = false := by simp; omega
            by_cases he : (pTasks x9 ms).1 = 0
            · have CT : Hid (∀ (W : World) (A : Option Addr) (n c : Nat), Rn W A n c ms → n ≤ 2000 → Calls Try.prog 26 #[.slice A n c, .int .i64 (x9 : Int)] W fun r w' => ∃ A' n' c' A2 c2 L, r = .returned (.tuple #[.slice A' n' c', .slice A2 (pTasks x9 ms).2.2.length c2, .int .i64 0]) ∧ But No W w' ∧ L.map (·.1) = (pTasks x9 ms).2.1 ∧ L.length = n' ∧ Ot W w' (.slice A' n' c') L) := fun W A n c hr hn => (rtasks_any A n c x9 ms W hr (by omega) hn).mono fun r w' ⟨q1, _, q3⟩ => by
                obtain ⟨A', n', c', A2, n2, c2, L, hr, h2, h3, h4, h5⟩ := q3 he
                subst h5
                exact ⟨A', n', c', A2, c2, L, hr, q1, h2, h3, h4⟩
              have HP2 : Hid (decP (nl b) = if 0 < (pTasks x9 ms).2.2.length then (8, sys0) else (0, ⟨x1, x2, x3, x4, x5, x6, x7, x8, (pTasks x9 ms).2.1⟩)) := by
                show _ = _
                rw [HP.out, if_neg (by simp), if_neg h24, if_neg (by simp [he])]
              clear HP
              generalize (pTasks x9 ms).2.1 = ts at *
              generalize (pTasks x9 ms).2.2.length = nr at *
              by_cases hnr : 0 < nr
              · have HE : Hid (decP (nl b) = (8, sys0)) := by show _ = _; rw [HP2.out, if_pos hnr]
                go_enter Try.func11, Try.ntmps11
                go_wp2_with (first | (go_at_call 24; refine (CO _).out.mono ?_; rintro e w2 ⟨rfl, hb2⟩; have HB2 := Lib.hid (((But.refl No w).alloc _).trans hb2); have HK2 : Hid (Blk w2 w.heap.size (boxS sys0 none 0 0) 24) := (Blk.new w _ _).but hb2 (fun f => f); have f0 := HK2.out.frozen 0; have f1 := HK2.out.frozen 1; have f2 := HK2.out.frozen 2; have f3 := HK2.out.frozen 3; have f4 := HK2.out.frozen 4; have f5 := HK2.out.frozen 5; have f6 := HK2.out.frozen 6; have f7 := HK2.out.frozen 7; have f8 := HK2.out.frozen 8; obtain ⟨g0, g1, g2, g3, g4, g5, g6, g7, g8⟩ := sys_cells HK2.out; clear hb2) | (go_at_call 25; refine (CR3.out _).mono ?_; rintro e w3 ⟨bn, off, c, rfl, hb3, hcap, hr3, hl0, hl1, hl2, hl3, hl4, hl5, hl6, hl7, hl8, hl9⟩; simp only [Nat.add_zero] at hl0; have HB3 := Lib.hid (HB2.out.trans hb3); have HR3 := Lib.hid hr3; have HK3 : Hid (Blk w3 w.heap.size (boxS sys0 none 0 0) 24) := HK2.out.but hb3 (fun f => f); clear f0 g0; clear f1 g1; clear f2 g2; clear f3 g3; clear f4 g4; clear f5 g5; clear f6 g6; clear f7 g7; clear f8 g8; have f0 := HK3.out.frozen 0; have f1 := HK3.out.frozen 1; have f2 := HK3.out.frozen 2; have f3 := HK3.out.frozen 3; have f4 := HK3.out.frozen 4; have f5 := HK3.out.frozen 5; have f6 := HK3.out.frozen 6; have f7 := HK3.out.frozen 7; have f8 := HK3.out.frozen 8; obtain ⟨g0, g1, g2, g3, g4, g5, g6, g7, g8⟩ := sys_cells HK3.out; clear hb3 hr3; have K11 : Hid (∀ w4, But No w3 w4 → w4.cell? ⟨bn, off + 1, none⟩ = some (.int .i64 (x1 : Int)) ∧ w4.cell? ⟨bn, off + 2, none⟩ = some (.int .i64 (x2 : Int)) ∧ w4.cell? ⟨bn, off + 3, none⟩ = some (.int .i64 (x3 : Int)) ∧ w4.cell? ⟨bn, off + 4, none⟩ = some (.int .i64 (x4 : Int)) ∧ w4.cell? ⟨bn, off + 5, none⟩ = some (.int .i64 (x5 : Int)) ∧ w4.cell? ⟨bn, off + 6, none⟩ = some (.int .i64 (x6 : Int)) ∧ w4.cell? ⟨bn, off + 7, none⟩ = some (.int .i64 (x7 : Int)) ∧ w4.cell? ⟨bn, off + 8, none⟩ = some (.int .i64 (x8 : Int)) ∧ But No w3 w4) := fun w4 hb => ⟨cell_keep hl1 hb, cell_keep hl2 hb, cell_keep hl3 hb, cell_keep hl4 hb, cell_keep hl5 hb, cell_keep hl6 hb, cell_keep hl7 hb, cell_keep hl8 hb, hb⟩))
                go_region_held3 (fun w' => w'.cell? ⟨bn, off + 1, none⟩ = some (.int .i64 (x1 : Int)) ∧ w'.cell? ⟨bn, off + 2, none⟩ = some (.int .i64 (x2 : Int)) ∧ w'.cell? ⟨bn, off + 3, none⟩ = some (.int .i64 (x3 : Int)) ∧ w'.cell? ⟨bn, off + 4, none⟩ = some (.int .i64 (x4 : Int)) ∧ w'.cell? ⟨bn, off + 5, none⟩ = some (.int .i64 (x5 : Int)) ∧ w'.cell? ⟨bn, off + 6, none⟩ = some (.int .i64 (x6 : Int)) ∧ w'.cell? ⟨bn, off + 7, none⟩ = some (.int .i64 (x7 : Int)) ∧ w'.cell? ⟨bn, off + 8, none⟩ = some (.int .i64 (x8 : Int)) ∧ But No w3 w')
                  (first | exact ⟨hl1, hl2, hl3, hl4, hl5, hl6, hl7, hl8, (But.refl _ _).drew⟩ | exact K11.out _ ((But.refl _ _).drew) | exact K11.out _ ((But.refl _ _).drew.alloc _))
                  (fail)
                rename_i hH
                clear hH
                obtain ⟨w4, hw4, hb4, hk8⟩ : ∃ w4, (w3.alloc (.cells #[.int .i64 (x1 : Int), .int .i64 (x2 : Int), .int .i64 (x3 : Int), .int .i64 (x4 : Int), .int .i64 (x5 : Int), .int .i64 (x6 : Int), .int .i64 (x7 : Int), .int .i64 (x8 : Int), .slice none 0 0] 24)).drew = w4 ∧ But No w3 w4 ∧ Blk w4 w3.heap.size (boxS ⟨x1, x2, x3, x4, x5, x6, x7, x8, []⟩ none 0 0) 24 := ⟨_, rfl, ((But.refl _ _).alloc _).drew, Blk.new w3 _ _⟩
                rw [hw4]
                have HK4 : Hid (Blk w4 w.heap.size (boxS sys0 none 0 0) 24) := HK3.out.but hb4 (fun f => f)
                have HK8 := Lib.hid hk8
                have HB4 := Lib.hid (HB3.out.trans hb4)
                have hl9' := cell_keep hl9 hb4
                have HL9 := Lib.hid hl9'
                have HR4 := Lib.hid (HR3.out.no hb4)
                have hbw : w.heap.size < w3.heap.size := HK3.out.lt
                clear f0 g0; clear f1 g1; clear f2 g2; clear f3 g3; clear f4 g4; clear f5 g5; clear f6 g6; clear f7 g7; clear f8 g8
                clear hw4 hb4 hk8 K11 hl0 hl1 hl2 hl3 hl4 hl5 hl6 hl7 hl8 hl9 hl9' HR3
                have hsl : ∀ W, (Instr.slice 44 (.slice (some ⟨bn, off, none⟩) n c) (some (.int .i64 10)) none none).run Try.prog W = .ok (.slice (if c = 10 then some ⟨bn, off, none⟩ else (some (⟨bn, off, none⟩ : Addr)).map (·.add (10 * 1))) (n - 10) (c - 10)) W := fun W => slice_from (n := n) (k := 10) (c := c) (by omega) W
                generalize (if c = 10 then some (⟨bn, off, none⟩ : Addr) else (some (⟨bn, off, none⟩ : Addr)).map (·.add (10 * 1))) = A2 at *
                have hn10 : n - 10 ≤ 2000 := by omega
                generalize n - 10 = m10 at *
                generalize c - 10 = c10 at *
                generalize w3.heap.size = b8 at *
                have CT2 := Lib.hid (CT.out w4.drew A2 m10 c10 (HR4.out.no ((But.refl _ _).drew)) hn10)
                go_wp2_with fail
                go_region_held3 (fun w' => w'.cell? ⟨bn, off + 9, none⟩ = some (.int .i64 (x9 : Int)) ∧ But No w4 w')
                  (first | exact ⟨HL9.out, (But.refl _ _).drew⟩ | exact ⟨cell_keep HL9.out ((But.refl _ _).drew.trans hbq), (But.refl _ _).drew.trans hbq⟩)
                  (first | (go_at_call 26; ((with_reducible refine CT2.out.mono ?_); rintro e wq ⟨A', n', c', A2', c2', L, rfl, hbq, hq⟩)))
                rename_i hH
                have HB5 := Lib.hid hH.2
                have HK5 : Hid (Blk wq w.heap.size (boxS sys0 none 0 0) 24) := HK4.out.but hH.2 (fun f => f)
                have HBB : Hid (But No w wq) := HB4.out.trans hH.2
                have HK85 := Lib.hid (HK8.out.but hH.2 (fun f => f))
                clear hH
                have f0 := HK5.out.frozen 0; have f1 := HK5.out.frozen 1; have f2 := HK5.out.frozen 2; have f3 := HK5.out.frozen 3; have f4 := HK5.out.frozen 4; have f5 := HK5.out.frozen 5; have f6 := HK5.out.frozen 6; have f7 := HK5.out.frozen 7; have f8 := HK5.out.frozen 8; obtain ⟨g0, g1, g2, g3, g4, g5, g6, g7, g8⟩ := sys_cells HK5.out
                go_wp2
                obtain ⟨hk, hbb⟩ := store9 (e := 24) HK5.out (.int .i64 0) (.int .i64 0) (.int .i64 0) (.int .i64 0) (.int .i64 0) (.int .i64 0) (.int .i64 0) (.int .i64 0) (.slice none 0 0)
                generalize (((((((((wq.setCell ⟨w.heap.size, 0, none⟩ (.int .i64 0)).setCell ⟨w.heap.size, 1, none⟩ (.int .i64 0)).setCell ⟨w.heap.size, 2, none⟩ (.int .i64 0)).setCell ⟨w.heap.size, 3, none⟩ (.int .i64 0)).setCell ⟨w.heap.size, 4, none⟩ (.int .i64 0)).setCell ⟨w.heap.size, 5, none⟩ (.int .i64 0)).setCell ⟨w.heap.size, 6, none⟩ (.int .i64 0)).setCell ⟨w.heap.size, 7, none⟩ (.int .i64 0)).setCell ⟨w.heap.size, 8, none⟩ (.slice none 0 0)) = W at *
                obtain ⟨k0, k1, k2, k3, k4, k5, k6, k7, k8⟩ := sys_cells (s := sys0) hk
                refine bodyPost_ret (v := .tuple #[sysV sys0 none 0 0, .int .i64 8]) (by simp [results, Try.results11, go_sem, sysV, sys0, k0, k1, k2, k3, k4, k5, k6, k7, k8]) rfl ?_
                exact ⟨none, 0, 0, by rw [HE.out] <;> rfl, (HBB.out).andThen hbb (fun k e => .inr (by unfold Just at e; omega)), by rw [HE.out]; exact OSy.none⟩
              · have HE : Hid (decP (nl b) = (0, ⟨x1, x2, x3, x4, x5, x6, x7, x8, ts⟩)) := by show _ = _; rw [HP2.out, if_neg hnr]
                obtain rfl : nr = 0 := by omega
                go_enter Try.func11, Try.ntmps11
                go_wp2_with (first | (go_at_call 24; refine (CO _).out.mono ?_; rintro e w2 ⟨rfl, hb2⟩; have HB2 := Lib.hid (((But.refl No w).alloc _).trans hb2); have HK2 : Hid (Blk w2 w.heap.size (boxS sys0 none 0 0) 24) := (Blk.new w _ _).but hb2 (fun f => f); have f0 := HK2.out.frozen 0; have f1 := HK2.out.frozen 1; have f2 := HK2.out.frozen 2; have f3 := HK2.out.frozen 3; have f4 := HK2.out.frozen 4; have f5 := HK2.out.frozen 5; have f6 := HK2.out.frozen 6; have f7 := HK2.out.frozen 7; have f8 := HK2.out.frozen 8; obtain ⟨g0, g1, g2, g3, g4, g5, g6, g7, g8⟩ := sys_cells HK2.out; clear hb2) | (go_at_call 25; refine (CR3.out _).mono ?_; rintro e w3 ⟨bn, off, c, rfl, hb3, hcap, hr3, hl0, hl1, hl2, hl3, hl4, hl5, hl6, hl7, hl8, hl9⟩; simp only [Nat.add_zero] at hl0; have HB3 := Lib.hid (HB2.out.trans hb3); have HR3 := Lib.hid hr3; have HK3 : Hid (Blk w3 w.heap.size (boxS sys0 none 0 0) 24) := HK2.out.but hb3 (fun f => f); clear f0 g0; clear f1 g1; clear f2 g2; clear f3 g3; clear f4 g4; clear f5 g5; clear f6 g6; clear f7 g7; clear f8 g8; have f0 := HK3.out.frozen 0; have f1 := HK3.out.frozen 1; have f2 := HK3.out.frozen 2; have f3 := HK3.out.frozen 3; have f4 := HK3.out.frozen 4; have f5 := HK3.out.frozen 5; have f6 := HK3.out.frozen 6; have f7 := HK3.out.frozen 7; have f8 := HK3.out.frozen 8; obtain ⟨g0, g1, g2, g3, g4, g5, g6, g7, g8⟩ := sys_cells HK3.out; clear hb3 hr3; have K11 : Hid (∀ w4, But No w3 w4 → w4.cell? ⟨bn, off + 1, none⟩ = some (.int .i64 (x1 : Int)) ∧ w4.cell? ⟨bn, off + 2, none⟩ = some (.int .i64 (x2 : Int)) ∧ w4.cell? ⟨bn, off + 3, none⟩ = some (.int .i64 (x3 : Int)) ∧ w4.cell? ⟨bn, off + 4, none⟩ = some (.int .i64 (x4 : Int)) ∧ w4.cell? ⟨bn, off + 5, none⟩ = some (.int .i64 (x5 : Int)) ∧ w4.cell? ⟨bn, off + 6, none⟩ = some (.int .i64 (x6 : Int)) ∧ w4.cell? ⟨bn, off + 7, none⟩ = some (.int .i64 (x7 : Int)) ∧ w4.cell? ⟨bn, off + 8, none⟩ = some (.int .i64 (x8 : Int)) ∧ But No w3 w4) := fun w4 hb => ⟨cell_keep hl1 hb, cell_keep hl2 hb, cell_keep hl3 hb, cell_keep hl4 hb, cell_keep hl5 hb, cell_keep hl6 hb, cell_keep hl7 hb, cell_keep hl8 hb, hb⟩))
                go_region_held3 (fun w' => w'.cell? ⟨bn, off + 1, none⟩ = some (.int .i64 (x1 : Int)) ∧ w'.cell? ⟨bn, off + 2, none⟩ = some (.int .i64 (x2 : Int)) ∧ w'.cell? ⟨bn, off + 3, none⟩ = some (.int .i64 (x3 : Int)) ∧ w'.cell? ⟨bn, off + 4, none⟩ = some (.int .i64 (x4 : Int)) ∧ w'.cell? ⟨bn, off + 5, none⟩ = some (.int .i64 (x5 : Int)) ∧ w'.cell? ⟨bn, off + 6, none⟩ = some (.int .i64 (x6 : Int)) ∧ w'.cell? ⟨bn, off + 7, none⟩ = some (.int .i64 (x7 : Int)) ∧ w'.cell? ⟨bn, off + 8, none⟩ = some (.int .i64 (x8 : Int)) ∧ But No w3 w')
                  (first | exact ⟨hl1, hl2, hl3, hl4, hl5, hl6, hl7, hl8, (But.refl _ _).drew⟩ | exact K11.out _ ((But.refl _ _).drew) | exact K11.out _ ((But.refl _ _).drew.alloc _))
                  (fail)
                rename_i hH
                clear hH
                obtain ⟨w4, hw4, hb4, hk8⟩ : ∃ w4, (w3.alloc (.cells #[.int .i64 (x1 : Int), .int .i64 (x2 : Int), .int .i64 (x3 : Int), .int .i64 (x4 : Int), .int .i64 (x5 : Int), .int .i64 (x6 : Int), .int .i64 (x7 : Int), .int .i64 (x8 : Int), .slice none 0 0] 24)).drew = w4 ∧ But No w3 w4 ∧ Blk w4 w3.heap.size (boxS ⟨x1, x2, x3, x4, x5, x6, x7, x8, []⟩ none 0 0) 24 := ⟨_, rfl, ((But.refl _ _).alloc _).drew, Blk.new w3 _ _⟩
                rw [hw4]
                have HK4 : Hid (Blk w4 w.heap.size (boxS sys0 none 0 0) 24) := HK3.out.but hb4 (fun f => f)
                have HK8 := Lib.hid hk8
                have HB4 := Lib.hid (HB3.out.trans hb4)
                have hl9' := cell_keep hl9 hb4
                have HL9 := Lib.hid hl9'
                have HR4 := Lib.hid (HR3.out.no hb4)
                have hbw : w.heap.size < w3.heap.size := HK3.out.lt
                clear f0 g0; clear f1 g1; clear f2 g2; clear f3 g3; clear f4 g4; clear f5 g5; clear f6 g6; clear f7 g7; clear f8 g8
                clear hw4 hb4 hk8 K11 hl0 hl1 hl2 hl3 hl4 hl5 hl6 hl7 hl8 hl9 hl9' HR3
                have hsl : ∀ W, (Instr.slice 44 (.slice (some ⟨bn, off, none⟩) n c) (some (.int .i64 10)) none none).run Try.prog W = .ok (.slice (if c = 10 then some ⟨bn, off, none⟩ else (some (⟨bn, off, none⟩ : Addr)).map (·.add (10 * 1))) (n - 10) (c - 10)) W := fun W => slice_from (n := n) (k := 10) (c := c) (by omega) W
                generalize (if c = 10 then some (⟨bn, off, none⟩ : Addr) else (some (⟨bn, off, none⟩ : Addr)).map (·.add (10 * 1))) = A2 at *
                have hn10 : n - 10 ≤ 2000 := by omega
                generalize n - 10 = m10 at *
                generalize c - 10 = c10 at *
                generalize w3.heap.size = b8 at *
                have CT2 := Lib.hid (CT.out w4.drew A2 m10 c10 (HR4.out.no ((But.refl _ _).drew)) hn10)
                go_wp2_with fail
                go_region_held3 (fun w' => w'.cell? ⟨bn, off + 9, none⟩ = some (.int .i64 (x9 : Int)) ∧ But No w4 w')
                  (first | exact ⟨HL9.out, (But.refl _ _).drew⟩ | exact ⟨cell_keep HL9.out ((But.refl _ _).drew.trans hbq), (But.refl _ _).drew.trans hbq⟩)
                  (first | (go_at_call 26; ((with_reducible refine CT2.out.mono ?_); rintro e wq ⟨A', n', c', A2', c2', L, rfl, hbq, hq⟩)))
                rename_i hH
                have HB5 := Lib.hid hH.2
                have HK5 : Hid (Blk wq w.heap.size (boxS sys0 none 0 0) 24) := HK4.out.but hH.2 (fun f => f)
                have HBB : Hid (But No w wq) := HB4.out.trans hH.2
                have HK85 := Lib.hid (HK8.out.but hH.2 (fun f => f))
                clear hH
                have f0 := HK5.out.frozen 0; have f1 := HK5.out.frozen 1; have f2 := HK5.out.frozen 2; have f3 := HK5.out.frozen 3; have f4 := HK5.out.frozen 4; have f5 := HK5.out.frozen 5; have f6 := HK5.out.frozen 6; have f7 := HK5.out.frozen 7; have f8 := HK5.out.frozen 8; obtain ⟨g0, g1, g2, g3, g4, g5, g6, g7, g8⟩ := sys_cells HK5.out
                have HQ := Lib.hid hq
                have h8 : wq.cell? ⟨b8, 8, none⟩ = some (.slice none 0 0) := HK85.out.cell rfl
                have h8f := HK85.out.frozen 8
                go_upto_region 18 with fail
                obtain ⟨w6, hw6, hb6, hk6⟩ : ∃ w6, wq.setCell ⟨b8, 8, none⟩ (.slice A' n' c') = w6 ∧ But (Just b8) wq w6 ∧ Blk w6 b8 (boxS ⟨x1, x2, x3, x4, x5, x6, x7, x8, ts⟩ A' n' c') 24 := ⟨_, rfl, (But.refl _ _).setCell (just b8) _, HK85.out.set 8 _⟩
                rw [hw6]
                have HK6 := Lib.hid (HK5.out.but hb6 (fun f => by unfold Just at f; omega))
                obtain ⟨m0, m1, m2, m3, m4, m5, m6, m7, m8⟩ := sys_cells hk6
                have HB6 := Lib.hid hb6
                clear f0 g0; clear f1 g1; clear f2 g2; clear f3 g3; clear f4 g4; clear f5 g5; clear f6 g6; clear f7 g7; clear f8 g8
                clear hw6 hb6 hk6 h8 h8f
                have f0 := HK6.out.frozen 0; have f1 := HK6.out.frozen 1; have f2 := HK6.out.frozen 2; have f3 := HK6.out.frozen 3; have f4 := HK6.out.frozen 4; have f5 := HK6.out.frozen 5; have f6 := HK6.out.frozen 6; have f7 := HK6.out.frozen 7; have f8 := HK6.out.frozen 8; obtain ⟨g0, g1, g2, g3, g4, g5, g6, g7, g8⟩ := sys_cells HK6.out
                go_wp2
                obtain ⟨hk, hbb⟩ := store9 (e := 24) HK6.out (.int .i64 (x1 : Int)) (.int .i64 (x2 : Int)) (.int .i64 (x3 : Int)) (.int .i64 (x4 : Int)) (.int .i64 (x5 : Int)) (.int .i64 (x6 : Int)) (.int .i64 (x7 : Int)) (.int .i64 (x8 : Int)) (.slice A' n' c')
                generalize (((((((((w6.setCell ⟨w.heap.size, 0, none⟩ (.int .i64 (x1 : Int))).setCell ⟨w.heap.size, 1, none⟩ (.int .i64 (x2 : Int))).setCell ⟨w.heap.size, 2, none⟩ (.int .i64 (x3 : Int))).setCell ⟨w.heap.size, 3, none⟩ (.int .i64 (x4 : Int))).setCell ⟨w.heap.size, 4, none⟩ (.int .i64 (x5 : Int))).setCell ⟨w.heap.size, 5, none⟩ (.int .i64 (x6 : Int))).setCell ⟨w.heap.size, 6, none⟩ (.int .i64 (x7 : Int))).setCell ⟨w.heap.size, 7, none⟩ (.int .i64 (x8 : Int))).setCell ⟨w.heap.size, 8, none⟩ (.slice A' n' c')) = W at *
                obtain ⟨k0, k1, k2, k3, k4, k5, k6, k7, k8⟩ := sys_cells (s := ⟨x1, x2, x3, x4, x5, x6, x7, x8, ts⟩) hk
                refine bodyPost_ret (v := .tuple #[sysV ⟨x1, x2, x3, x4, x5, x6, x7, x8, ts⟩ A' n' c', .int .i64 0]) (by simp [results, Try.results11, go_sem, sysV, k0, k1, k2, k3, k4, k5, k6, k7, k8]) rfl ?_
                obtain ⟨q1, q2, q3⟩ := HQ.out
                have z4 := HK4.out.lt
                have z8 := HK8.out.lt
                have hbw6 : But No w w6 := HBB.out.andThen HB6.out (fun k e => .inr (by unfold Just at e; omega))
                refine ⟨A', n', c', by rw [HE.out] <;> rfl, hbw6.andThen hbb (fun k e => .inr (by unfold Just at e; omega)), ?_⟩
                rw [HE.out]
                have ho := (q3.but HB6.out (fun j f => by unfold Just at f; show j < w4.heap.size; omega)).but hbb (fun j f => by unfold Just at f; show j < w4.heap.size; omega)
                exact ⟨L, q1.symm, q2, ho.start (by show w.heap.size ≤ w4.heap.size; omega)⟩
            · obtain ⟨G, hG⟩ : ∃ G, G = (pTasks x9 ms).1 := ⟨_, rfl⟩
              have CT : Hid (∀ (W : World) (A : Option Addr) (n c : Nat), Rn W A n c ms → n ≤ 2000 → Calls Try.prog 26 #[.slice A n c, .int .i64 (x9 : Int)] W fun r w' => r = .returned (.tuple #[.slice none 0 0, .slice none 0 0, .int .i64 (G : Int)]) ∧ But No W w') := fun W A n c hr hn => (rtasks_any A n c x9 ms W hr (by omega) hn).mono fun r w' ⟨q1, q2, _⟩ => ⟨by rw [hG]; exact q2 he, q1⟩
              have HE : Hid (decP (nl b) = (G, sys0)) := by show _ = _; rw [HP.out, if_neg (by simp), if_neg h24, if_pos he, hG]
              rw [← hG] at he
              have hne : ((G : Int) != 0) = true := by rw [bne_iff_ne]; omega
              clear HP hG
              go_enter Try.func11, Try.ntmps11
              go_wp2_with (first | (go_at_call 24; refine (CO _).out.mono ?_; rintro e w2 ⟨rfl, hb2⟩; have HB2 := Lib.hid (((But.refl No w).alloc _).trans hb2); have HK2 : Hid (Blk w2 w.heap.size (boxS sys0 none 0 0) 24) := (Blk.new w _ _).but hb2 (fun f => f); have f0 := HK2.out.frozen 0; have f1 := HK2.out.frozen 1; have f2 := HK2.out.frozen 2; have f3 := HK2.out.frozen 3; have f4 := HK2.out.frozen 4; have f5 := HK2.out.frozen 5; have f6 := HK2.out.frozen 6; have f7 := HK2.out.frozen 7; have f8 := HK2.out.frozen 8; obtain ⟨g0, g1, g2, g3, g4, g5, g6, g7, g8⟩ := sys_cells HK2.out; clear hb2) | (go_at_call 25; refine (CR3.out _).mono ?_; rintro e w3 ⟨bn, off, c, rfl, hb3, hcap, hr3, hl0, hl1, hl2, hl3, hl4, hl5, hl6, hl7, hl8, hl9⟩; simp only [Nat.add_zero] at hl0; have HB3 := Lib.hid (HB2.out.trans hb3); have HR3 := Lib.hid hr3; have HK3 : Hid (Blk w3 w.heap.size (boxS sys0 none 0 0) 24) := HK2.out.but hb3 (fun f => f); clear f0 g0; clear f1 g1; clear f2 g2; clear f3 g3; clear f4 g4; clear f5 g5; clear f6 g6; clear f7 g7; clear f8 g8; have f0 := HK3.out.frozen 0; have f1 := HK3.out.frozen 1; have f2 := HK3.out.frozen 2; have f3 := HK3.out.frozen 3; have f4 := HK3.out.frozen 4; have f5 := HK3.out.frozen 5; have f6 := HK3.out.frozen 6; have f7 := HK3.out.frozen 7; have f8 := HK3.out.frozen 8; obtain ⟨g0, g1, g2, g3, g4, g5, g6, g7, g8⟩ := sys_cells HK3.out; clear hb3 hr3; have K11 : Hid (∀ w4, But No w3 w4 → w4.cell? ⟨bn, off + 1, none⟩ = some (.int .i64 (x1 : Int)) ∧ w4.cell? ⟨bn, off + 2, none⟩ = some (.int .i64 (x2 : Int)) ∧ w4.cell? ⟨bn, off + 3, none⟩ = some (.int .i64 (x3 : Int)) ∧ w4.cell? ⟨bn, off + 4, none⟩ = some (.int .i64 (x4 : Int)) ∧ w4.cell? ⟨bn, off + 5, none⟩ = some (.int .i64 (x5 : Int)) ∧ w4.cell? ⟨bn, off + 6, none⟩ = some (.int .i64 (x6 : Int)) ∧ w4.cell? ⟨bn, off + 7, none⟩ = some (.int .i64 (x7 : Int)) ∧ w4.cell? ⟨bn, off + 8, none⟩ = some (.int .i64 (x8 : Int)) ∧ But No w3 w4) := fun w4 hb => ⟨cell_keep hl1 hb, cell_keep hl2 hb, cell_keep hl3 hb, cell_keep hl4 hb, cell_keep hl5 hb, cell_keep hl6 hb, cell_keep hl7 hb, cell_keep hl8 hb, hb⟩))
              go_region_held3 (fun w' => w'.cell? ⟨bn, off + 1, none⟩ = some (.int .i64 (x1 : Int)) ∧ w'.cell? ⟨bn, off + 2, none⟩ = some (.int .i64 (x2 : Int)) ∧ w'.cell? ⟨bn, off + 3, none⟩ = some (.int .i64 (x3 : Int)) ∧ w'.cell? ⟨bn, off + 4, none⟩ = some (.int .i64 (x4 : Int)) ∧ w'.cell? ⟨bn, off + 5, none⟩ = some (.int .i64 (x5 : Int)) ∧ w'.cell? ⟨bn, off + 6, none⟩ = some (.int .i64 (x6 : Int)) ∧ w'.cell? ⟨bn, off + 7, none⟩ = some (.int .i64 (x7 : Int)) ∧ w'.cell? ⟨bn, off + 8, none⟩ = some (.int .i64 (x8 : Int)) ∧ But No w3 w')
                (first | exact ⟨hl1, hl2, hl3, hl4, hl5, hl6, hl7, hl8, (But.refl _ _).drew⟩ | exact K11.out _ ((But.refl _ _).drew) | exact K11.out _ ((But.refl _ _).drew.alloc _))
                (fail)
              rename_i hH
              clear hH
              obtain ⟨w4, hw4, hb4, hk8⟩ : ∃ w4, (w3.alloc (.cells #[.int .i64 (x1 : Int), .int .i64 (x2 : Int), .int .i64 (x3 : Int), .int .i64 (x4 : Int), .int .i64 (x5 : Int), .int .i64 (x6 : Int), .int .i64 (x7 : Int), .int .i64 (x8 : Int), .slice none 0 0] 24)).drew = w4 ∧ But No w3 w4 ∧ Blk w4 w3.heap.size (boxS ⟨x1, x2, x3, x4, x5, x6, x7, x8, []⟩ none 0 0) 24 := ⟨_, rfl, ((But.refl _ _).alloc _).drew, Blk.new w3 _ _⟩
              rw [hw4]
              have HK4 : Hid (Blk w4 w.heap.size (boxS sys0 none 0 0) 24) := HK3.out.but hb4 (fun f => f)
              have HK8 := Lib.hid hk8
              have HB4 := Lib.hid (HB3.out.trans hb4)
              have hl9' := cell_keep hl9 hb4
              have HL9 := Lib.hid hl9'
              have HR4 := Lib.hid (HR3.out.no hb4)
              have hbw : w.heap.size < w3.heap.size := HK3.out.lt
              clear f0 g0; clear f1 g1; clear f2 g2; clear f3 g3; clear f4 g4; clear f5 g5; clear f6 g6; clear f7 g7; clear f8 g8
              clear hw4 hb4 hk8 K11 hl0 hl1 hl2 hl3 hl4 hl5 hl6 hl7 hl8 hl9 hl9' HR3
              have hsl : ∀ W, (Instr.slice 44 (.slice (some ⟨bn, off, none⟩) n c) (some (.int .i64 10)) none none).run Try.prog W = .ok (.slice (if c = 10 then some ⟨bn, off, none⟩ else (some (⟨bn, off, none⟩ : Addr)).map (·.add (10 * 1))) (n - 10) (c - 10)) W := fun W => slice_from (n := n) (k := 10) (c := c) (by omega) W
              generalize (if c = 10 then some (⟨bn, off, none⟩ : Addr) else (some (⟨bn, off, none⟩ : Addr)).map (·.add (10 * 1))) = A2 at *
              have hn10 : n - 10 ≤ 2000 := by omega
              generalize n - 10 = m10 at *
              generalize c - 10 = c10 at *
              generalize w3.heap.size = b8 at *
              have CT2 := Lib.hid (CT.out w4.drew A2 m10 c10 (HR4.out.no ((But.refl _ _).drew)) hn10)
              go_wp2_with fail
              go_region_held3 (fun w' => w'.cell? ⟨bn, off + 9, none⟩ = some (.int .i64 (x9 : Int)) ∧ But No w4 w')
                (first | exact ⟨HL9.out, (But.refl _ _).drew⟩ | exact ⟨cell_keep HL9.out ((But.refl _ _).drew.trans hbq), (But.refl _ _).drew.trans hbq⟩)
                (first | (go_at_call 26; ((with_reducible refine CT2.out.mono ?_); rintro e wq ⟨rfl, hbq⟩)))
              rename_i hH
              have HB5 := Lib.hid hH.2
              have HK5 : Hid (Blk wq w.heap.size (boxS sys0 none 0 0) 24) := HK4.out.but hH.2 (fun f => f)
              have HBB : Hid (But No w wq) := HB4.out.trans hH.2
              have HK85 := Lib.hid (HK8.out.but hH.2 (fun f => f))
              clear hH
              have f0 := HK5.out.frozen 0; have f1 := HK5.out.frozen 1; have f2 := HK5.out.frozen 2; have f3 := HK5.out.frozen 3; have f4 := HK5.out.frozen 4; have f5 := HK5.out.frozen 5; have f6 := HK5.out.frozen 6; have f7 := HK5.out.frozen 7; have f8 := HK5.out.frozen 8; obtain ⟨g0, g1, g2, g3, g4, g5, g6, g7, g8⟩ := sys_cells HK5.out
              go_wp2
              obtain ⟨hk, hbb⟩ := store9 (e := 24) HK5.out (.int .i64 0) (.int .i64 0) (.int .i64 0) (.int .i64 0) (.int .i64 0) (.int .i64 0) (.int .i64 0) (.int .i64 0) (.slice none 0 0)
              generalize (((((((((wq.setCell ⟨w.heap.size, 0, none⟩ (.int .i64 0)).setCell ⟨w.heap.size, 1, none⟩ (.int .i64 0)).setCell ⟨w.heap.size, 2, none⟩ (.int .i64 0)).setCell ⟨w.heap.size, 3, none⟩ (.int .i64 0)).setCell ⟨w.heap.size, 4, none⟩ (.int .i64 0)).setCell ⟨w.heap.size, 5, none⟩ (.int .i64 0)).setCell ⟨w.heap.size, 6, none⟩ (.int .i64 0)).setCell ⟨w.heap.size, 7, none⟩ (.int .i64 0)).setCell ⟨w.heap.size, 8, none⟩ (.slice none 0 0)) = W at *
              obtain ⟨k0, k1, k2, k3, k4, k5, k6, k7, k8⟩ := sys_cells (s := sys0) hk
              refine bodyPost_ret (v := .tuple #[sysV sys0 none 0 0, .int .i64 (G : Int)]) (by simp [results, Try.results11, go_sem, sysV, sys0, k0, k1, k2, k3, k4, k5, k6, k7, k8]) rfl ?_
              exact ⟨none, 0, 0, by rw [HE.out] <;> rfl, (HBB.out).andThen hbb (fun k e => .inr (by unfold Just at e; omega)), by rw [HE.out]; exact OSy.none⟩
        · have HE : Hid (decP (nl b) = (8, sys0)) := by show _ = _; rw [HP.out, if_pos h1]
          have hne : ((x0 : Int) != 1) = true := by rw [bne_iff_ne]; omega
          go_enter Try.func11, Try.ntmps11
          go_wp2_with (first | (go_at_call 24; refine (CO _).out.mono ?_; rintro e w2 ⟨rfl, hb2⟩; have HB2 := Lib.hid (((But.refl No w).alloc _).trans hb2); have HK2 : Hid (Blk w2 w.heap.size (boxS sys0 none 0 0) 24) := (Blk.new w _ _).but hb2 (fun f => f); have f0 := HK2.out.frozen 0; have f1 := HK2.out.frozen 1; have f2 := HK2.out.frozen 2; have f3 := HK2.out.frozen 3; have f4 := HK2.out.frozen 4; have f5 := HK2.out.frozen 5; have f6 := HK2.out.frozen 6; have f7 := HK2.out.frozen 7; have f8 := HK2.out.frozen 8; obtain ⟨g0, g1, g2, g3, g4, g5, g6, g7, g8⟩ := sys_cells HK2.out; clear hb2) | (go_at_call 25; refine (CR3.out _).mono ?_; rintro e w3 ⟨bn, off, c, rfl, hb3, hcap, hr3, hl0, hl1, hl2, hl3, hl4, hl5, hl6, hl7, hl8, hl9⟩; simp only [Nat.add_zero] at hl0; have HB3 := Lib.hid (HB2.out.trans hb3); have HR3 := Lib.hid hr3; have HK3 : Hid (Blk w3 w.heap.size (boxS sys0 none 0 0) 24) := HK2.out.but hb3 (fun f => f); clear f0 g0; clear f1 g1; clear f2 g2; clear f3 g3; clear f4 g4; clear f5 g5; clear f6 g6; clear f7 g7; clear f8 g8; have f0 := HK3.out.frozen 0; have f1 := HK3.out.frozen 1; have f2 := HK3.out.frozen 2; have f3 := HK3.out.frozen 3; have f4 := HK3.out.frozen 4; have f5 := HK3.out.frozen 5; have f6 := HK3.out.frozen 6; have f7 := HK3.out.frozen 7; have f8 := HK3.out.frozen 8; obtain ⟨g0, g1, g2, g3, g4, g5, g6, g7, g8⟩ := sys_cells HK3.out; clear hb3 hr3; have K11 : Hid (∀ w4, But No w3 w4 → w4.cell? ⟨bn, off + 1, none⟩ = some (.int .i64 (x1 : Int)) ∧ w4.cell? ⟨bn, off + 2, none⟩ = some (.int .i64 (x2 : Int)) ∧ w4.cell? ⟨bn, off + 3, none⟩ = some (.int .i64 (x3 : Int)) ∧ w4.cell? ⟨bn, off + 4, none⟩ = some (.int .i64 (x4 : Int)) ∧ w4.cell? ⟨bn, off + 5, none⟩ = some (.int .i64 (x5 : Int)) ∧ w4.cell? ⟨bn, off + 6, none⟩ = some (.int .i64 (x6 : Int)) ∧ w4.cell? ⟨bn, off + 7, none⟩ = some (.int .i64 (x7 : Int)) ∧ w4.cell? ⟨bn, off + 8, none⟩ = some (.int .i64 (x8 : Int)) ∧ But No w3 w4) := fun w4 hb => ⟨cell_keep hl1 hb, cell_keep hl2 hb, cell_keep hl3 hb, cell_keep hl4 hb, cell_keep hl5 hb, cell_keep hl6 hb, cell_keep hl7 hb, cell_keep hl8 hb, hb⟩))
          obtain ⟨hk, hbb⟩ := store9 (e := 24) HK3.out (.int .i64 0) (.int .i64 0) (.int .i64 0) (.int .i64 0) (.int .i64 0) (.int .i64 0) (.int .i64 0) (.int .i64 0) (.slice none 0 0)
          generalize (((((((((w3.setCell ⟨w.heap.size, 0, none⟩ (.int .i64 0)).setCell ⟨w.heap.size, 1, none⟩ (.int .i64 0)).setCell ⟨w.heap.size, 2, none⟩ (.int .i64 0)).setCell ⟨w.heap.size, 3, none⟩ (.int .i64 0)).setCell ⟨w.heap.size, 4, none⟩ (.int .i64 0)).setCell ⟨w.heap.size, 5, none⟩ (.int .i64 0)).setCell ⟨w.heap.size, 6, none⟩ (.int .i64 0)).setCell ⟨w.heap.size, 7, none⟩ (.int .i64 0)).setCell ⟨w.heap.size, 8, none⟩ (.slice none 0 0)) = W at *
          obtain ⟨k0, k1, k2, k3, k4, k5, k6, k7, k8⟩ := sys_cells (s := sys0) hk
          refine bodyPost_ret (v := .tuple #[sysV sys0 none 0 0, .int .i64 8]) (by simp [results, Try.results11, go_sem, sysV, sys0, k0, k1, k2, k3, k4, k5, k6, k7, k8]) rfl ?_
          exact ⟨none, 0, 0, by rw [HE.out] <;> rfl, (HB3.out).andThen hbb (fun k e => .inr (by unfold Just at e; omega)), by rw [HE.out]; exact OSy.none⟩
    · have HE : Hid (decP (nl b) = (F, sys0)) := by show _ = _; rw [HD.out, if_pos h1]
      have hne : ((F : Int) != 0) = true := by rw [bne_iff_ne]; omega
      clear HD hF ht
      go_enter Try.func11, Try.ntmps11
      go_wp2_with (first | (go_at_call 24; refine (CO _).out.mono ?_; rintro e w2 ⟨rfl, hb2⟩; have HB2 := Lib.hid (((But.refl No w).alloc _).trans hb2); have HK2 : Hid (Blk w2 w.heap.size (boxS sys0 none 0 0) 24) := (Blk.new w _ _).but hb2 (fun f => f); have f0 := HK2.out.frozen 0; have f1 := HK2.out.frozen 1; have f2 := HK2.out.frozen 2; have f3 := HK2.out.frozen 3; have f4 := HK2.out.frozen 4; have f5 := HK2.out.frozen 5; have f6 := HK2.out.frozen 6; have f7 := HK2.out.frozen 7; have f8 := HK2.out.frozen 8; obtain ⟨g0, g1, g2, g3, g4, g5, g6, g7, g8⟩ := sys_cells HK2.out; clear hb2) | (go_at_call 25; refine (CR.out _).mono ?_; rintro e w3 ⟨A, n, c, rfl, hn3, ho3⟩; have HB3 := Lib.hid (HB2.out.trans ho3.but); have HO3 := Lib.hid ho3; have HN3 := Lib.hid hn3; have HK3 : Hid (Blk w3 w.heap.size (boxS sys0 none 0 0) 24) := HK2.out.but ho3.but (fun f => f); clear f0 g0; clear f1 g1; clear f2 g2; clear f3 g3; clear f4 g4; clear f5 g5; clear f6 g6; clear f7 g7; clear f8 g8; have f0 := HK3.out.frozen 0; have f1 := HK3.out.frozen 1; have f2 := HK3.out.frozen 2; have f3 := HK3.out.frozen 3; have f4 := HK3.out.frozen 4; have f5 := HK3.out.frozen 5; have f6 := HK3.out.frozen 6; have f7 := HK3.out.frozen 7; have f8 := HK3.out.frozen 8; obtain ⟨g0, g1, g2, g3, g4, g5, g6, g7, g8⟩ := sys_cells HK3.out; clear hn3 ho3))
      obtain ⟨hk, hbb⟩ := store9 (e := 24) HK3.out (.int .i64 0) (.int .i64 0) (.int .i64 0) (.int .i64 0) (.int .i64 0) (.int .i64 0) (.int .i64 0) (.int .i64 0) (.slice none 0 0)
      generalize (((((((((w3.setCell ⟨w.heap.size, 0, none⟩ (.int .i64 0)).setCell ⟨w.heap.size, 1, none⟩ (.int .i64 0)).setCell ⟨w.heap.size, 2, none⟩ (.int .i64 0)).setCell ⟨w.heap.size, 3, none⟩ (.int .i64 0)).setCell ⟨w.heap.size, 4, none⟩ (.int .i64 0)).setCell ⟨w.heap.size, 5, none⟩ (.int .i64 0)).setCell ⟨w.heap.size, 6, none⟩ (.int .i64 0)).setCell ⟨w.heap.size, 7, none⟩ (.int .i64 0)).setCell ⟨w.heap.size, 8, none⟩ (.slice none 0 0)) = W at *
      obtain ⟨k0, k1, k2, k3, k4, k5, k6, k7, k8⟩ := sys_cells (s := sys0) hk
      refine bodyPost_ret (v := .tuple #[sysV sys0 none 0 0, .int .i64 (F : Int)]) (by simp [results, Try.results11, go_sem, sysV, sys0, k0, k1, k2, k3, k4, k5, k6, k7, k8]) rfl ?_
      exact ⟨none, 0, 0, by rw [HE.out] <;> rfl, (HB3.out).andThen hbb (fun k e => .inr (by unfold Just at e; omega)), by rw [HE.out]; exact OSy.none⟩
  · have HE : Hid (decP (nl b) = (E, sys0)) := by show _ = _; unfold decP; rw [hE, if_pos h0]
    have hne : ((E : Int) != 0) = true := by rw [bne_iff_ne]; omega
    clear hE ht
    go_enter Try.func11, Try.ntmps11
    go_wp2_with (go_at_call 24; refine (CO _).out.mono ?_; rintro e w2 ⟨rfl, hb2⟩; have HB2 := Lib.hid (((But.refl No w).alloc _).trans hb2); have HK2 : Hid (Blk w2 w.heap.size (boxS sys0 none 0 0) 24) := (Blk.new w _ _).but hb2 (fun f => f); have f0 := HK2.out.frozen 0; have f1 := HK2.out.frozen 1; have f2 := HK2.out.frozen 2; have f3 := HK2.out.frozen 3; have f4 := HK2.out.frozen 4; have f5 := HK2.out.frozen 5; have f6 := HK2.out.frozen 6; have f7 := HK2.out.frozen 7; have f8 := HK2.out.frozen 8; obtain ⟨g0, g1, g2, g3, g4, g5, g6, g7, g8⟩ := sys_cells HK2.out; clear hb2)
    obtain ⟨hk, hbb⟩ := store9 (e := 24) HK2.out (.int .i64 0) (.int .i64 0) (.int .i64 0) (.int .i64 0) (.int .i64 0) (.int .i64 0) (.int .i64 0) (.int .i64 0) (.slice none 0 0)
    generalize (((((((((w2.setCell ⟨w.heap.size, 0, none⟩ (.int .i64 0)).setCell ⟨w.heap.size, 1, none⟩ (.int .i64 0)).setCell ⟨w.heap.size, 2, none⟩ (.int .i64 0)).setCell ⟨w.heap.size, 3, none⟩ (.int .i64 0)).setCell ⟨w.heap.size, 4, none⟩ (.int .i64 0)).setCell ⟨w.heap.size, 5, none⟩ (.int .i64 0)).setCell ⟨w.heap.size, 6, none⟩ (.int .i64 0)).setCell ⟨w.heap.size, 7, none⟩ (.int .i64 0)).setCell ⟨w.heap.size, 8, none⟩ (.slice none 0 0)) = W at *
    obtain ⟨k0, k1, k2, k3, k4, k5, k6, k7, k8⟩ := sys_cells (s := sys0) hk
    refine bodyPost_ret (v := .tuple #[sysV sys0 none 0 0, .int .i64 (E : Int)]) (by simp [results, Try.results11, go_sem, sysV, sys0, k0, k1, k2, k3, k4, k5, k6, k7, k8]) rfl ?_
    exact ⟨none, 0, 0, by rw [HE.out] <;> rfl, (HB2.out).andThen hbb (fun k e => .inr (by unfold Just at e; omega)), by rw [HE.out]; exact OSy.none⟩
end Go.Proofs.Ytlkcelmamenhpaa
