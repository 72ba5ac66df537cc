/- The contract of the document's tasks. -/
import Derived.Test.YtlkcelmamenhpaaRE
import Derived.Deep.RegionLaw
namespace Go.Proofs.Ytlkcelmamenhpaa
open Go.ChangeShapes Go.WideShapes Go.ChangeAt Go.RowKit Go.Deep
/-- A slice of numbers that can be read, and cut. -/
structure Rn (w : World) (A : Option Addr) (n c : Nat) (ns : List Nat) : Prop where
  rl : Rl w A n (ofN ns)
  cap : n ≤ c
theorem Rn.no {w w' : World} {A : Option Addr} {n c : Nat} {ns : List Nat} (h : Rn w A n c ns) (hb : But No w w') : Rn w' A n c ns := ⟨h.rl.no hb, h.cap⟩
theorem Rn.len {w : World} {A : Option Addr} {n c : Nat} {ns : List Nat} (h : Rn w A n c ns) : ns.length = n := by
  have := h.rl.len
  unfold ofN at this
  rwa [List.length_map] at this
theorem Rn.at_ {w : World} {A : Option Addr} {n c : Nat} {ns : List Nat} (h : Rn w A n c ns) (hn : 0 < n) : ∃ b off, A = some ⟨b, off, none⟩ ∧ b < w.heap.size ∧ ∀ k, k < n → w.cell? ⟨b, off + k, none⟩ = some (.int .i64 ((ns.getD k 0 : Nat) : Int)) := by
  obtain ⟨b, off, e, hl, hc⟩ := h.rl.at_ hn
  refine ⟨b, off, e, hl, fun k hk => ?_⟩
  rw [hc k hk]
  have hk2 : k < ns.length := by rw [h.len]; exact hk
  simp [ofN, List.getD, List.getElem?_eq_getElem hk2]
theorem Rn.drop {w : World} {A : Option Addr} {n c k : Nat} {ns : List Nat} (h : Rn w A n c ns) (hk : k ≤ n) : Rn w (if c = k then A else A.map (·.add (k * 1))) (n - k) (c - k) (ns.drop k) :=
  ⟨by have := h.rl.drop hk h.cap; unfold ofN at this ⊢; rw [List.map_drop]; exact this, by have := h.cap; omega⟩
theorem reads_tsk1 (w : World) (a b c : Int) (v : Value) : Reads (w.alloc (.cells #[.int .i64 a, .int .i64 b, .int .i64 c, v] 39)) (w.heap.size + 1) 4 (some ⟨w.heap.size, 0, none⟩) 1 [.int .i64 a, .int .i64 b, .int .i64 c, v] :=
  ⟨rfl, fun _ => ⟨_, rfl, Nat.lt_succ_self _, World.news_of_block (cs := #[.int .i64 a, .int .i64 b, .int .i64 c, v]) (t := 39) (fr := (0, 0)) (Blk.new w _ _)⟩⟩
set_option maxRecDepth 100000 in
set_option maxHeartbeats 4000000 in
theorem rtasks_any (A : Option Addr) (n c k : Nat) (ns : List Nat) (w : World) (h : Rn w A n c ns) (hk : k ≤ 24) (hn : n ≤ 2000) : Calls Try.prog 26 #[.slice A n c, .int .i64 (k : Int)] w fun r w' =>
    But No w w' ∧ ((pTasks k ns).1 ≠ 0 → r = .returned (.tuple #[.slice none 0 0, .slice none 0 0, .int .i64 ((pTasks k ns).1 : Int)])) ∧
    ((pTasks k ns).1 = 0 → ∃ A' n' c' A2 n2 c2 L, r = .returned (.tuple #[.slice A' n' c', .slice A2 n2 c2, .int .i64 0]) ∧ L.map (·.1) = (pTasks k ns).2.1 ∧ L.length = n' ∧ Ot w w' (.slice A' n' c') L ∧ n2 = (pTasks k ns).2.2.length) := by
  have HR0 := Lib.hid h
  clear h
  obtain ⟨i0, hi0, hi1, hi2, hi3⟩ := info_parts info41
  have I0 : Hid (Try.prog.info? 41 = some i0 ∧ i0.zero = some (.agg #[.int .i64 0, .int .i64 0, .int .i64 0]) ∧ i0.size = 3 ∧ i0.bytes = 24) := ⟨hi0, hi1, hi2, hi3⟩
  clear hi0 hi1 hi2 hi3
  obtain ⟨i1, hi0, hi1, hi2, hi3⟩ := info_parts info39
  have I1 : Hid (Try.prog.info? 39 = some i1 ∧ i1.zero = some (.agg #[.int .i64 0, .int .i64 0, .int .i64 0, .slice none 0 0]) ∧ i1.size = 4 ∧ i1.bytes = 48) := ⟨hi0, hi1, hi2, hi3⟩
  clear hi0 hi1 hi2 hi3
  go_enter Try.func26, Try.ntmps26
  go_wp2
  go_loopw [0, 7, 8] (fun u v i wx => ∃ (A : Option Addr) (n c : Nat) (ms : List Nat) (A7 : Option Addr) (n7 c7 j : Nat) (L : List (Tsk × Value)), u = .slice A n c ∧ v = .slice A7 n7 c7 ∧ i = .int .i64 (j : Int) ∧ j ≤ k ∧ n ≤ 2000 ∧ n7 ≤ 24 ∧ Hid (n7 = j) ∧ Hid (L.length = n7) ∧ Hid (But No w wx) ∧ Hid (Rn w A n c ms) ∧ Hid (Ot w wx (.slice A7 n7 c7) L) ∧ Hid (Pt k ns (L.map (·.1)) (k - j) ms)) (fun _ _ i _ => k - (intOf i).toNat)
  case atStart => exact ⟨A, n, c, ns, none, 0, 0, 0, [], rfl, rfl, rfl, by omega, hn, by omega, rfl, rfl, But.refl _ _, HR0, Ot.nil, Pt.start k ns⟩
  case round =>
    obtain ⟨A, n, c, ms, A7, n7, c7, j, L, rfl, rfl, rfl, hj, hn2, hn7, HNJ, HL, HB, HR, HO, HP⟩ := hrel
    have HLN := Lib.hid HR.out.len
    have hcap := HR.out.cap
    by_cases hlt : j < k
    · have HP2 : Hid (Pt k ns (L.map (·.1)) (k - (j + 1) + 1) ms) := by rw [show k - (j + 1) + 1 = k - j by omega]; exact HP
      clear HP
      by_cases h4 : n < 4
      · have HE : Hid ((pTasks k ns).1 = 8) := by
          have he : tErr ms = 8 := by unfold tErr; rw [if_pos (by rw [HLN.out]; exact h4)]
          show _ = _
          rw [HP2.out.bad (by rw [he]; simp), he]
        go_wp2
        go_ret3
        exact ⟨HB.out, fun _ => by rw [HE.out]; rfl, fun h => absurd h (by rw [HE.out]; simp)⟩
      · obtain ⟨b, off, rfl, hb, hc⟩ := (HR.out.no HB.out).at_ (by omega)
        have hl0 := hc 0 (by omega)
        have hl1 := hc 1 (by omega)
        have hl2 := hc 2 (by omega)
        have hl3 := hc 3 (by omega)
        have HD : Hid (Rn w (if c = 4 then some ⟨b, off, none⟩ else (some (⟨b, off, none⟩ : Addr)).map (·.add (4 * 1))) (n - 4) (c - 4) (ms.drop 4)) := HR.out.drop (by omega)
        have hsl : ∀ W, (Instr.slice 44 (.slice (some ⟨b, off, none⟩) n c) (some (.int .i64 4)) none none).run Try.prog W = .ok (.slice (if c = 4 then some ⟨b, off, none⟩ else (some (⟨b, off, none⟩ : Addr)).map (·.add (4 * 1))) (n - 4) (c - 4)) W := fun W => slice_from (n := n) (k := 4) (c := c) (by omega) W
        generalize (if c = 4 then some (⟨b, off, none⟩ : Addr) else (some (⟨b, off, none⟩ : Addr)).map (·.add (4 * 1))) = A2 at *
        have hn4 : n - 4 ≤ 2000 := by omega
        have hcap2 : n - 4 ≤ c - 4 := by omega
        have HN4 : Hid (ms.length - 4 = n - 4) := by show _ = _; rw [HLN.out]
        generalize n - 4 = n4 at *
        generalize c - 4 = c4 at *
        have HTE : Hid (tErr ms = if 4 < ms.getD 3 0 then 7 else if n4 < 3 * ms.getD 3 0 then 8 else 0) := by show _ = _; unfold tErr; rw [if_neg (by rw [HLN.out]; exact h4), HN4.out]
        have HTA : Hid (tAt ms = ⟨(ms.getD 0 0 : Nat), (ms.getD 1 0 : Nat), (ms.getD 2 0 : Nat), pSecs (ms.getD 3 0) (ms.drop 4)⟩) := rfl
        have HTR : Hid (tRest ms = (ms.drop 4).drop (3 * ms.getD 3 0)) := by show _ = _; unfold tRest; rw [List.drop_drop]
        generalize ms.getD 0 0 = x0 at *
        generalize ms.getD 1 0 = x1 at *
        generalize ms.getD 2 0 = x2 at *
        generalize ms.getD 3 0 = q at *
        simp only [Nat.add_zero] at hl0
        clear hc
        have hd4 : decide ((n : Int) < 4) = false := by simp; omega
        go_wp2_with fail
        go_region
        obtain ⟨w9, hw9, hb9, hk9⟩ : ∃ w9, (wr.alloc (.cells #[.int .i64 (x0 : Int), .int .i64 (x1 : Int), .int .i64 (x2 : Int), .slice none 0 0] 39)).drew = w9 ∧ But No wr w9 ∧ Blk w9 wr.heap.size #[.int .i64 (x0 : Int), .int .i64 (x1 : Int), .int .i64 (x2 : Int), .slice none 0 0] 39 := ⟨_, rfl, ((But.refl _ _).alloc _).drew, Blk.new wr _ _⟩
        rw [hw9]
        have HB9 := Lib.hid hb9
        have HK9 := Lib.hid hk9
        have hl3' := cell_keep hl3 hb9
        clear hw9 hb9 hk9 hl0 hl1 hl2 hl3
        by_cases h5 : 4 < q
        · have HE : Hid ((pTasks k ns).1 = 7) := by
            have he : tErr ms = 7 := by rw [HTE.out, if_pos h5]
            show _ = _
            rw [HP2.out.bad (by rw [he]; simp), he]
          go_wp2
          go_ret3
          exact ⟨HB.out.trans HB9.out, fun _ => by rw [HE.out]; rfl, fun h => absurd h (by rw [HE.out]; simp)⟩
        · have hd5 : decide ((4 : Int) < (q : Int)) = false := by simp; omega
          by_cases h6 : n4 < 3 * q
          · have HE : Hid ((pTasks k ns).1 = 8) := by
              have he : tErr ms = 8 := by rw [HTE.out, if_neg h5, if_pos h6]
              show _ = _
              rw [HP2.out.bad (by rw [he]; simp), he]
            go_wp2
            go_ret3
            exact ⟨HB.out.trans HB9.out, fun _ => by rw [HE.out]; rfl, fun h => absurd h (by rw [HE.out]; simp)⟩
          · have he : tErr ms = 0 := by rw [HTE.out, if_neg h5, if_neg h6]
            have HP3 := Lib.hid (HP2.out.next he)
            clear HP2 he HTE
            have hd6 : decide ((n4 : Int) < 3 * (q : Int)) = false := by simp; omega
            go_wp2
            have HZ9 : Hid (wr.heap.size < w9.heap.size) := HK9.out.lt
            clear hl3' hd6 hd5 hd4
            obtain ⟨jj, hjj⟩ : ∃ jj, jj = j := ⟨_, rfl⟩
            rw [← hjj] at hlt hj HP3 HNJ ⊢
            have HJJ := Lib.hid hjj
            clear hjj
            obtain ⟨ms4, hms4⟩ : ∃ ms4, ms4 = ms.drop 4 := ⟨_, rfl⟩
            rw [← hms4] at HD HTA HTR
            clear hms4
            generalize hbt : wr.heap.size = bt at HK9 HZ9 ⊢
            have HBT := Lib.hid hbt
            clear hbt
            go_loopw [0, 11] (fun u i wx => ∃ (A' : Option Addr) (n' c' j2 : Nat) (A3 : Option Addr) (c3 : Nat), u = .slice A' n' c' ∧ i = .int .i64 (j2 : Int) ∧ j2 ≤ q ∧ n' ≤ 2000 ∧ 3 * (q - j2) ≤ n' ∧ Hid (Rn w A' n' c' (ms4.drop (3 * j2))) ∧ Hid (But No wr wx) ∧ Hid (w9.heap.size ≤ wx.heap.size) ∧ Hid (Blk wx bt #[.int .i64 (x0 : Int), .int .i64 (x1 : Int), .int .i64 (x2 : Int), .slice A3 j2 c3] 39) ∧ Hid (Os w9 wx (.slice A3 j2 c3) (pSecs j2 ms4))) (fun _ i _ => q - (intOf i).toNat)
            case atStart => exact ⟨A2, n4, c4, 0, none, 0, rfl, rfl, by omega, hn4, by omega, HD, HB9, Nat.le_refl _, HK9, Os.nil⟩
            case round =>
              obtain ⟨A', n', c', j2, A3, c3, rfl, rfl, hj2, hn', h3q, HRI, HBI, HZI, HKI, HOI⟩ := hrel
              have HWR := Lib.hid (HB.out.trans HBI.out)
              by_cases hlt2 : j2 < q
              · obtain ⟨b5, off5, rfl, hb5, hc5⟩ := (HRI.out.no HWR.out).at_ (by omega)
                have hl0 := hc5 0 (by omega)
                have hl1 := hc5 1 (by omega)
                have hl2 := hc5 2 (by omega)
                have hcap5 := HRI.out.cap
                have HD5 : Hid (Rn w (if c' = 3 then some ⟨b5, off5, none⟩ else (some (⟨b5, off5, none⟩ : Addr)).map (·.add (3 * 1))) (n' - 3) (c' - 3) ((ms4.drop (3 * j2)).drop 3)) := HRI.out.drop (by omega)
                have hsl : ∀ W, (Instr.slice 44 (.slice (some ⟨b5, off5, none⟩) n' c') (some (.int .i64 3)) none none).run Try.prog W = .ok (.slice (if c' = 3 then some ⟨b5, off5, none⟩ else (some (⟨b5, off5, none⟩ : Addr)).map (·.add (3 * 1))) (n' - 3) (c' - 3)) W := fun W => slice_from (n := n') (k := 3) (c := c') (by omega) W
                generalize (if c' = 3 then some (⟨b5, off5, none⟩ : Addr) else (some (⟨b5, off5, none⟩ : Addr)).map (·.add (3 * 1))) = A6 at *
                have hn6 : n' - 3 ≤ 2000 := by omega
                have h3q6 : 3 * (q - (j2 + 1)) ≤ n' - 3 := by omega
                rw [List.drop_drop, show 3 * j2 + 3 = 3 * (j2 + 1) by omega] at HD5
                have h3n : 3 ≤ n' := by omega
                generalize n' - 3 = n6 at *
                generalize c' - 3 = c6 at *
                have HSN := Lib.hid (pSecs_snoc j2 ms4)
                unfold secAt at HSN
                generalize (ms4.drop (3 * j2)).getD 0 0 = y0 at *
                generalize (ms4.drop (3 * j2)).getD 1 0 = y1 at *
                generalize (ms4.drop (3 * j2)).getD 2 0 = y2 at *
                simp only [Nat.add_zero] at hl0
                clear hc5
                have hk3 : wr.cell? ⟨bt, 3, none⟩ = some (.slice A3 j2 c3) := HKI.out.cell (o := 3) rfl
                have hk3a : (wr.alloc (.cells #[.int .i64 (y0 : Int), .int .i64 (y1 : Int), .int .i64 (y2 : Int)] 41)).cell? ⟨bt, 3, none⟩ = some (.slice A3 j2 c3) := cell_keep hk3 ((But.refl No wr).alloc _)
                have HNE : Hid (¬ OB (.slice A3 j2 c3) bt) := fun f => by
                  have h1 := HOI.out.new bt f
                  have h2 := HZ9.out
                  omega
                have ROW : Hid ((wr.drew.alloc (.cells #[.int .i64 (y0 : Int), .int .i64 (y1 : Int), .int .i64 (y2 : Int)] 41)).ownsRow 0 41 3 (.slice A3 j2 c3) j2 ((pSecs j2 ms4).flatMap secC)) := (HOI.out.but (S := No) ((But.refl _ _).drew.alloc _) (fun _ _ f => f)).row (pSecs_len j2 ms4)
                have hd3 : decide ((n' : Int) < 3) = false := by simp; omega
                have h0n : 0 < n' := by omega
                have h0i : (0 : Int) < (n' : Int) := by omega
                have h1i : (1 : Int) < (n' : Int) := by omega
                have h2i : (2 : Int) < (n' : Int) := by omega
                have h1n : 1 < n' := by omega
                have h2n : 2 < n' := by omega
                have hj4 : j2 ≤ 4 := by omega
                have HA : Hid (∀ A5 c5 w5, w5.ownsRow 0 41 3 (.slice A5 (j2 + 1) c5) (j2 + 1) ((pSecs j2 ms4).flatMap secC ++ [.int .i64 (y0 : Int), .int .i64 (y1 : Int), .int .i64 (y2 : Int)]) → (wr.drew.alloc (.cells #[.int .i64 (y0 : Int), .int .i64 (y1 : Int), .int .i64 (y2 : Int)] 41)).grownBy w5 (Value.slice A3 j2 c3).ownBlock → ((Value.slice A5 (j2 + 1) c5).ownBlock = (Value.slice A3 j2 c3).ownBlock ∨ (Value.slice A5 (j2 + 1) c5).ownBlock = some (wr.drew.alloc (.cells #[.int .i64 (y0 : Int), .int .i64 (y1 : Int), .int .i64 (y2 : Int)] 41)).heap.size) →
                    Blk w5 bt #[.int .i64 (x0 : Int), .int .i64 (x1 : Int), .int .i64 (x2 : Int), .slice A3 j2 c3] 39 ∧ But (OB (.slice A3 j2 c3)) wr w5 ∧ Os w9 w5 (.slice A5 (j2 + 1) c5) (pSecs (j2 + 1) ms4) ∧ (Value.slice A5 (j2 + 1) c5).ownBlock ≠ some bt) := fun A5 c5 w5 ho hg hat => by
                  have hb := ((But.refl (OB (.slice A3 j2 c3)) wr).drew.alloc (.cells #[.int .i64 (y0 : Int), .int .i64 (y1 : Int), .int .i64 (y2 : Int)] 41)).grown hg (fun _ e => .inl e)
                  refine ⟨HKI.out.but hb HNE.out, hb, ?_, ?_⟩
                  · rw [HSN.out]
                    exact HOI.out.app (pSecs_len j2 ms4) (by have := HZI.out; simp; omega) ho hat
                  · rcases hat with e | e
                    · rw [e]; exact HNE.out
                    · rw [e]; intro f
                      have h1 := HKI.out.lt
                      simp at f
                      omega
                go_wp2_with fail
                have KN : Hid (∀ w2, But (fun k => OB (.slice A3 j2 c3) k ∨ k = bt) wr w2 → w2.cell? ⟨b5, off5, none⟩ = some (.int .i64 (y0 : Int)) ∧ w2.cell? ⟨b5, off5 + 1, none⟩ = some (.int .i64 (y1 : Int)) ∧ w2.cell? ⟨b5, off5 + 2, none⟩ = some (.int .i64 (y2 : Int)) ∧ But (fun k => OB (.slice A3 j2 c3) k ∨ k = bt) wr w2) := fun w2 hb2 => by
                  have hb6 : b5 < w.heap.size := by
                    obtain ⟨b6, off6, e6, hl6, _⟩ := HRI.out.at_ (by omega)
                    cases e6
                    exact hl6
                  have hbw := HB.out.size
                  have hn : ¬ (OB (.slice A3 j2 c3) b5 ∨ b5 = bt) := fun f => by
                    rcases f with f | f
                    · have h1 := HOI.out.new b5 f
                      have h2 := HZ9.out
                      have h3 := HBT.out
                      omega
                    · have h3 := HBT.out
                      omega
                  exact ⟨cell_but hl0 hb2 hn, cell_but hl1 hb2 hn, cell_but hl2 hb2 hn, hb2⟩
                refine wp_region_held_drew (S := (fun w' => w'.cell? ⟨b5, off5, none⟩ = some (.int .i64 (y0 : Int)) ∧ w'.cell? ⟨b5, off5 + 1, none⟩ = some (.int .i64 (y1 : Int)) ∧ w'.cell? ⟨b5, off5 + 2, none⟩ = some (.int .i64 (y2 : Int)) ∧ But (fun k => OB (.slice A3 j2 c3) k ∨ k = bt) wr w')) (by kernel_rfl) (KN.out _ ((But.refl _ _).drew)) (fun hHeld => ?_)
                refine wpAnyH_take (i := 0) (oi := { dst := some 47, op := Op.fieldAddr 39 (Operand.tmp 9) 3, type := 0, pos := "ref.go:65", after := #[], guard := none }) (v := .pointer (some ⟨bt, 3, none⟩)) rfl (by kernel_rfl) (by kernel_rfl) (by kernel_rfl) (fun _ _ _ h => h) (Or.inl ⟨by rfl, ?_⟩) (by assumption) ?_
                · intro w hSw
                  try dsimp only at hSw
                  go_simp
                simp only [Act.put, List.setIfInBounds_toArray, List.set_cons_zero, List.set_cons_succ]
                refine wpAnyH_take (i := 2) (oi := { dst := some 49, op := Op.move (Operand.tmp 0), type := 44, pos := "ref.go:65", after := #[], guard := none }) (v := .slice (some ⟨b5, off5, none⟩) n' c') rfl (by kernel_rfl) (by kernel_rfl) (by kernel_rfl) (fun _ _ _ h => h) (Or.inl ⟨by rfl, ?_⟩) (by assumption) ?_
                · intro w hSw
                  try dsimp only at hSw
                  go_simp
                simp only [Act.put, List.setIfInBounds_toArray, List.set_cons_zero, List.set_cons_succ]
                refine wpAnyH_take (i := 3) (oi := { dst := some 50, op := Op.indexAddr 44 (Operand.tmp 49) (Operand.const (Value.int IntKind.i64 0)), type := 0, pos := "ref.go:65", after := #[{ on := 2, ground := Ground.data }], guard := none }) (v := .pointer (some ⟨b5, off5, none⟩)) rfl (by kernel_rfl) (by kernel_rfl) (by kernel_rfl) (fun _ _ _ h => h) (Or.inl ⟨by rfl, ?_⟩) (by assumption) ?_
                · intro w hSw
                  try dsimp only at hSw
                  go_simp
                simp only [Act.put, List.setIfInBounds_toArray, List.set_cons_zero, List.set_cons_succ]
                refine wpAnyH_take (i := 4) (oi := { dst := some 51, op := Op.load 3 (Operand.tmp 50), type := 3, pos := "ref.go:65", after := #[{ on := 3, ground := Ground.data }], guard := none }) (v := .int .i64 (y0 : Int)) rfl (by kernel_rfl) (by kernel_rfl) (by kernel_rfl) (fun _ _ _ h => h) (Or.inl ⟨by rfl, ?_⟩) (by assumption) ?_
                · intro w hSw
                  try dsimp only at hSw
                  go_simp
                simp only [Act.put, List.setIfInBounds_toArray, List.set_cons_zero, List.set_cons_succ]
                refine wpAnyH_take (i := 5) (oi := { dst := some 52, op := Op.move (Operand.tmp 0), type := 44, pos := "ref.go:65", after := #[], guard := none }) (v := .slice (some ⟨b5, off5, none⟩) n' c') rfl (by kernel_rfl) (by kernel_rfl) (by kernel_rfl) (fun _ _ _ h => h) (Or.inl ⟨by rfl, ?_⟩) (by assumption) ?_
                · intro w hSw
                  try dsimp only at hSw
                  go_simp
                simp only [Act.put, List.setIfInBounds_toArray, List.set_cons_zero, List.set_cons_succ]
                refine wpAnyH_take (i := 6) (oi := { dst := some 53, op := Op.indexAddr 44 (Operand.tmp 52) (Operand.const (Value.int IntKind.i64 1)), type := 0, pos := "ref.go:65", after := #[{ on := 5, ground := Ground.data }], guard := none }) (v := .pointer (some ⟨b5, off5 + 1, none⟩)) rfl (by kernel_rfl) (by kernel_rfl) (by kernel_rfl) (fun _ _ _ h => h) (Or.inl ⟨by rfl, ?_⟩) (by assumption) ?_
                · intro w hSw
                  try dsimp only at hSw
                  go_simp
                simp only [Act.put, List.setIfInBounds_toArray, List.set_cons_zero, List.set_cons_succ]
                refine wpAnyH_take (i := 7) (oi := { dst := some 54, op := Op.load 3 (Operand.tmp 53), type := 3, pos := "ref.go:65", after := #[{ on := 6, ground := Ground.data }], guard := none }) (v := .int .i64 (y1 : Int)) rfl (by kernel_rfl) (by kernel_rfl) (by kernel_rfl) (fun _ _ _ h => h) (Or.inl ⟨by rfl, ?_⟩) (by assumption) ?_
                · intro w hSw
                  try dsimp only at hSw
                  go_simp
                simp only [Act.put, List.setIfInBounds_toArray, List.set_cons_zero, List.set_cons_succ]
                refine wpAnyH_take (i := 8) (oi := { dst := some 55, op := Op.move (Operand.tmp 0), type := 44, pos := "ref.go:65", after := #[], guard := none }) (v := .slice (some ⟨b5, off5, none⟩) n' c') rfl (by kernel_rfl) (by kernel_rfl) (by kernel_rfl) (fun _ _ _ h => h) (Or.inl ⟨by rfl, ?_⟩) (by assumption) ?_
                · intro w hSw
                  try dsimp only at hSw
                  go_simp
                simp only [Act.put, List.setIfInBounds_toArray, List.set_cons_zero, List.set_cons_succ]
                refine wpAnyH_take (i := 9) (oi := { dst := some 56, op := Op.indexAddr 44 (Operand.tmp 55) (Operand.const (Value.int IntKind.i64 2)), type := 0, pos := "ref.go:65", after := #[{ on := 8, ground := Ground.data }], guard := none }) (v := .pointer (some ⟨b5, off5 + 2, none⟩)) rfl (by kernel_rfl) (by kernel_rfl) (by kernel_rfl) (fun _ _ _ h => h) (Or.inl ⟨by rfl, ?_⟩) (by assumption) ?_
                · intro w hSw
                  try dsimp only at hSw
                  go_simp
                simp only [Act.put, List.setIfInBounds_toArray, List.set_cons_zero, List.set_cons_succ]
                refine wpAnyH_take (i := 10) (oi := { dst := some 57, op := Op.load 3 (Operand.tmp 56), type := 3, pos := "ref.go:65", after := #[{ on := 9, ground := Ground.data }], guard := none }) (v := .int .i64 (y2 : Int)) rfl (by kernel_rfl) (by kernel_rfl) (by kernel_rfl) (fun _ _ _ h => h) (Or.inl ⟨by rfl, ?_⟩) (by assumption) ?_
                · intro w hSw
                  try dsimp only at hSw
                  go_simp
                simp only [Act.put, List.setIfInBounds_toArray, List.set_cons_zero, List.set_cons_succ]
                refine wpAnyH_take (i := 11) (oi := { dst := some 58, op := Op.build 41 #[(0, Operand.tmp 51), (1, Operand.tmp 54), (2, Operand.tmp 57)], type := 41, pos := "ref.go:65", after := #[{ on := 4, ground := Ground.data }, { on := 7, ground := Ground.data }, { on := 10, ground := Ground.data }], guard := none }) (v := .agg #[.int .i64 (y0 : Int), .int .i64 (y1 : Int), .int .i64 (y2 : Int)]) rfl (by kernel_rfl) (by kernel_rfl) (by kernel_rfl) (fun _ _ _ h => h) (Or.inl ⟨by rfl, ?_⟩) (by assumption) ?_
                · intro w hSw
                  try dsimp only at hSw
                  go_simp
                simp only [Act.put, List.setIfInBounds_toArray, List.set_cons_zero, List.set_cons_succ]
                refine wpAnyH_ready (rs := [1, 12]) (by kernel_rfl) (by simp) ?_
                refine AllReadyH.cons (o := { dst := some 48, op := Op.load 37 (Operand.tmp 47), type := 37, pos := "ref.go:65", after := #[{ on := 0, ground := Ground.data }], guard := none }) rfl (fun K hK => ?_) ?_
                · go_simp
                  refine hK.out _ _ (KN.out _ ((But.refl _ _).drew)) (fun hHeld => ?_)
                  clear hK K
                  try simp only [Act.put, List.setIfInBounds_toArray, List.set_cons_zero, List.set_cons_succ]
                  refine wpAnyH_ready (rs := [12]) (by kernel_rfl) (by simp) ?_
                  refine AllReadyH.cons (o := { dst := some 59, op := Op.buildSlice 37 1 #[(0, Operand.tmp 58)], type := 37, pos := "ref.go:65", after := #[{ on := 11, ground := Ground.data }], guard := none }) rfl (fun K hK => ?_) AllReadyH.nil
                  go_simp
                  refine hK.out _ _ (KN.out _ (((But.refl _ _).drew).alloc _)) (fun hHeld => ?_)
                  clear hK K
                  try simp only [Act.put, List.setIfInBounds_toArray, List.set_cons_zero, List.set_cons_succ]
                  refine wpAnyH_ready (rs := [13]) (by kernel_rfl) (by simp) ?_
                  refine AllReadyH.cons (o := { dst := some 60, op := Op.call { callee := Callee.builtin Builtin.append, args := #[Operand.tmp 48, Operand.tmp 59], argTypes := #[37, 37] }, type := 37, pos := "ref.go:65", after := #[{ on := 1, ground := Ground.data }, { on := 12, ground := Ground.data }], guard := none }) rfl (fun K hK => ?_) AllReadyH.nil
                  refine step_append_sh rfl _ _ 37 rfl 41 i0 _ 3 24 Try.underlying37 I0.out.1 I0.out.2.1 I0.out.2.2.1 I0.out.2.2.2 rfl (by omega) (.slice A3 j2 c3) j2 _ (by simp [Act.eval]) ROW.out (wr.heap.size + 1) (some ⟨wr.heap.size, 0, none⟩) 1 1 [.int .i64 (y0 : Int), .int .i64 (y1 : Int), .int .i64 (y2 : Int)] (by simp [Act.eval]) (reads_sec wr.drew _ _ _) (cells3 _ _ _) (by unfold maxLen; omega) (by omega) ?_; intro A5 c5 w5 hown hgrow hat; obtain ⟨hr1, hr2, hr3, hr4⟩ := HA.out A5 c5 w5 hown.out hgrow.out hat.out; have HR1 := Lib.hid hr1; have HR2 := Lib.hid hr2; have HR3 := Lib.hid hr3; have HR4 := Lib.hid hr4; have hk5 : w5.cell? ⟨bt, 3, none⟩ = some (.slice A3 j2 c3) := hr1.cell rfl; have hf5 := hr1.frozen 3; clear hown hgrow hat hr1 hr2 hr3 hr4
                  refine hK.out _ _ (KN.out _ (HR2.out.mono (fun _ _ e => .inl e))) (fun hHeld => ?_)
                  clear hK K
                  try simp only [Act.put, List.setIfInBounds_toArray, List.set_cons_zero, List.set_cons_succ]
                  refine wpAnyH_take (i := 14) (oi := { dst := some 61, op := Op.fieldAddr 39 (Operand.tmp 9) 3, type := 0, pos := "ref.go:65", after := #[{ on := 0, ground := Ground.phase }, { on := 1, ground := Ground.phase }, { on := 2, ground := Ground.phase }, { on := 3, ground := Ground.phase }, { on := 4, ground := Ground.phase }, { on := 5, ground := Ground.phase }, { on := 6, ground := Ground.phase }, { on := 7, ground := Ground.phase }, { on := 8, ground := Ground.phase }, { on := 9, ground := Ground.phase }, { on := 10, ground := Ground.phase }, { on := 11, ground := Ground.phase }, { on := 12, ground := Ground.phase }, { on := 13, ground := Ground.phase }], guard := none }) (v := .pointer (some ⟨bt, 3, none⟩)) rfl (by kernel_rfl) (by kernel_rfl) (by kernel_rfl) (fun _ _ _ h => h) (Or.inl ⟨by rfl, ?_⟩) (by assumption) ?_
                  · intro w hSw
                    try dsimp only at hSw
                    go_simp
                  simp only [Act.put, List.setIfInBounds_toArray, List.set_cons_zero, List.set_cons_succ]
                  refine wpAnyH_ready (rs := [15]) (by kernel_rfl) (by simp) ?_
                  refine AllReadyH.cons (o := { dst := none, op := Op.store 37 (Operand.tmp 61) (Operand.tmp 60), type := 0, pos := "ref.go:65", after := #[{ on := 14, ground := Ground.data }, { on := 13, ground := Ground.data }, { on := 13, ground := Ground.chain }, { on := 0, ground := Ground.phase }, { on := 1, ground := Ground.phase }, { on := 2, ground := Ground.phase }, { on := 3, ground := Ground.phase }, { on := 4, ground := Ground.phase }, { on := 5, ground := Ground.phase }, { on := 6, ground := Ground.phase }, { on := 7, ground := Ground.phase }, { on := 8, ground := Ground.phase }, { on := 9, ground := Ground.phase }, { on := 10, ground := Ground.phase }, { on := 11, ground := Ground.phase }, { on := 12, ground := Ground.phase }, { on := 13, ground := Ground.phase }], guard := none }) rfl (fun K hK => ?_) AllReadyH.nil
                  go_simp
                  refine hK.out _ _ (KN.out _ ((HR2.out.mono (fun _ _ e => .inl e)).setCell (.inr rfl) _)) (fun hHeld => ?_)
                  clear hK K
                  try simp only [Act.put, List.setIfInBounds_toArray, List.set_cons_zero, List.set_cons_succ]
                  refine wpAnyH_done (by kernel_rfl) ?_ _
                  go_wp2
                  go_roundw
                  case rel =>
                    refine ⟨A6, n6, c6, j2 + 1, A5, c5, rfl, by go_num, by omega, hn6, h3q6, HD5, ?_, ?_, HR1.out.set 3 _, ?_⟩
                    · exact (HBI.out.andThen HR2.out (fun k e => .inr (by have h1 := HOI.out.new k e; have h2 := HZ9.out; have h3 := HBT.out; omega))).setNew (by have h3 := HBT.out; show _ ≤ bt; omega) _
                    · have h1 := HZI.out
                      have h2 := HR2.out.size
                      show _ ≤ _
                      simp [World.setCell]; omega
                    · exact HR3.out.but (S := Just bt) ((But.refl _ _).setCell (just bt) _) (fun j e f => HR4.out (by unfold Just at f; rw [← f]; exact e))
                  case measure => simp [intOf]; omega
                · refine AllReadyH.cons (o := { dst := some 59, op := Op.buildSlice 37 1 #[(0, Operand.tmp 58)], type := 37, pos := "ref.go:65", after := #[{ on := 11, ground := Ground.data }], guard := none }) rfl (fun K hK => ?_) AllReadyH.nil
                  go_simp
                  refine hK.out _ _ (KN.out _ (((But.refl _ _).drew).alloc _)) (fun hHeld => ?_)
                  clear hK K
                  try simp only [Act.put, List.setIfInBounds_toArray, List.set_cons_zero, List.set_cons_succ]
                  refine wpAnyH_ready (rs := [1]) (by kernel_rfl) (by simp) ?_
                  refine AllReadyH.cons (o := { dst := some 48, op := Op.load 37 (Operand.tmp 47), type := 37, pos := "ref.go:65", after := #[{ on := 0, ground := Ground.data }], guard := none }) rfl (fun K hK => ?_) AllReadyH.nil
                  go_simp
                  refine hK.out _ _ (KN.out _ (((But.refl _ _).drew).alloc _)) (fun hHeld => ?_)
                  clear hK K
                  try simp only [Act.put, List.setIfInBounds_toArray, List.set_cons_zero, List.set_cons_succ]
                  refine wpAnyH_ready (rs := [13]) (by kernel_rfl) (by simp) ?_
                  refine AllReadyH.cons (o := { dst := some 60, op := Op.call { callee := Callee.builtin Builtin.append, args := #[Operand.tmp 48, Operand.tmp 59], argTypes := #[37, 37] }, type := 37, pos := "ref.go:65", after := #[{ on := 1, ground := Ground.data }, { on := 12, ground := Ground.data }], guard := none }) rfl (fun K hK => ?_) AllReadyH.nil
                  refine step_append_sh rfl _ _ 37 rfl 41 i0 _ 3 24 Try.underlying37 I0.out.1 I0.out.2.1 I0.out.2.2.1 I0.out.2.2.2 rfl (by omega) (.slice A3 j2 c3) j2 _ (by simp [Act.eval]) ROW.out (wr.heap.size + 1) (some ⟨wr.heap.size, 0, none⟩) 1 1 [.int .i64 (y0 : Int), .int .i64 (y1 : Int), .int .i64 (y2 : Int)] (by simp [Act.eval]) (reads_sec wr.drew _ _ _) (cells3 _ _ _) (by unfold maxLen; omega) (by omega) ?_; intro A5 c5 w5 hown hgrow hat; obtain ⟨hr1, hr2, hr3, hr4⟩ := HA.out A5 c5 w5 hown.out hgrow.out hat.out; have HR1 := Lib.hid hr1; have HR2 := Lib.hid hr2; have HR3 := Lib.hid hr3; have HR4 := Lib.hid hr4; have hk5 : w5.cell? ⟨bt, 3, none⟩ = some (.slice A3 j2 c3) := hr1.cell rfl; have hf5 := hr1.frozen 3; clear hown hgrow hat hr1 hr2 hr3 hr4
                  refine hK.out _ _ (KN.out _ (HR2.out.mono (fun _ _ e => .inl e))) (fun hHeld => ?_)
                  clear hK K
                  try simp only [Act.put, List.setIfInBounds_toArray, List.set_cons_zero, List.set_cons_succ]
                  refine wpAnyH_take (i := 14) (oi := { dst := some 61, op := Op.fieldAddr 39 (Operand.tmp 9) 3, type := 0, pos := "ref.go:65", after := #[{ on := 0, ground := Ground.phase }, { on := 1, ground := Ground.phase }, { on := 2, ground := Ground.phase }, { on := 3, ground := Ground.phase }, { on := 4, ground := Ground.phase }, { on := 5, ground := Ground.phase }, { on := 6, ground := Ground.phase }, { on := 7, ground := Ground.phase }, { on := 8, ground := Ground.phase }, { on := 9, ground := Ground.phase }, { on := 10, ground := Ground.phase }, { on := 11, ground := Ground.phase }, { on := 12, ground := Ground.phase }, { on := 13, ground := Ground.phase }], guard := none }) (v := .pointer (some ⟨bt, 3, none⟩)) rfl (by kernel_rfl) (by kernel_rfl) (by kernel_rfl) (fun _ _ _ h => h) (Or.inl ⟨by rfl, ?_⟩) (by assumption) ?_
                  · intro w hSw
                    try dsimp only at hSw
                    go_simp
                  simp only [Act.put, List.setIfInBounds_toArray, List.set_cons_zero, List.set_cons_succ]
                  refine wpAnyH_ready (rs := [15]) (by kernel_rfl) (by simp) ?_
                  refine AllReadyH.cons (o := { dst := none, op := Op.store 37 (Operand.tmp 61) (Operand.tmp 60), type := 0, pos := "ref.go:65", after := #[{ on := 14, ground := Ground.data }, { on := 13, ground := Ground.data }, { on := 13, ground := Ground.chain }, { on := 0, ground := Ground.phase }, { on := 1, ground := Ground.phase }, { on := 2, ground := Ground.phase }, { on := 3, ground := Ground.phase }, { on := 4, ground := Ground.phase }, { on := 5, ground := Ground.phase }, { on := 6, ground := Ground.phase }, { on := 7, ground := Ground.phase }, { on := 8, ground := Ground.phase }, { on := 9, ground := Ground.phase }, { on := 10, ground := Ground.phase }, { on := 11, ground := Ground.phase }, { on := 12, ground := Ground.phase }, { on := 13, ground := Ground.phase }], guard := none }) rfl (fun K hK => ?_) AllReadyH.nil
                  go_simp
                  refine hK.out _ _ (KN.out _ ((HR2.out.mono (fun _ _ e => .inl e)).setCell (.inr rfl) _)) (fun hHeld => ?_)
                  clear hK K
                  try simp only [Act.put, List.setIfInBounds_toArray, List.set_cons_zero, List.set_cons_succ]
                  refine wpAnyH_done (by kernel_rfl) ?_ _
                  go_wp2
                  go_roundw
                  case rel =>
                    refine ⟨A6, n6, c6, j2 + 1, A5, c5, rfl, by go_num, by omega, hn6, h3q6, HD5, ?_, ?_, HR1.out.set 3 _, ?_⟩
                    · exact (HBI.out.andThen HR2.out (fun k e => .inr (by have h1 := HOI.out.new k e; have h2 := HZ9.out; have h3 := HBT.out; omega))).setNew (by have h3 := HBT.out; show _ ≤ bt; omega) _
                    · have h1 := HZI.out
                      have h2 := HR2.out.size
                      show _ ≤ _
                      simp [World.setCell]; omega
                    · exact HR3.out.but (S := Just bt) ((But.refl _ _).setCell (just bt) _) (fun j e f => HR4.out (by unfold Just at f; rw [← f]; exact e))
                  case measure => simp [intOf]; omega
              · have hq2 : j2 = q := by omega
                have HQ2 := Lib.hid hq2
                have k0 : wr.cell? ⟨bt, 0, none⟩ = some (.int .i64 (x0 : Int)) := HKI.out.cell rfl
                have k1 : wr.cell? ⟨bt, 1, none⟩ = some (.int .i64 (x1 : Int)) := HKI.out.cell rfl
                have k2 : wr.cell? ⟨bt, 2, none⟩ = some (.int .i64 (x2 : Int)) := HKI.out.cell rfl
                have k3 : wr.cell? ⟨bt, 3, none⟩ = some (.slice A3 j2 c3) := HKI.out.cell rfl
                clear hq2
                have HOT := Lib.hid (HO.out.but HBI.out (fun _ f => f.elim))
                have ROW := Lib.hid (HOT.out.row HL.out)
                go_wp2_with (at_builtin; refine wpList_append_sh _ rfl _ _ 22 rfl 39 i1 _ 4 48 Try.underlying22 I1.out.1 I1.out.2.1 I1.out.2.2.1 I1.out.2.2.2 rfl (by omega) (.slice A7 n7 c7) n7 _ rfl (ROW.out.alloc _) (wr.heap.size + 1) (some ⟨wr.heap.size, 0, none⟩) 1 1 [.int .i64 (x0 : Int), .int .i64 (x1 : Int), .int .i64 (x2 : Int), .slice A3 j2 c3] rfl (reads_tsk1 wr _ _ _ _) (cells_tsk _ _ _ _ _ _) (by unfold maxLen; omega) (by omega) ?_; intro A5 c5 w5 hown hgrow hat; have HG := Lib.hid hgrow; have HAT := Lib.hid hat; have HOW := Lib.hid hown; clear hown hgrow hat)
                go_roundw
                case rel =>
                  have hsl := pSecs_len q ms4
                  refine ⟨A', n', c', tRest ms, A5, n7 + 1, c5, jj + 1, L ++ [(tAt ms, .slice A3 j2 c3)], rfl, rfl, by go_num, by omega, hn', by have := HNJ.out; omega, by have := HNJ.out; show _ = _; omega, by show _ = _; rw [List.length_append, HL.out]; rfl, ?_, ?_, ?_, ?_⟩
                  · exact (HWR.out.alloc _).grown HG.out (fun k e => .inr (HOT.out.new k e))
                  · have := HRI.out
                    rw [HQ2.out, ← HTR.out] at this
                    exact this
                  · have hz := HB.out.size
                    have hbt := HBT.out
                    have h9 := HZ9.out
                    refine HOT.out.app (x := (tAt ms, .slice A3 j2 c3)) HL.out ((But.refl _ _).alloc _) HWR.out.size ?_ ?_ ?_ HG.out HAT.out
                    · rw [HTA.out]
                      have := HOI.out
                      rw [HQ2.out] at this ⊢
                      exact this.start (by omega)
                    · intro i e f
                      have h1 := HOI.out.new i e
                      have h2 := (HO.out.own.lt i f).2
                      omega
                    · have := HOW.out
                      rw [HTA.out]
                      exact this
                  · have := HP3.out
                    show Pt _ _ _ _ _
                    rw [List.map_append]
                    exact this
                case measure =>
                  have := HJJ.out
                  simp [intOf]; omega
    · have HP2 : Hid (Pt k ns (L.map (·.1)) 0 ms) := by rw [show 0 = k - j by omega]; exact HP
      obtain ⟨d1, d2, d3⟩ := HP2.out.done
      have HD1 := Lib.hid d1
      have HD2 := Lib.hid d2
      have HD3 := Lib.hid d3
      clear d1 d2 d3
      go_wp2
      go_ret3
      exact ⟨HB.out, fun h => absurd HD1.out h, fun _ => ⟨A7, n7, c7, A, n, c, L, rfl, HD2.out.symm, HL.out, HO.out, by rw [HD3.out]; exact HLN.out.symm⟩⟩
end Go.Proofs.Ytlkcelmamenhpaa
