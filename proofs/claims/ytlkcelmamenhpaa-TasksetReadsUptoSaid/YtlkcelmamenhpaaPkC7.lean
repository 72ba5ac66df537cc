/- The contract of Read. -/
import Derived.Test.YtlkcelmamenhpaaPkC6
namespace Go.Proofs.Ytlkcelmamenhpaa
open Go.ChangeShapes Go.WideShapes Go.ChangeAt Go.RowKit Go.Deep
def rAll (l : List Nat) : List Nat × Nat := rdn l.length [] l
/-- Numbers and an error. -/
def RetNums (w : World) (e : Nat) (ns : List Nat) (r : Ending) (w' : World) : Prop := ∃ A n c, r = .returned (.tuple #[.slice A n c, .int .i64 (e : Int)]) ∧ ns.length = n ∧ Oc 3 .i64 w w' (.slice A n c) ns
theorem Blk.grown {w w3 : World} {b : Nat} {cur : Array Value} {e : TypeId} {o : Obj} {row : Option Nat} (h : Blk w b cur e) (hg : (w.alloc o).grownBy w3 row) (hne : row ≠ some b) : Blk w3 b cur e := by
  have h1 := h.alloc o
  have h2 := hg.block b h1.lt (fun e => hne e.symm)
  unfold Blk at h1 ⊢
  rw [h2]; exact h1
/-- Where the reading stands. -/
structure Rs (s : ByteArray) (w : World) (ba bs B : Nat) (wr : World) (v : Value) (ns : List Nat) (p : Nat) : Prop where
  row : Oc 3 .i64 w wr v ns
  new : ∀ j, v.ownBlock = some j → B ≤ j
  at_ : Blk wr ba #[.int .i64 (p : Int)] 3
  str : Blk wr bs #[.string s] 9
section
variable {s : ByteArray} {w wr w2 w3 : World} {ba bs B : Nat} {v : Value} {ns : List Nat} {p p' : Nat}
theorem Rs.next (h : Rs s w ba bs B wr v ns p) (hB : ba < B) (ha : w.heap.size ≤ ba) (hs : bs ≠ ba) (hb : But (Just ba) wr w2) (h2 : Blk w2 ba #[.int .i64 (p' : Int)] 3) : Rs s w ba bs B w2 v ns p' :=
  ⟨⟨owns_but h.row.own hb (fun j e f => by have := h.new j e; unfold Just at f; omega), h.row.but.andThen hb (fun k f => .inr (by unfold Just at f; omega)), h.row.new⟩, h.new, h2, h.str.but hb hs⟩
theorem Rs.app {n c : Nat} {A : Option Addr} (h : Rs s w ba bs B wr v ns p) (hB : ba < B) (hB2 : bs < B) (hB3 : B ≤ wr.heap.size) (hn : ns.length = n) (x : Nat) (o : Obj) (ho : w3.ownsRow 0 3 1 (.slice A (n + 1) c) (n + 1) (ns.map (cv .i64) ++ [.int .i64 (x : Int)]))
    (hg : (wr.alloc o).grownBy w3 v.ownBlock) (hat : (Value.slice A (n + 1) c).ownBlock = v.ownBlock ∨ (Value.slice A (n + 1) c).ownBlock = some (wr.alloc o).heap.size) : Rs s w ba bs B w3 (.slice A (n + 1) c) (ns ++ [x]) p ∧ B ≤ w3.heap.size :=
  ⟨⟨h.row.app hn x o ho hg hat, own_new h.new hat (by simp; omega), h.at_.grown hg (fun e => by have := h.new _ e; omega), h.str.grown hg (fun e => by have := h.new _ e; omega)⟩, by have := hg.size; simp at this; omega⟩
end
theorem rdn_len {f : Nat} : ∀ {acc s : List Nat}, acc.length ≤ 2000 → (rdn f acc s).1.length ≤ 2000 := by
  induction f with
  | zero => intro acc s h; cases s <;> simpa [rdn] using h
  | succ f ih =>
    intro acc s h
    cases s with
    | nil => simpa [rdn] using h
    | cons b t =>
      rw [rdn]
      split
      · simp
      · split
        · simp
        · exact ih (by simp; omega)
theorem retsl {A : Option Addr} {n c : Nat} {a b : Int} (h : a = b) : Ending.returned (.tuple #[.slice A n c, .int .i64 a]) = .returned (.tuple #[.slice A n c, .int .i64 b]) := by rw [h]
set_option maxRecDepth 100000 in
set_option maxHeartbeats 1000000 in
theorem read_any (s : ByteArray) (w : World) (hs : s.size ≤ 9223372036854775807) : Calls Try.prog 16 #[.string s] w (RetNums w (rAll (nl s)).2 (rAll (nl s)).1) := by
  obtain ⟨i0, hi0, hi1, hi2, hi3⟩ := info_parts info3
  have I0 : Hid (Try.prog.info? 3 = some i0 ∧ i0.zero = some (.int .i64 0) ∧ i0.size = 1 ∧ i0.bytes = 8) := ⟨hi0, hi1, hi2, hi3⟩
  clear hi0 hi1 hi2 hi3
  have CR := Lib.hid (reader_any s w)
  obtain ⟨ba, hba⟩ : ∃ ba, ba = w.heap.size + 1 := ⟨_, rfl⟩
  obtain ⟨bs, hbs⟩ : ∃ bs, bs = w.heap.size := ⟨_, rfl⟩
  have hne : bs ≠ ba := by omega
  have hge : w.heap.size ≤ ba := by omega
  have hle : bs < ba := by omega
  rw [← hba, ← hbs] at CR
  clear hba hbs
  go_enter Try.func16, Try.ntmps16
  go_wp2_with (go_at_call 32; refine CR.out.mono ?_; rintro e w1 ⟨rfl, h1, h2, h3⟩; have H1 := Lib.hid h1; have H2 := Lib.hid h2; have H3 := Lib.hid h3; have hbl := h1.lt; clear h1 h2 h3)
  go_loopw [5] (fun u wr => ∃ (A : Option Addr) (n c : Nat) (ns : List Nat) (p f : Nat), u = .slice A n c ∧ n ≤ 2000 ∧ p ≤ s.size ∧ w1.heap.size ≤ wr.heap.size ∧ Hid (ns.length = n) ∧ Hid (Rs s w ba bs w1.heap.size wr (.slice A n c) ns p) ∧ Hid (((nl s).drop p).length ≤ f ∧ rdn f ns ((nl s).drop p) = rAll (nl s))) (fun _ wr => s.size - cellInt wr ba)
  case atStart => exact ⟨none, 0, 0, [], 0, (nl s).length, rfl, by omega, by omega, Nat.le_refl _, rfl, ⟨Oc.nil H3.out, own_none, H1.out, H2.out⟩, by simp, rfl⟩
  case round =>
    obtain ⟨A, n, c, ns, p, f, rfl, hn, hp, hwr, HL, HR, HF⟩ := hrel
    have HM := Lib.hid (cellInt_of HR.out.at_)
    by_cases hlt : p < s.size
    · have CN := Lib.hid (next_any ba bs s p wr hs hlt HR.out.at_ HR.out.str)
      have hnil : (nl s).drop p ≠ [] := by
        intro e
        have := congrArg List.length e
        rw [List.length_drop, nl_len] at this
        simp at this; omega
      obtain ⟨f, rfl⟩ : ∃ g, f = g + 1 := ⟨f - 1, by have := HF.out.1; rw [List.length_drop, nl_len] at this; omega⟩
      have HS := Lib.hid (rdn_step (f := f) (acc := ns) hnil)
      have hpos : (one1 ((nl s).drop p)).1 = 0 → 0 < (one1 ((nl s).drop p)).2.2 := by
        intro e
        have := one1_back (s := (nl s).drop p) (n := (one1 ((nl s).drop p)).2.1) (k := (one1 ((nl s).drop p)).2.2) (fun b hb => nl_lt s b (List.mem_of_mem_drop hb)) (by rw [← e])
        exact this.2.2.2
      have HP := Lib.hid hpos
      clear hnil hpos
      obtain ⟨E, hE⟩ : ∃ E, E = (one1 ((nl s).drop p)).1 := ⟨_, rfl⟩
      by_cases he : E = 0
      · have CN2 : Hid (Calls Try.prog 40 #[.pointer (some ⟨ba, 0, none⟩), .pointer (some ⟨bs, 0, none⟩)] wr fun r w' => ∃ n p' : Nat, r = .returned (.tuple #[.int .i64 (n : Int), .bool true, .int .i64 0]) ∧ n = (one1 ((nl s).drop p)).2.1 ∧ p' = p + (one1 ((nl s).drop p)).2.2 ∧ p' ≤ s.size ∧ Blk w' ba #[.int .i64 (p' : Int)] 3 ∧ But (Just ba) wr w') := CN.out.mono fun r w' ⟨e, n, p', f, hr, h1, h2, h3, h4, h5, h6, h7⟩ => by
          have e0 : e = 0 := by rw [← h1, ← hE]; exact he
          subst e0
          exact ⟨n, p', by rw [hr, h4 rfl]; rfl, (h2 rfl).symm, h3 rfl, h5, h6, h7⟩
        have HE0 : Hid ((one1 ((nl s).drop p)).1 = 0) := by show _ = _; rw [← hE]; exact he
        clear hE he CN
        by_cases h2000 : n = 2000
        · have HE : Hid (rAll (nl s) = ([], 7)) := by
            show _ = _
            rw [← HF.out.2, HS.out, if_neg (by rw [HE0.out]; simp), if_pos (by rw [HL.out]; exact h2000)]
          subst h2000
          go_wp2_with (go_at_call 40; refine CN2.out.mono ?_; rintro e w2 ⟨n2, p2, rfl, hn2, hp2, hp3, hb2, hw2⟩; have HN2 := Lib.hid hn2; have HP2 := Lib.hid hp2; have HB2 := Lib.hid hb2; have HW2 := Lib.hid hw2; clear hn2 hp2 hb2 hw2)
          go_ret2
          exact ⟨none, 0, 0, retsl (by rw [HE.out]; rfl), by rw [HE.out]; rfl, by rw [HE.out]; exact Oc.nil (HR.out.next (B := w1.heap.size) hbl hge hne HW2.out HB2.out).row.but⟩
        · have hnt : ((n : Int) == 2000) = false := by rw [beq_eq_false_iff_ne]; omega
          go_wp2_with (first | (go_at_call 40; refine CN2.out.mono ?_; rintro e w2 ⟨n2, p2, rfl, hn2, hp2, hp3, hb2, hw2⟩; have HN2 := Lib.hid hn2; have HP2 := Lib.hid hp2; have HB2 := Lib.hid hb2; have HW2 := Lib.hid hw2; have HS2 := Lib.hid (HR.out.next (B := w1.heap.size) hbl hge hne HW2.out HB2.out); have ROW := Lib.hid (HS2.out.row.row HL.out); have hwz := hw2.size; clear hn2 hp2 hb2 hw2) | (at_builtin; refine wpList_append_sh _ rfl _ _ 44 rfl 3 i0 _ 1 8 Try.underlying44 I0.out.1 I0.out.2.1 I0.out.2.2.1 I0.out.2.2.2 rfl (by omega) (.slice A n c) n _ rfl (ROW.out.alloc _) (w2.heap.size + 1) (some ⟨w2.heap.size, 0, none⟩) 1 1 [.int .i64 (n2 : Int)] rfl (one_reads8 w2 3 .i64 _) (one_cell8 .i64 _) (by unfold maxLen; omega) (by omega) ?_; intro A3 c3 w3 hown hgrow hat; have HT3 := Lib.hid (HS2.out.app hbl (by omega) (by omega) HL.out n2 _ hown hgrow hat); have HM3 := Lib.hid (cellInt_of HT3.out.1.at_); clear hown hgrow hat))
          go_roundw
          case rel =>
            refine ⟨A3, n + 1, c3, ns ++ [n2], p2, f, rfl, by omega, hp3, HT3.out.2, by show _ = _; rw [List.length_append, HL.out]; rfl, HT3.out.1, ?_⟩
            have hd : (nl s).drop p2 = ((nl s).drop p).drop (one1 ((nl s).drop p)).2.2 := by rw [List.drop_drop, ← HP2.out]
            refine ⟨?_, ?_⟩
            · have := HF.out.1
              have hps := HP.out HE0.out
              have h2 := HP2.out
              rw [List.length_drop] at this ⊢
              omega
            · rw [← HF.out.2, HS.out, if_neg (by rw [HE0.out]; simp), if_neg (by rw [HL.out]; exact h2000), hd, HN2.out]
          case measure =>
            have hps := HP.out HE0.out
            have h2 := HP2.out
            rw [HM.out, HM3.out]; omega
      · have CN2 : Hid (Calls Try.prog 40 #[.pointer (some ⟨ba, 0, none⟩), .pointer (some ⟨bs, 0, none⟩)] wr fun r w' => ∃ (n p' : Nat) (f : Bool), r = .returned (.tuple #[.int .i64 (n : Int), .bool f, .int .i64 (E : Int)]) ∧ Blk w' ba #[.int .i64 (p' : Int)] 3 ∧ But (Just ba) wr w') := CN.out.mono fun r w' ⟨e, n, p', f, hr, h1, h2, h3, h4, h5, h6, h7⟩ => by
          have e0 : e = E := by rw [← h1, ← hE]
          subst e0
          exact ⟨n, p', f, hr, h6, h7⟩
        have HE : Hid (rAll (nl s) = ([], E)) := by
          show _ = _
          rw [← HF.out.2, HS.out, if_pos (by rw [← hE]; exact he), hE]
        have het : ((E : Int) != 0) = true := by rw [bne_iff_ne]; omega
        clear hE he CN
        go_wp2_with (go_at_call 40; refine CN2.out.mono ?_; rintro e w2 ⟨n2, p2, f2, rfl, hb2, hw2⟩; have HB2 := Lib.hid hb2; have HW2 := Lib.hid hw2; clear hb2 hw2)
        go_ret2
        exact ⟨none, 0, 0, retsl (by rw [HE.out]), by rw [HE.out]; rfl, by rw [HE.out]; exact Oc.nil (HR.out.next (B := w1.heap.size) hbl hge hne HW2.out HB2.out).row.but⟩
    · obtain rfl : p = s.size := by omega
      have CN := Lib.hid (next_end ba bs s wr HR.out.at_ HR.out.str)
      have HE : Hid (rAll (nl s) = (ns, 0)) := by
        show _ = _
        rw [← HF.out.2, List.drop_eq_nil_of_le (by rw [nl_len]; exact Nat.le_refl _), rdn_nil]
      go_wp2_with (go_at_call 40; refine CN.out.mono ?_; rintro e w2 ⟨rfl, rfl⟩)
      go_ret2
      exact ⟨A, n, c, retsl (by rw [HE.out]; rfl), by rw [HE.out]; exact HL.out, by rw [HE.out]; exact HR.out.row⟩
end Go.Proofs.Ytlkcelmamenhpaa
