/- A string's bytes with two more behind them; the contracts of Seal and of the document's Seal. -/
import Derived.Test.YtlkcelmamenhpaaPkC7
import Derived.ArgAppend
namespace Go.Proofs.Ytlkcelmamenhpaa
open Go.ChangeShapes Go.WideShapes Go.ChangeAt Go.RowKit Go.Deep
theorem wpList_append_run {P : Program} {w : World} {ops : Array Oper} {rest : List Oper} {o : Oper} {a : Act} {Q : Exit → Act → World → Prop} (hgd : o.guard = none) (s x : Operand) (t : TypeId)
    (ho : o.op = .call { callee := .builtin .append, args := #[s, x], argTypes := #[t, t] }) (v1 v2 : Value) (hs : a.eval s = v1) (hx : a.eval x = v2) {v' : Value} {w' : World}
    (hr : (Builtin.append_ #[t, t] o.type #[v1, v2]).run P w = .ok v' w') (h : wpList P ops Q rest (a.put o.dst v') w') : wpList P ops Q (o :: rest) a w :=
  wpList_plain hgd fun _ hK => by
    unfold Oper.wp execOp
    simp only [ho, resolve, invoke, builtin, Sem.run_bind, Sem.run_pure, Result.andThen_ok, List.map_toArray, List.map_cons, List.map_nil, hs, hx, hr]
    exact hK _ _ h
theorem conv_cells {w : World} {b c : Nat} {ns : List Nat} (hc : ∀ i, i < ns.length → w.cell? ⟨b, i, none⟩ = some (.int .u8 (ns.getD i 0 : Nat))) : (convert 69 9 (.slice (some ⟨b, 0, none⟩) ns.length c)).run Try.prog w = .ok (.string (bl ns)) w := by
  have hr := run_convert_bytes_arg w 69 5 Try.underlying69 Try.underlying5 b 0 ns.length c (ns.map (fun b : Nat => (b : Int))) (by simp) (fun i hi => by
    rw [Nat.zero_add, hc i hi]; simp [List.getD, List.getElem?_eq_getElem hi]) 9 Try.underlying9
  rw [hr]
  unfold strOfNums bl
  simp [List.map_map, Function.comp_def]
theorem nl_getD (s : ByteArray) (k : Nat) (h : k < s.data.size) : (nl s).getD k 0 = s.data[k].toNat := nl_at s k h
theorem own0 {w : World} {base n sz : Nat} {e : TypeId} {v : Value} {xs : List Value} (h : w.ownsRow base e sz v n xs) : w.ownsRow 0 e sz v n xs := by
  obtain ⟨h1, h2⟩ := h
  refine ⟨h1, ?_⟩
  rcases h2 with h2 | ⟨g, cap, cur, hv, _, r⟩
  · exact .inl h2
  · exact .inr ⟨g, cap, cur, hv, Nat.zero_le _, r⟩
/-- '[]byte(s)', and two bytes behind. -/
theorem bytes_two (s : ByteArray) (w : World) (hs : s.size ≤ 1000000) : ∃ (A : Option Addr) (c : Nat) (W1 : World), (convert 9 69 (.string s)).run Try.prog w = .ok (.slice A s.size c) W1 ∧ But No w W1 ∧
    (convert 69 9 (.slice A s.size c)).run Try.prog W1 = .ok (.string s) W1 ∧
    (∃ g, A = some ⟨g, 0, none⟩ ∧ w.heap.size ≤ g ∧ g < W1.heap.size ∧ (∀ i, i < s.size → W1.cell? ⟨g, i, none⟩ = some (.int .u8 ((nl s).getD i 0 : Nat)) ∧ W1.frozen? ⟨g, i, none⟩ = false)) ∧
    ∀ x y : Nat, ∃ (A' : Option Addr) (n' c' : Nat) (W3 : World), (Builtin.append_ #[69, 69] 69 #[.slice A s.size c, .slice (some ⟨W1.heap.size, 0, none⟩) 2 2]).run Try.prog (W1.alloc (.cells #[.int .u8 (x : Int), .int .u8 (y : Int)] 5)) = .ok (.slice A' n' c') W3 ∧
      (convert 69 9 (.slice A' n' c')).run Try.prog W3 = .ok (.string (bl (nl s ++ [x, y]))) W3 ∧ But No w W3 := by
  have hcv := run_bytes_of_string (P := Try.prog) w 9 69 5 s Try.underlying9 Try.underlying69 Try.underlying5
  have hge := grownCap_ge w s.size 0 5
  generalize grownCap w s.size 0 5 = c at *
  have hrs : (bytesRow s c).size = c := by
    unfold bytesRow
    rw [Array.size_append, Array.size_map, Array.size_replicate]
    have : s.data.size = s.size := rfl
    omega
  rw [hrs] at hcv
  have hbw : But No w (w.drew.alloc (.cells (bytesRow s c) 5 (c, c + 1))) := ((But.refl _ _).drew).alloc _
  have hsz : (w.drew.alloc (.cells (bytesRow s c) 5 (c, c + 1))).heap.size = w.heap.size + 1 := by simp
  have hcell : ∀ i, (w.drew.alloc (.cells (bytesRow s c) 5 (c, c + 1))).cell? ⟨w.heap.size, i, none⟩ = (bytesRow s c)[i]? := fun i => World.cell?_alloc_mark w.drew _ _ _ i
  have hfr : ∀ i, (w.drew.alloc (.cells (bytesRow s c) 5 (c, c + 1))).frozen? ⟨w.heap.size, i, none⟩ = (decide (c ≤ i) && decide (i < c + 1)) := fun i => World.frozen?_alloc_mark w.drew _ _ _ _ i
  generalize (w.drew.alloc (.cells (bytesRow s c) 5 (c, c + 1))) = W1 at *
  have hold : ∀ i, i < s.size → W1.cell? ⟨w.heap.size, i, none⟩ = some (.int .u8 ((nl s).getD i 0 : Nat)) := fun i hi => by
    rw [hcell, bytesRow_at s c i hi, nl_getD s i hi]
  have hback : (convert 69 9 (.slice (some ⟨w.heap.size, 0, none⟩) s.size c)).run Try.prog W1 = .ok (.string s) W1 := by
    have h := conv_cells (w := W1) (b := w.heap.size) (c := c) (ns := nl s) (by rw [nl_len]; exact hold)
    rw [nl_len] at h
    rw [h, show bl (nl s) = s from nl_inj (nl_bl (nl_lt s))]
  refine ⟨some ⟨w.heap.size, 0, none⟩, c, W1, hcv, hbw, hback, ⟨w.heap.size, rfl, Nat.le_refl _, by omega, fun i hi => ⟨hold i hi, by rw [hfr, decide_eq_false (by omega)]; rfl⟩⟩, fun x y => ?_⟩
  have hB := Blk.new W1 #[.int .u8 (x : Int), .int .u8 (y : Int)] 5
  have hW2c : ∀ i, (W1.alloc (.cells #[.int .u8 (x : Int), .int .u8 (y : Int)] 5)).cell? ⟨w.heap.size, i, none⟩ = W1.cell? ⟨w.heap.size, i, none⟩ := fun i => World.cell?_alloc_lt W1 _ _ (by show w.heap.size < _; omega)
  have hW2f : ∀ i, (W1.alloc (.cells #[.int .u8 (x : Int), .int .u8 (y : Int)] 5)).frozen? ⟨w.heap.size, i, none⟩ = W1.frozen? ⟨w.heap.size, i, none⟩ := fun i => World.frozen?_of_block (Below.heap_alloc W1 _ w.heap.size (by omega))
  have hb2 : But No w (W1.alloc (.cells #[.int .u8 (x : Int), .int .u8 (y : Int)] 5)) := hbw.alloc _
  have hnews := World.news_of_block (cs := #[.int .u8 (x : Int), .int .u8 (y : Int)]) (t := 5) (fr := (0, 0)) hB
  generalize (W1.alloc (.cells #[.int .u8 (x : Int), .int .u8 (y : Int)] 5)) = W2 at *
  obtain ⟨i0, hi0, hi1, hi2, hi3⟩ := info_parts info5
  by_cases hr : s.size + 2 ≤ c
  · have hrun := run_append_room_cells (P := Try.prog) W2 69 69 5 i0 Try.underlying69 hi0 w.heap.size 0 s.size c ⟨W1.heap.size, 0, none⟩ 2 2 [.int .u8 (x : Int), .int .u8 (y : Int)] (by rw [hi2]; rfl) hnews (by simp [Value.oneCell']) hr
      (fun j hj => by
        rw [hi2, Nat.mul_one, Nat.zero_add, hW2c, hcell]
        have : s.size + j < (bytesRow s c).size := by rw [hrs]; simp at hj; omega
        rw [Array.getElem?_eq_getElem this]; rfl)
      (fun j hj => by
        rw [hi2, Nat.mul_one, Nat.zero_add, hW2f, hfr, decide_eq_false (by simp at hj; omega)]; rfl)
    rw [hi2, Nat.mul_one, Nat.zero_add] at hrun
    have hlen : (nl s ++ [x, y]).length = s.size + 2 := by rw [List.length_append, nl_len]; rfl
    refine ⟨_, _, _, _, hrun, ?_, (hb2.setNew (p := ⟨w.heap.size, s.size, none⟩) (Nat.le_refl _) _).setNew (p := ⟨w.heap.size, s.size + 1, none⟩) (Nat.le_refl _) _⟩
    have hc := conv_cells (w := W2.setCells w.heap.size s.size [.int .u8 (x : Int), .int .u8 (y : Int)]) (b := w.heap.size) (c := c) (ns := nl s ++ [x, y]) (fun i hi => by
      rw [hlen] at hi
      by_cases h : i < s.size
      · rw [World.cell?_setCells_out w.heap.size _ _ _ _ (fun _ _ => .inl h), hW2c, hold i h]
        have : i < (nl s).length := by rw [nl_len]; exact h
        simp [List.getD, List.getElem?_append_left this]
      · have hin := World.cell?_setCells_in w.heap.size [.int .u8 (x : Int), .int .u8 (y : Int)] s.size W2 (fun j hj => by
          rw [hW2c, hcell]
          have : s.size + j < (bytesRow s c).size := by rw [hrs]; simp at hj; omega
          rw [Array.getElem?_eq_getElem this]; rfl) (i - s.size) (by simp; omega)
        rw [show s.size + (i - s.size) = i by omega] at hin
        rw [hin]
        have hl : (nl s).length = s.size := nl_len s
        have hcase : i = s.size ∨ i = s.size + 1 := by omega
        rcases hcase with rfl | rfl
        · simp [List.getD, hl]
        · simp [List.getD, hl])
    rw [hlen] at hc
    exact hc
  · obtain ⟨v', w', hrun, r1, r2⟩ := run_append_arg_grows (P := Try.prog) W2 69 69 5 i0 (.int .u8 0) 1 1 Try.underlying69 hi0 hi1 hi2 hi3 rfl (by omega) ⟨w.heap.size, 0, none⟩ s.size c ((nl s).map (cv .u8)) (by rw [List.length_map, nl_len, Nat.mul_one])
      (fun j u hu => by
        have hj : j < s.size := by
          have := (List.getElem?_eq_some_iff.1 hu).1
          rw [List.length_map, nl_len] at this; exact this
        rw [Addr.add_lit, Nat.zero_add, hW2c, hold j hj, ← hu]
        rw [List.getElem?_map]
        have : j < (nl s).length := by rw [nl_len]; exact hj
        simp [List.getD, List.getElem?_eq_getElem this, cv])
      ⟨W1.heap.size, 0, none⟩ 2 2 [.int .u8 (x : Int), .int .u8 (y : Int)] rfl hnews (by omega) (by unfold maxLen; omega) (by omega)
    obtain ⟨A', c', rfl⟩ := owns_slice (own0 r1)
    have hlen : (nl s ++ [x, y]).length = s.size + 2 := by rw [List.length_append, nl_len]; rfl
    have hbw' : But No w w' := hb2.grown r2 (fun _ e => by cases e)
    have hO : Oc 5 .u8 w w' (.slice A' (s.size + 2) c') (nl s ++ [x, y]) := ⟨by rw [hlen, List.map_append]; exact own0 r1, hbw', fun j e => Nat.le_trans hb2.size (r1.lt j e).1⟩
    exact ⟨_, _, _, _, hrun, conv_row hO hlen, hbw'⟩
end Go.Proofs.Ytlkcelmamenhpaa
