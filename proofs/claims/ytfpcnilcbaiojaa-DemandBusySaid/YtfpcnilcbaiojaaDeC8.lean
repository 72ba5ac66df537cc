/- The contracts of the program's own load of a core, busy period and descent; Ask, Busy, Test (chapter 15). -/
import Derived.Test.YtfpcnilcbaiojaaDeC7
namespace Go.Proofs.Ytfpcnilcbaiojaa.dem
open Go.ChangeShapes Go.WideShapes Go.ChangeAt Go.RowKit Go.Deep
theorem tot_com {l : List Wk} {bl rl t : Int} {n : Nat} (h : l.length = n) : tot bl (cmt rl t) t l n = (comV l bl rl t, comE l bl rl t) := by
  subst h
  unfold tot
  by_cases ho : comO l bl rl t = true
  · rw [(com_out ho).1, (com_out ho).2]; exact if_pos ho
  · have ho' : comO l bl rl t = false := by simpa using ho
    rw [(com_in ho').1, (com_in ho').2]; exact if_neg ho
theorem tot_ask {l : List Wk} {bl rl t : Int} {n : Nat} (h : l.length = n) (hr : right l bl rl = true) (ht : 1 ≤ t) : tot bl (trm rl t) t l n = (askV l bl rl t, askE l bl rl t) := by
  subst h
  unfold tot
  rcases ask_cases l bl rl t with ⟨_, _, e⟩ | ⟨_, _, o, e, v⟩ | ⟨_, _, o, e, v⟩
  · exact absurd ⟨hr, ht⟩ e
  · rw [e, v]; exact if_pos o
  · rw [e, v]; exact if_neg (by rw [show ov bl (trm rl t) t l l.length = false from o]; simp)
theorem demand_any (A : Option Addr) (n c : Nat) (l : List Wk) (bl rl t : Int) (w : World) (h : RWk w A n l) (hr : right l bl rl = true) (ht : 1 ≤ t ∧ t ≤ 9223372036854775807) :
    Calls Try.prog 21 #[.agg #[.slice A n c, .int .i64 bl, .int .i64 rl], .int .i64 t] w fun e w' => e = .returned (.tuple #[.int .i64 (askV l bl rl t), .int .i64 (askE l bl rl t)]) ∧ But No w w' := by
  have h9 := dem_any A n c l bl rl t w h hr ht
  rw [tot_ask h.len hr ht.1] at h9
  exact h9
theorem arriving_any (A : Option Addr) (n c : Nat) (l : List Wk) (bl rl t : Int) (w : World) (h : RWk w A n l) (hr : right l bl rl = true) (ht : 1 ≤ t ∧ t ≤ 9223372036854775807) :
    Calls Try.prog 40 #[.agg #[.slice A n c, .int .i64 bl, .int .i64 rl], .int .i64 t] w fun e w' => e = .returned (.tuple #[.int .i64 (comV l bl rl t), .int .i64 (comE l bl rl t)]) ∧ But No w w' := by
  have h9 := com_any A n c l bl rl t w h hr ht
  rw [tot_com h.len] at h9
  exact h9
/-- A load in a box. -/
theorem box_keep {w W : World} {A : Option Addr} {n c : Nat} {bl rl : Int} (hb : But No (w.alloc (.cells #[.slice A n c, .int .i64 bl, .int .i64 rl] 44)) W) : W.cell? ⟨w.heap.size, 0, none⟩ = some (.slice A n c) ∧ W.cell? ⟨w.heap.size, 1, none⟩ = some (.int .i64 bl) ∧ W.cell? ⟨w.heap.size, 2, none⟩ = some (.int .i64 rl) := by
  have h := (Blk.new w #[.slice A n c, .int .i64 bl, .int .i64 rl] 44).but hb (fun f => f)
  exact ⟨h.cell rfl, h.cell rfl, h.cell rfl⟩
set_option maxRecDepth 100000 in
set_option maxHeartbeats 4000000 in
theorem great_any (A : Option Addr) (n c : Nat) (l : List Wk) (bl rl : Int) (w : World) (h : RWk w A n l) (hr : right l bl rl = true) : Calls Try.prog 39 #[.agg #[.slice A n c, .int .i64 bl, .int .i64 rl]] w fun e w' => e = .returned (.bool (decide (4294967296 < ldS rl l))) ∧ But No w w' := by
  have HN := Lib.hid h.len
  obtain ⟨hn72, ⟨hb0, hb9⟩, ⟨hr0, hr9⟩, hok⟩ := right_iff.1 hr
  have hn72' : n ≤ 72 := by have := HN.out; omega
  have hwl : (wz rl l).length = 2 * n := by rw [wz_len, HN.out]
  have hpl : (pz l).length = 2 * n := by rw [pz_len, HN.out]
  have hfw : ∀ z ∈ wz rl l, inR z := fun z hz => by
    obtain ⟨x, hx, hm⟩ := List.mem_flatMap.1 hz
    have := okW_iff.1 (hok x hx)
    simp only [List.mem_cons, List.not_mem_nil, or_false] at hm
    unfold inR; rcases hm with rfl | rfl <;> omega
  have hfp : ∀ z ∈ pz l, inR z := fun z hz => by
    obtain ⟨x, hx, hm⟩ := List.mem_flatMap.1 hz
    have := okW_iff.1 (hok x hx)
    simp only [List.mem_cons, List.not_mem_nil, or_false] at hm
    unfold inR; rcases hm with rfl | rfl <;> omega
  have CF : Hid (Calls Try.prog 49 #[.slice A n c, .agg #[.slice none 0 0, .slice none 0 0], .func (.func 50) #[] #[.pointer (some ⟨w.heap.size, 0, none⟩)]] (w.alloc (.cells #[.slice A n c, .int .i64 bl, .int .i64 rl] 44)) fun e w' => ∃ v u, e = .returned (.agg #[v, u]) ∧ Two (w.alloc (.cells #[.slice A n c, .int .i64 bl, .int .i64 rl] 44)) w' v u (wz rl l) (pz l)) := Lib.hid (foldS_any A n c l rl w.heap.size _ (h.no ((But.refl No w).alloc _)) hn72' (box_keep (But.refl No _)).2.2)
  have CLL : Hid (∀ w2 v u, Two (w.alloc (.cells #[.slice A n c, .int .i64 bl, .int .i64 rl] 44)) w2 v u (wz rl l) (pz l) → ∃ A7 n7 c7 A8 n8 c8, v = .slice A7 n7 c7 ∧ u = .slice A8 n8 c8 ∧ But No w w2 ∧ ∀ W, But No w2 W → Calls Try.prog 51 #[.slice A7 n7 c7, .slice A8 n8 c8] W fun e w' => e = .returned (.tuple #[.int .i64 (qar.ldV (wz rl l) (pz l)), .int .i64 (qar.ldE (wz rl l) (pz l))]) ∧ But No W w') := Lib.hid (fun w2 v u hT => by
    obtain ⟨A7, c7, hv7, hr7⟩ := Ov.rdv hT.o1 (by omega) hfw
    obtain ⟨A8, c8, hv8, hr8⟩ := Ov.rdv hT.o2 (by omega) hfp
    exact ⟨A7, _, c7, A8, _, c8, hv7, hv8, ((But.refl No w).alloc _).trans hT.but, fun W hb => (qar.load_any A7 A8 _ _ c7 c8 (wz rl l) (pz l) W (hr7.no hb) (hr8.no hb)).mono (fun e w' ⟨h1, h2⟩ => ⟨h1, h2.butNo⟩)⟩)
  have HLD := ld_is hr
  have hmf : ∀ (fn : Fn) (first cap : Array Value) (w : World), (Instr.makeFunc fn first cap).run Try.prog w = .ok (.func fn first cap) w := fun _ _ _ _ => rfl
  clear h hr hb0 hb9 hr0 hr9 hok hwl hpl hfw hfp hn72
  generalize qar.ldV (wz rl l) (pz l) = V at CLL HLD
  generalize qar.ldE (wz rl l) (pz l) = E at CLL HLD
  have HEQ : Hid (∀ b : Bool, (b = true ↔ E ≠ 0 ∨ 4294967296 < V) → decide (4294967296 < ldS rl l) = b) := Lib.hid (fun b hb => by
    rcases HLD with ⟨e, hV, h0, h1⟩ | ⟨e, hV, h1⟩
    · cases b with
      | true => have := hb.1 rfl; simp; omega
      | false => simp; have : ¬ (E ≠ 0 ∨ 4294967296 < V) := fun h => by have := hb.2 h; cases this
                 omega
    · have : b = true := hb.2 (.inl (by omega))
      rw [this]; simp; omega)
  clear HLD
  by_cases hE : E = 0
  · subst hE
    by_cases hV : 4294967296 < V
    · rw [HEQ.out true (by simp [hV])]
      have b4 : decide (4294967296 < V) = true := by simp [hV]
      clear HEQ
      go_enter Try.func39, Try.ntmps39
      go_wp2_with (first | (go_at_call 49; (with_reducible refine CF.out.mono ?_); rintro e w2 ⟨v, u, rfl, hT⟩; obtain ⟨A7, n7, c7, A8, n8, c8, rfl, rfl, hb2, CL⟩ := CLL.out _ _ _ hT; have HB2 := Lib.hid hb2; have HCL := Lib.hid CL; clear hb2 CL hT) | (go_at_call 51; (with_reducible refine (HCL.out _ ((But.refl No _).alloc _)).mono ?_); rintro e w3 ⟨rfl, hb3⟩; have HB3 := Lib.hid ((HB2.out.alloc _).trans hb3); clear hb3))
      go_ret
      exact ⟨rfl, HB3.out⟩
    · rw [HEQ.out false (by simp [hV])]
      have b4 : decide (4294967296 < V) = false := by simp [hV]
      clear HEQ
      go_enter Try.func39, Try.ntmps39
      go_wp2_with (first | (go_at_call 49; (with_reducible refine CF.out.mono ?_); rintro e w2 ⟨v, u, rfl, hT⟩; obtain ⟨A7, n7, c7, A8, n8, c8, rfl, rfl, hb2, CL⟩ := CLL.out _ _ _ hT; have HB2 := Lib.hid hb2; have HCL := Lib.hid CL; clear hb2 CL hT) | (go_at_call 51; (with_reducible refine (HCL.out _ ((But.refl No _).alloc _)).mono ?_); rintro e w3 ⟨rfl, hb3⟩; have HB3 := Lib.hid ((HB2.out.alloc _).trans hb3); clear hb3))
      go_ret
      exact ⟨rfl, HB3.out⟩
  · rw [HEQ.out true (by simp [hE])]
    have b4 : (E != 0) = true := by simp [hE]
    have b5 : decide (E = 0) = false := by simp [hE]
    clear HEQ
    go_enter Try.func39, Try.ntmps39
    go_wp2_with (first | (go_at_call 49; (with_reducible refine CF.out.mono ?_); rintro e w2 ⟨v, u, rfl, hT⟩; obtain ⟨A7, n7, c7, A8, n8, c8, rfl, rfl, hb2, CL⟩ := CLL.out _ _ _ hT; have HB2 := Lib.hid hb2; have HCL := Lib.hid CL; clear hb2 CL hT) | (go_at_call 51; (with_reducible refine (HCL.out _ ((But.refl No _).alloc _)).mono ?_); rintro e w3 ⟨rfl, hb3⟩; have HB3 := Lib.hid ((HB2.out.alloc _).trans hb3); clear hb3))
    go_ret
    exact ⟨rfl, HB3.out⟩
end Go.Proofs.Ytfpcnilcbaiojaa.dem
