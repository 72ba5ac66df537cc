/- The contract of the document's Read. -/
import Derived.Test.YtlkcelmamenhpaaPkR2
namespace Go.Proofs.Ytlkcelmamenhpaa
open Go.ChangeShapes Go.WideShapes Go.ChangeAt Go.RowKit Go.Deep
def sizeS : Value → Nat
  | .string t => t.size
  | _ => 0
set_option maxRecDepth 100000 in
set_option maxHeartbeats 1000000 in
theorem rread_any (s : ByteArray) (w : World) (hs : s.size ≤ 9223372036854775807) : Calls Try.prog 25 #[.string s] w (RetNums w (rAll (nl s)).2 (rAll (nl s)).1) := by
  obtain ⟨i0, hi0, hi1, hi2, hi3⟩ := info_parts info3
  have I0 : Hid (Try.prog.info? 3 = some i0 ∧ i0.zero = some (.int .i64 0) ∧ i0.size = 1 ∧ i0.bytes = 8) := ⟨hi0, hi1, hi2, hi3⟩
  clear hi0 hi1 hi2 hi3
  go_enter Try.func25, Try.ntmps25
  go_wp2
  go_loopw [0, 4] (fun x u wr => ∃ (t : ByteArray) (A : Option Addr) (n c : Nat) (ns : List Nat) (f : Nat), x = .string t ∧ u = .slice A n c ∧ n ≤ 2000 ∧ t.size ≤ 9223372036854775807 ∧ Hid (ns.length = n) ∧ Hid (Oc 3 .i64 w wr (.slice A n c) ns) ∧ Hid ((nl t).length ≤ f ∧ rdn f ns (nl t) = rAll (nl s))) (fun x _ _ => sizeS x)
  case atStart => exact ⟨s, none, 0, 0, [], (nl s).length, rfl, rfl, by omega, hs, rfl, Oc.nil (But.refl _ _), Nat.le_refl _, rfl⟩
  case round =>
    obtain ⟨t, A, n, c, ns, f, rfl, rfl, hn, ht, HL, HR, HF⟩ := hrel
    by_cases hlt : 0 < t.size
    · have CN : ∀ W, Hid (Calls Try.prog 36 #[.string t] W fun e w' => e = .returned (.tuple #[.int .i64 ((one1 (nl t)).2.1 : Nat), .int .i64 ((one1 (nl t)).2.2 : Nat), .int .i64 ((one1 (nl t)).1 : Nat)]) ∧ W = w') := fun W => rone_any t W ht
      have hnil : nl t ≠ [] := by
        intro e
        have := congrArg List.length e
        rw [nl_len, List.length_nil] at this
        omega
      have hne : (t.toList == []) = false := by
        have e0 : ([] : List UInt8) = (⟨#[]⟩ : ByteArray).toList := by rw [ByteArray.toList_eq]
        rw [e0, eqB, nl_nil]; simp [hnil]
      obtain ⟨f, rfl⟩ : ∃ g, f = g + 1 := ⟨f - 1, by have := HF.out.1; rw [nl_len] at this; omega⟩
      have HS := Lib.hid (rdn_step (f := f) (acc := ns) hnil)
      have HP : Hid ((one1 (nl t)).1 = 0 → 0 < (one1 (nl t)).2.2 ∧ (one1 (nl t)).2.2 ≤ t.size) := by
        intro e
        have := one1_back (s := nl t) (n := (one1 (nl t)).2.1) (k := (one1 (nl t)).2.2) (nl_lt t) (by rw [← e])
        have h2 := congrArg List.length this.1
        rw [List.length_append, ← this.2.2.1, nl_len] at h2
        exact ⟨this.2.2.2, by omega⟩
      clear hnil
      obtain ⟨E, hE⟩ : ∃ E, E = (one1 (nl t)).1 := ⟨_, rfl⟩
      obtain ⟨V, hV⟩ : ∃ V, V = (one1 (nl t)).2.1 := ⟨_, rfl⟩
      obtain ⟨k, hk⟩ : ∃ k, k = (one1 (nl t)).2.2 := ⟨_, rfl⟩
      rw [← hE, ← hV, ← hk] at CN
      rw [← hE, ← hk] at HP
      rw [← hE, ← hV, ← hk] at HS
      clear hE hV hk
      by_cases he : E = 0
      · subst he
        have HP2 := HP.out rfl
        obtain ⟨hk1, hk2⟩ := HP2
        by_cases h2000 : n = 2000
        · have HE : Hid (rAll (nl s) = ([], 7)) := by
            show _ = _
            rw [← HF.out.2, HS.out, if_neg (by simp), if_pos (by rw [HL.out]; exact h2000)]
          subst h2000
          go_wp2_with (go_at_call 36; refine (CN _).out.mono ?_; rintro e w2 ⟨rfl, rfl⟩)
          go_ret2
          exact ⟨none, 0, 0, retsl (by rw [HE.out]; rfl), by rw [HE.out]; rfl, by rw [HE.out]; exact Oc.nil HR.out.but⟩
        · have hnt : ((n : Int) == 2000) = false := by rw [beq_eq_false_iff_ne]; omega
          have hsl : ∀ W : World, (Instr.slice 9 (.string t) (some (.int .i64 (k : Int))) none none).run Try.prog W = .ok (.string (t.extract k t.size)) W := fun W => by
            have := run_slice_string_from_if (P := Try.prog) W 9 t .i64 (k : Int) Try.underlying9
            rw [if_pos ⟨by omega, by omega⟩] at this
            rw [this]; rfl
          have HT : Hid (nl (t.extract k t.size) = (nl t).drop k) := by
            show _ = _
            rw [nl_extract]
            exact List.take_of_length_le (by rw [List.length_drop, nl_len]; exact Nat.le_refl _)
          have htl : (t.extract k t.size).size = t.size - k := by rw [← nl_len, HT.out, List.length_drop, nl_len]
          have HTL := Lib.hid htl
          have hx1 : (t.extract k t.size).size ≤ 9223372036854775807 := by rw [htl]; omega
          clear htl
          generalize t.extract k t.size = t2 at *
          have ROW := Lib.hid (HR.out.row HL.out)
          go_wp2_with (first | (go_at_call 36; refine (CN _).out.mono ?_; rintro e w2 ⟨rfl, rfl⟩) | (at_builtin; refine wpList_append_sh _ rfl _ _ 44 rfl 3 i0 _ 1 8 Try.underlying44 I0.out.1 I0.out.2.1 I0.out.2.2.1 I0.out.2.2.2 rfl (by omega) (.slice A n c) n _ rfl (ROW.out.alloc _) (wr.heap.size + 1) (some ⟨wr.heap.size, 0, none⟩) 1 1 [.int .i64 (V : Int)] rfl (one_reads8 wr 3 .i64 _) (one_cell8 .i64 _) (by unfold maxLen; omega) (by omega) ?_; intro A3 c3 w3 hown hgrow hat; have HT3 := Lib.hid (HR.out.app HL.out V _ hown hgrow hat); clear hown hgrow hat))
          go_roundw
          case rel =>
            refine ⟨t2, A3, n + 1, c3, ns ++ [V], f, rfl, rfl, by omega, hx1, by show _ = _; rw [List.length_append, HL.out]; rfl, HT3.out, ?_⟩
            refine ⟨?_, ?_⟩
            · have := HF.out.1
              rw [nl_len] at this ⊢
              rw [HTL.out]; omega
            · rw [← HF.out.2, HS.out, if_neg (by simp), if_neg (by rw [HL.out]; exact h2000), HT.out]
          case measure =>
            show t2.size < t.size
            rw [HTL.out]; omega
      · have HE : Hid (rAll (nl s) = ([], E)) := by
          show _ = _
          rw [← HF.out.2, HS.out, if_pos he]
        have het : ((E : Int) != 0) = true := by rw [bne_iff_ne]; omega
        have het2 : ((E : Int) == 0) = false := by rw [beq_eq_false_iff_ne]; omega
        go_wp2_with (go_at_call 36; refine (CN _).out.mono ?_; rintro e w2 ⟨rfl, rfl⟩)
        go_ret2
        exact ⟨none, 0, 0, retsl (by rw [HE.out]), by rw [HE.out]; rfl, by rw [HE.out]; exact Oc.nil HR.out.but⟩
    · have hnil : nl t = [] := List.eq_nil_of_length_eq_zero (by rw [nl_len]; omega)
      have hne : (t.toList == []) = true := by
        have e0 : ([] : List UInt8) = (⟨#[]⟩ : ByteArray).toList := by rw [ByteArray.toList_eq]
        rw [e0, eqB, nl_nil, hnil]; rfl
      have HE : Hid (rAll (nl s) = (ns, 0)) := by
        show _ = _
        rw [← HF.out.2, hnil, rdn_nil]
      clear hnil
      go_wp2
      go_ret2
      exact ⟨A, n, c, retsl (by rw [HE.out]; rfl), by rw [HE.out]; exact HL.out, by rw [HE.out]; exact HR.out⟩
end Go.Proofs.Ytlkcelmamenhpaa
