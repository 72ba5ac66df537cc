/- The reader: next, fill. -/
import Derived.Test.YtlkcelmamenhpaaT3
import Derived.Test.YtlkcelmamenhpaaPkK
namespace Go.Proofs.Ytlkcelmamenhpaa
open Go.ChangeShapes Go.WideShapes Go.ChangeAt Go.RowKit Go.Deep
/-- A slice of n numbers in the block bn. -/
structure Nb (w : World) (bn : Nat) (A : Option Addr) (n c : Nat) (ns : List Nat) : Prop where
  len : ns.length = n
  cap : n ≤ c
  at_ : 0 < n → ∃ off, A = some ⟨bn, off, none⟩ ∧ bn < w.heap.size ∧ ∀ k, k < n → w.cell? ⟨bn, off + k, none⟩ = some (.int .i64 ((ns.getD k 0 : Nat) : Int))
theorem Nb.but {w w' : World} {bn : Nat} {A : Option Addr} {n c : Nat} {ns : List Nat} {S : Nat → Prop} (h : Nb w bn A n c ns) (hb : But S w w') (hs : ¬ S bn) : Nb w' bn A n c ns :=
  ⟨h.len, h.cap, fun hn => by
    obtain ⟨off, e, hl, hc⟩ := h.at_ hn
    exact ⟨off, e, Nat.lt_of_lt_of_le hl hb.size, fun k hk => by rw [hb.cell hl hs]; exact hc k hk⟩⟩
theorem Nb.next {w : World} {bn : Nat} {A : Option Addr} {n c : Nat} {x : Nat} {ns : List Nat} (h : Nb w bn A (n + 1) c (x :: ns)) : Nb w bn (if c = 1 then A else A.map (·.add (1 * 1))) n (c - 1) ns := by
  have h1 := h.len
  have h2 := h.cap
  refine ⟨by simpa using h1, by omega, fun hn => ?_⟩
  obtain ⟨off, rfl, hl, hc⟩ := h.at_ (by omega)
  refine ⟨off + 1, ?_, hl, fun k hk => ?_⟩
  · rw [if_neg (by omega), Option.map_some, add_plain]
  · rw [Nat.add_assoc, Nat.add_comm 1 k, hc (k + 1) (by omega)]
    simp
/-- A reader at br that has the numbers ns left. -/
def RD (w : World) (br bn : Nat) (ns : List Nat) : Prop := ∃ A n c, Blk w br #[.slice A n c] 60 ∧ Nb w bn A n c ns ∧ n ≤ 2000
theorem RD.but {w w' : World} {br bn : Nat} {ns : List Nat} {S : Nat → Prop} (h : RD w br bn ns) (hb : But S w w') (hs : ¬ S bn) (hr : ¬ S br) : RD w' br bn ns := by
  obtain ⟨A, n, c, h1, h2, h3⟩ := h
  exact ⟨A, n, c, h1.but hb hr, h2.but hb hs, h3⟩
abbrev nextV (br : Nat) : Value := .func (.func 28) #[.pointer (some ⟨br, 0, none⟩)] #[]
theorem next_nil {w : World} {br bn : Nat} (h : RD w br bn []) : Calls Try.prog 28 #[.pointer (some ⟨br, 0, none⟩)] w fun e w' => e = .returned (.tuple #[.int .i64 0, .bool false]) ∧ w = w' := by
  obtain ⟨A, n, c, h1, h2, _⟩ := h
  have hn := h2.len
  subst hn
  have hc : w.cell? ⟨br, 0, none⟩ = some (.slice A ([] : List Nat).length c) := h1.cell rfl
  simp only [List.length_nil] at hc
  clear h1 h2
  go_enter Try.func28, Try.ntmps28
  go_wp2
  go_ret2
  exact ⟨rfl, rfl⟩
theorem next_cons {w : World} {br bn x : Nat} {ns : List Nat} (h : RD w br bn (x :: ns)) (hne : bn ≠ br) : Calls Try.prog 28 #[.pointer (some ⟨br, 0, none⟩)] w fun e w' => e = .returned (.tuple #[.int .i64 (x : Int), .bool true]) ∧ RD w' br bn ns ∧ But (Just br) w w' := by
  obtain ⟨A, n, c, h1, h2, h3⟩ := h
  obtain ⟨m, rfl⟩ : ∃ m, n = m + 1 := ⟨ns.length, by have := h2.len; simpa using this.symm⟩
  have hc : w.cell? ⟨br, 0, none⟩ = some (.slice A (m + 1) c) := h1.cell rfl
  have hf := h1.frozen 0
  have HN := Lib.hid h2.next
  have hcap := h2.cap
  have hsl : ∀ W, (Instr.slice 44 (.slice A (m + 1) c) (some (.int .i64 1)) none none).run Try.prog W = .ok (.slice (if c = 1 then A else A.map (·.add (1 * 1))) (m + 1 - 1) (c - 1)) W := fun W => slice_from (A := A) (n := m + 1) (k := 1) (c := c) (by omega) W
  obtain ⟨off, rfl, hl, hcc⟩ := h2.at_ (by omega)
  have hc0 := hcc 0 (by omega)
  simp only [List.getD_cons_zero, Nat.add_zero] at hc0
  generalize (if c = 1 then some (⟨bn, off, none⟩ : Addr) else (some (⟨bn, off, none⟩ : Addr)).map (·.add (1 * 1))) = A2 at *
  simp only [Nat.add_sub_cancel] at hsl
  generalize c - 1 = d at *
  obtain ⟨n, hn⟩ : ∃ n, m + 1 = n := ⟨_, rfl⟩
  rw [hn] at hc hsl h3 h1 hcap
  have hz : ((n : Int) == 0) = false := by rw [beq_eq_false_iff_ne]; omega
  have h0n : 0 < n := by omega
  have H1 := Lib.hid h1
  clear h1 h2 hcc
  have HM : Hid (m + 1 = n) := hn
  clear hn
  go_enter Try.func28, Try.ntmps28
  go_wp2
  go_ret2
  refine ⟨rfl, ⟨A2, m, d, H1.out.set 0 _, HN.out.but (S := Just br) ((But.refl _ _).setCell (just br) _) hne, by have := HM.out; omega⟩, (But.refl _ _).setCell (just br) _⟩
def Two (a b : Nat) : Nat → Prop := fun k => k = a ∨ k = b
/-- What fill leaves. -/
structure Fd (w : World) (br bn ba m : Nat) (e : TypeId) (ns : List Nat) (w' : World) : Prop where
  but : But (Two br ba) w w'
  left : RD w' br bn (ns.drop m)
  vals : Vals w' ba e m (fun j => .int .i64 ((ns.getD j 0 : Nat) : Int))
theorem drop_nat {l : List Nat} {k : Nat} (h : k < l.length) : l.drop k = l.getD k 0 :: l.drop (k + 1) := by
  rw [List.drop_eq_getElem_cons h]
  simp [List.getD, List.getElem?_eq_getElem h]
set_option maxRecDepth 100000 in
set_option maxHeartbeats 1000000 in
theorem fill_any (br bn ba m : Nat) (e : TypeId) (ns : List Nat) (f : Nat → Value) (w : World) (hr : RD w br bn ns) (hne : bn ≠ br) (hab : ba ≠ br) (han : bn ≠ ba) (hv : Vals w ba e m f) (hm : m ≤ 10) :
    Calls Try.prog 37 #[.slice (some ⟨ba, 0, none⟩) m m, nextV br] w fun r w' => ∃ ok : Bool, r = .returned (.bool ok) ∧ ok = decide (m ≤ ns.length) ∧ But (Two br ba) w w' ∧ (m ≤ ns.length → Fd w br bn ba m e ns w') := by
  have HR := Lib.hid hr
  have HV := Lib.hid hv
  clear hr hv
  go_enter Try.func37, Try.ntmps37
  go_wp2
  go_loopw [10] (fun i wr => ∃ k : Nat, i = .int .i64 (k : Int) ∧ k ≤ m ∧ k ≤ ns.length ∧ Hid (But (Two br ba) w wr) ∧ Hid (RD wr br bn (ns.drop k)) ∧ Hid (Vals wr ba e m (fun j => if j < k then .int .i64 ((ns.getD j 0 : Nat) : Int) else f j))) (fun i _ => m - (intOf i).toNat)
  case atStart => exact ⟨0, rfl, by omega, by omega, But.refl _ _, HR, HV.out.congr (fun j _ => by simp)⟩
  case round =>
    obtain ⟨k, rfl, hk, hkn, HB, HD, HW⟩ := hrel
    by_cases hlt : k < m
    · by_cases hl2 : k < ns.length
      · have CN : Hid (Calls Try.prog 28 #[.pointer (some ⟨br, 0, none⟩)] wr fun e w' => e = .returned (.tuple #[.int .i64 ((ns.getD k 0 : Nat) : Int), .bool true]) ∧ RD w' br bn (ns.drop (k + 1)) ∧ But (Just br) wr w') := next_cons (by rw [← drop_nat hl2]; exact HD.out) hne
        obtain ⟨x, hx⟩ : ∃ x, x = ns.getD k 0 := ⟨_, rfl⟩
        rw [← hx] at CN
        have HX := Lib.hid hx
        clear hx
        have HVC : ∀ W, Hid (But (Just br) wr W) → (∃ u, W.cell? ⟨ba, k, none⟩ = some u) ∧ W.frozen? ⟨ba, k, none⟩ = false := fun W hb => ⟨⟨_, (HW.out.but hb.out hab).cell hlt⟩, (HW.out.but hb.out hab).frozen k⟩
        have HVC2 := Lib.hid HVC
        clear HVC
        go_wp2_with (go_at_call 28; refine CN.out.mono ?_; rintro e w2 ⟨rfl, hd2, hb2⟩; have HD2 := Lib.hid hd2; have HB2 := Lib.hid hb2; clear hd2 hb2; obtain ⟨⟨u, hu⟩, hfz⟩ := HVC2.out _ HB2)
        go_roundw
        case rel =>
          refine ⟨k + 1, by go_num, by omega, by omega, ?_, ?_, ?_⟩
          · exact (HB.out.trans (HB2.out.mono (fun j _ h => .inl h))).setCell (p := ⟨ba, k, none⟩) (.inr rfl) _
          · exact HD2.out.but (S := Just ba) ((But.refl _ _).setCell (just ba) _) han (fun h => hab h.symm)
          · refine ((HW.out.but HB2.out hab).set (k := k) _).congr (fun j _ => ?_)
            by_cases e1 : j = k
            · subst e1
              simp [HX.out]
            · by_cases e2 : j < k
              · simp [e1, e2, Nat.lt_succ_of_lt e2]
              · simp [e1, e2, show ¬ j < k + 1 by omega]
        case measure => simp [intOf]; omega
      · have hnil : ns.drop k = [] := List.drop_eq_nil_of_le (by omega)
        have CN : Hid (Calls Try.prog 28 #[.pointer (some ⟨br, 0, none⟩)] wr fun e w' => e = .returned (.tuple #[.int .i64 0, .bool false]) ∧ wr = w') := next_nil (bn := bn) (by rw [← hnil]; exact HD.out)
        clear hnil
        go_wp2_with (go_at_call 28; refine CN.out.mono ?_; rintro e w2 ⟨rfl, rfl⟩)
        go_ret
        exact ⟨false, rfl, by simp; omega, HB.out, fun h => absurd h (by omega)⟩
    · obtain rfl : k = m := by omega
      go_wp2
      go_ret
      exact ⟨true, rfl, by simp; omega, HB.out, fun _ => ⟨HB.out, HD.out, HW.out.congr (fun j hj => by simp [hj])⟩⟩
end Go.Proofs.Ytlkcelmamenhpaa
