/- The reader and the closure that it makes. -/
import Derived.Test.YtlkcelmamenhpaaPkC5
namespace Go.Proofs.Ytlkcelmamenhpaa
open Go.ChangeShapes Go.WideShapes Go.ChangeAt Go.RowKit Go.Deep
theorem one1_dec {r : List Nat} (h : lead r ≠ r.length) : (one1 r).1 = (dec (r.take (lead r + 1))).1 ∧ (one1 r).2.1 = (dec (r.take (lead r + 1))).2 ∧ ((one1 r).1 = 0 → (one1 r).2.2 = lead r + 1) := by
  have hl := lead_le r
  have e1 : (r.take (lead r + 1)).length = lead r + 1 := by rw [List.length_take]; omega
  have e2 : (r.take (lead r + 1)).getD (lead r) 0 = r.getD (lead r) 0 := by simp [List.getD]
  unfold one1 dec
  rw [if_neg h, e1, Nat.add_sub_cancel, e2]
  by_cases a : 0 < lead r ∧ r.getD (lead r) 0 = 0
  · rw [if_pos a, if_pos ⟨by omega, a.2⟩]; exact ⟨rfl, rfl, fun e => by cases e⟩
  · rw [if_neg a, if_neg (show ¬ (1 < lead r + 1 ∧ r.getD (lead r) 0 = 0) from fun b => a ⟨by omega, b.2⟩)]
    by_cases b : 9 < lead r + 1
    · rw [if_pos b, if_pos b]; exact ⟨rfl, rfl, fun e => by cases e⟩
    · rw [if_neg b, if_neg b]
      by_cases c : 4611686018427387904 < val7 (r.take (lead r + 1))
      · rw [if_pos c, if_pos c]; exact ⟨rfl, rfl, fun e => by cases e⟩
      · rw [if_neg c, if_neg c]; exact ⟨rfl, rfl, fun _ => rfl⟩
theorem lead_at : ∀ {l : List Nat} {q : Nat}, q ≤ l.length → (∀ j, j < q → 128 ≤ l.getD j 0) → (q < l.length → l.getD q 0 < 128) → lead l = q
  | [], q, h, _, _ => by simp at h; subst h; rfl
  | b :: t, 0, _, _, h2 => by
    have := h2 (by simp)
    rw [lead, if_neg]; simpa using this
  | b :: t, q + 1, h, h1, h2 => by
    have hb : 128 ≤ b := by simpa using h1 0 (by omega)
    rw [lead, if_pos hb, lead_at (q := q) (by simpa using h) (fun j hj => by simpa using h1 (j + 1) (by omega)) (fun hq => by simpa using h2 (by simpa using hq))]
theorem lead_drop {l : List Nat} {p q : Nat} (hp : p ≤ q) (hq : q ≤ l.length) (h1 : ∀ j, p ≤ j → j < q → 128 ≤ l.getD j 0) (h2 : q < l.length → l.getD q 0 < 128) : lead (l.drop p) = q - p := by
  have g : ∀ j, (l.drop p).getD j 0 = l.getD (p + j) 0 := fun j => by simp [List.getD]
  refine lead_at (by rw [List.length_drop]; omega) (fun j hj => by rw [g]; exact h1 _ (by omega) (by omega)) (fun hl => ?_)
  rw [List.length_drop] at hl
  rw [g, show p + (q - p) = q by omega]
  exact h2 (by omega)
def cellInt (w : World) (b : Nat) : Nat := match w.cell? ⟨b, 0, none⟩ with | some (.int _ z) => z.toNat | _ => 0
theorem cellInt_of {w : World} {b : Nat} {k : IntKind} {q : Nat} {e : TypeId} (h : Blk w b #[.int k (q : Int)] e) : cellInt w b = q := by
  unfold cellInt
  rw [h.cell (o := 0) (v := .int k (q : Int)) rfl]; simp
/-- What a call of the closure leaves: the place goes on. -/
def Nxt (ba : Nat) (s : ByteArray) (p : Nat) (w : World) (r : Ending) (w' : World) : Prop :=
  ∃ (e n p' : Nat) (f : Bool), r = .returned (.tuple #[.int .i64 (n : Int), .bool f, .int .i64 (e : Int)]) ∧ (one1 ((nl s).drop p)).1 = e ∧ (e = 0 → (one1 ((nl s).drop p)).2.1 = n) ∧ (e = 0 → p' = p + (one1 ((nl s).drop p)).2.2) ∧ (e = 0 → f = true) ∧ p' ≤ s.size ∧ Blk w' ba #[.int .i64 (p' : Int)] 3 ∧ But (Just ba) w w'
theorem rett {a b c d : Int} {f g : Bool} (h : a = c) (h2 : f = g) (k : b = d) : Ending.returned (.tuple #[.int .i64 a, .bool f, .int .i64 b]) = .returned (.tuple #[.int .i64 c, .bool g, .int .i64 d]) := by rw [h, k, h2]
theorem next_end (ba bs : Nat) (s : ByteArray) (w : World) (ha : Blk w ba #[.int .i64 (s.size : Int)] 3) (hb : Blk w bs #[.string s] 9) :
    Calls Try.prog 40 #[.pointer (some ⟨ba, 0, none⟩), .pointer (some ⟨bs, 0, none⟩)] w fun e w' => e = .returned (.tuple #[.int .i64 0, .bool false, .int .i64 0]) ∧ w = w' := by
  have ca := ha.cell (o := 0) (v := .int .i64 (s.size : Int)) rfl
  have cb := hb.cell (o := 0) (v := .string s) rfl
  clear ha hb
  go_enter Try.func40, Try.ntmps40
  go_wp2
  go_ret3
  exact ⟨rfl, rfl⟩
set_option maxRecDepth 100000 in
set_option maxHeartbeats 1000000 in
theorem next_any (ba bs : Nat) (s : ByteArray) (p : Nat) (w : World) (hs : s.size ≤ 9223372036854775807) (hp : p < s.size) (ha : Blk w ba #[.int .i64 (p : Int)] 3) (hb : Blk w bs #[.string s] 9) :
    Calls Try.prog 40 #[.pointer (some ⟨ba, 0, none⟩), .pointer (some ⟨bs, 0, none⟩)] w (Nxt ba s p w) := by
  have hne : bs ≠ ba := by
    rintro rfl
    unfold Blk at ha hb
    rw [ha] at hb
    simp at hb
  have HA := Lib.hid ha
  have HB := Lib.hid hb
  have ca := ha.cell (o := 0) (v := .int .i64 (p : Int)) rfl
  have cb := hb.cell (o := 0) (v := .string s) rfl
  have ht0 : ((p : Int) == (s.size : Int)) = false := by rw [beq_eq_false_iff_ne]; omega
  clear ha hb
  go_enter Try.func40, Try.ntmps40
  go_wp2
  clear ca cb
  go_loopw [13] (fun _ wr => ∃ q : Nat, p ≤ q ∧ q ≤ s.size ∧ Hid (∀ j, p ≤ j → j < q → 128 ≤ (nl s).getD j 0) ∧ Hid (Blk wr ba #[.int .i64 (q : Int)] 3) ∧ Hid (But (Just ba) w wr)) (fun _ wr => s.size - cellInt wr ba)
  case atStart => exact ⟨p, Nat.le_refl _, by omega, fun j h1 h2 => absurd h2 (by omega), HA, But.refl _ _⟩
  case round =>
    obtain ⟨q, hpq, hq, HG, HQ, HW⟩ := hrel
    have HB2 := Lib.hid (HB.out.but HW.out hne)
    have ca := HQ.out.cell (o := 0) (v := .int .i64 (q : Int)) rfl
    have cb := HB2.out.cell (o := 0) (v := .string s) rfl
    have cf := HQ.out.frozen 0
    have HM := Lib.hid (cellInt_of HQ.out)
    by_cases hlt : q < s.size
    · have ht1 : decide ((q : Int) < (s.size : Int)) = true := by simp; omega
      have ht2 : ((q : Int) == (s.size : Int)) = false := by rw [beq_eq_false_iff_ne]; omega
      by_cases hg : 128 ≤ s[q].toNat
      · have ht3 : decide ((128 : Int) ≤ (s[q].toNat : Int)) = true := by simp; omega
        have HG2 : Hid (∀ j, p ≤ j → j < q + 1 → 128 ≤ (nl s).getD j 0) := by
          intro j h1 h2
          by_cases e : j = q
          · subst e; rw [nl_at s j hlt]; exact hg
          · exact HG.out j h1 (by omega)
        have HQ2 : Hid (Blk (wr.setCell ⟨ba, 0, none⟩ (.int .i64 ((q : Int) + 1))) ba #[.int .i64 ((q + 1 : Nat) : Int)] 3) := HQ.out.set 0 _
        have HM2 := Lib.hid (cellInt_of HQ2.out)
        go_wp2
        go_roundw
        case rel => exact ⟨q + 1, by omega, by omega, HG2, HQ2, HW.out.setCell (just ba) _⟩
        case measure => rw [HM.out, HM2.out]; omega
      · have ht3 : decide ((128 : Int) ≤ (s[q].toNat : Int)) = false := by simp; omega
        have HQ2 : Hid (Blk (wr.setCell ⟨ba, 0, none⟩ (.int .i64 ((q : Int) + 1))) ba #[.int .i64 ((q + 1 : Nat) : Int)] 3) := HQ.out.set 0 _
        have HW2 : Hid (But (Just ba) w (wr.setCell ⟨ba, 0, none⟩ (.int .i64 ((q : Int) + 1)))) := HW.out.setCell (just ba) _
        have HLD : Hid (lead ((nl s).drop p) = q - p) := lead_drop hpq (by rw [nl_len]; omega) HG.out (fun _ => by rw [nl_at s q hlt]; omega)
        have HT : Hid (nl (s.extract p (q + 1)) = ((nl s).drop p).take (lead ((nl s).drop p) + 1)) := by
          show _ = _
          rw [nl_extract, HLD.out, show q + 1 - p = q - p + 1 by omega]
        have htl : (s.extract p (q + 1)).size = q + 1 - p := by
          rw [← nl_len, nl_extract, List.length_take, List.length_drop, nl_len]; omega
        have HO : Hid ((one1 ((nl s).drop p)).1 = (dec (nl (s.extract p (q + 1)))).1 ∧ (one1 ((nl s).drop p)).2.1 = (dec (nl (s.extract p (q + 1)))).2 ∧ ((one1 ((nl s).drop p)).1 = 0 → (one1 ((nl s).drop p)).2.2 = q + 1 - p)) := by
          have := one1_dec (r := (nl s).drop p) (by rw [HLD.out, List.length_drop, nl_len]; omega)
          rw [← HT.out, HLD.out] at this
          exact ⟨this.1, this.2.1, fun e => by rw [this.2.2 e]; omega⟩
        have hz1 : 0 < (s.extract p (q + 1)).size := by rw [htl]; omega
        have hz2 : (s.extract p (q + 1)).size ≤ 9223372036854775807 := by rw [htl]; omega
        have hsl : ∀ W : World, (Instr.slice 9 (.string s) (some (.int .i64 (p : Int))) (some (.int .i64 ((q : Int) + 1))) none).run Try.prog W = .ok (.string (s.extract p (q + 1))) W := fun W => by
          have := run_slice_string (P := Try.prog) W 9 s .i64 .i64 (p : Int) ((q : Int) + 1) Try.underlying9 (by omega) (by omega) (by omega)
          rw [this]; rfl
        clear HT htl HLD
        generalize s.extract p (q + 1) = t at *
        have CD : ∀ W, Hid (Calls Try.prog 41 #[.string t] W fun e w' => e = .returned (.tuple #[.int .i64 ((dec (nl t)).2 : Nat), .int .i64 ((dec (nl t)).1 : Nat)]) ∧ W = w') := fun W => decode_any t W hz2 hz1
        obtain ⟨HO1, HO2, HO3⟩ := HO.out
        rw [← HO1, ← HO2] at CD
        clear HO
        have HO3' := Lib.hid HO3
        clear HO3 HO1 HO2
        generalize hE : (one1 ((nl s).drop p)).1 = E at *
        generalize hV : (one1 ((nl s).drop p)).2.1 = V at *
        have HEE := Lib.hid hE
        have HVV := Lib.hid hV
        clear hE hV
        by_cases he : E = 0
        · subst he
          go_wp2_with (go_at_call 41; refine (CD _).out.mono ?_; rintro e w' ⟨rfl, rfl⟩)
          go_ret3
          exact ⟨0, V, q + 1, true, rfl, HEE.out, fun _ => HVV.out, fun _ => by rw [HO3'.out trivial]; omega, fun _ => rfl, by omega, HQ2.out, HW2.out⟩
        · have het : ((E : Int) == 0) = false := by rw [beq_eq_false_iff_ne]; omega
          go_wp2_with (go_at_call 41; refine (CD _).out.mono ?_; rintro e w' ⟨rfl, rfl⟩)
          go_ret3
          exact ⟨E, V, q + 1, false, rfl, HEE.out, fun h => absurd h he, fun h => absurd h he, fun h => absurd h he, by omega, HQ2.out, HW2.out⟩
    · obtain rfl : q = s.size := by omega
      have HE : Hid (one1 ((nl s).drop p) = (6, 0, 0)) := by
        show _ = _
        unfold one1
        rw [lead_drop (l := nl s) (p := p) (q := s.size) (by omega) (by rw [nl_len]; exact Nat.le_refl _) HG.out (fun h => by rw [nl_len] at h; omega), if_pos (by rw [List.length_drop, nl_len])]
      go_wp2
      go_ret3
      exact ⟨6, 0, s.size, false, rfl, by rw [HE.out], (fun h => by cases h), (fun h => by cases h), (fun h => by cases h), Nat.le_refl _, HQ.out, HW.out⟩
/-- What the reader makes: a place and the string. -/
theorem reader_any (s : ByteArray) (w : World) : Calls Try.prog 32 #[.string s] w fun e w' => e = .returned (.func (.func 40) #[] #[.pointer (some ⟨w.heap.size + 1, 0, none⟩), .pointer (some ⟨w.heap.size, 0, none⟩)]) ∧ Blk w' (w.heap.size + 1) #[.int .i64 0] 3 ∧ Blk w' w.heap.size #[.string s] 9 ∧ But No w w' := by
  go_enter Try.func32, Try.ntmps32
  go_wp2
  go_ret
  exact ⟨rfl, blk2 _ _ _ _, (Blk.new _ _ _).alloc _, ((But.refl _ _).alloc _).alloc _⟩
end Go.Proofs.Ytlkcelmamenhpaa
