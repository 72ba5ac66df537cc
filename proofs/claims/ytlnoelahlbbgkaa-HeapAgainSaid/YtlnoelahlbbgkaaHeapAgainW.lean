/- What is taken, and put in again with its key, goes behind all of this key; and so round about: HeapAgain returns true. (The walk.) -/
import Derived.Test.YtlnoelahlbbgkaaE
namespace Go.Proofs.Ytlnoelahlbbgkaa.heapAgain
open Go.ChangeShapes Go.WideShapes Go.ChangeAt Go.RowKit
theorem ins_all {x : It} : ∀ {L : List It}, (∀ y ∈ L, y.key ≤ x.key) → ins x L = L ++ [x]
  | [], _ => rfl
  | a :: L, h => by
    have ha := h a List.mem_cons_self
    have ih := ins_all (x := x) (L := L) (fun y hy => h y (List.mem_cons_of_mem _ hy))
    unfold ins at ih ⊢
    rw [List.takeWhile_cons, List.dropWhile_cons]
    simp only [ha, decide_true, if_true, List.cons_append]
    rw [ih]
def gen (n : Nat) (key : Int) (k : Nat) : It := ⟨((k % n : Nat) : Int), key, (k : Int) + 1⟩
def fill (n : Nat) (key : Int) (i : Nat) : List It := (List.range i).map (gen n key)
def rot (n : Nat) (key : Int) (i : Nat) : List It := (List.range n).map (fun j => gen n key (i + j))
theorem fill_push (n : Nat) (key : Int) (i : Nat) (hi : i < n) (T : Int) (hT : T = i) : fill n key i ++ [⟨(i : Int), key, T + 1⟩] = fill n key (i + 1) := by
  unfold fill
  rw [List.range_succ, List.map_append]
  simp [gen, Nat.mod_eq_of_lt hi, hT]
theorem fill_key {n : Nat} {key : Int} {i : Nat} : ∀ y ∈ fill n key i, y.key ≤ key := by
  intro y hy
  obtain ⟨j, _, rfl⟩ := List.mem_map.1 hy
  exact Int.le_refl _
theorem rot_key {n : Nat} {key : Int} {i : Nat} : ∀ y ∈ rot n key i, y.key ≤ key := by
  intro y hy
  obtain ⟨j, _, rfl⟩ := List.mem_map.1 hy
  exact Int.le_refl _
theorem rot_zero (n : Nat) (key : Int) : fill n key n = rot n key 0 := by
  unfold fill rot; simp
theorem rot_cons (m : Nat) (key : Int) (i : Nat) : rot (m + 1) key i = gen (m + 1) key i :: (List.range m).map (fun j => gen (m + 1) key (i + 1 + j)) := by
  unfold rot
  rw [List.range_succ_eq_map, List.map_cons, List.map_map]
  congr 1
  apply List.map_congr_left
  intro j _
  simp only [Function.comp]
  rw [show i + (j + 1) = i + 1 + j by omega]
theorem rot_push (m : Nat) (key : Int) (i : Nat) (T : Int) (hT : T = (m : Int) + 1 + i) : (rot (m + 1) key i).tail ++ [⟨((i % (m + 1) : Nat) : Int), key, T + 1⟩] = rot (m + 1) key (i + 1) := by
  rw [rot_cons, List.tail_cons]
  unfold rot
  rw [List.range_succ, List.map_append]
  congr 1
  have e : (i + 1 + m) % (m + 1) = i % (m + 1) := by rw [show i + 1 + m = i + (m + 1) by omega, Nat.add_mod_right]
  simp only [List.map_cons, List.map_nil, gen, e]
  congr 2
  omega
theorem push_fill {n i : Nat} {key : Int} (hi : i < n) (hn : n ≤ 60) : pushE 256 (fill n key i) i = 0 := by
  have hl : (fill n key i).length = i := by unfold fill; simp
  unfold pushE
  rw [if_neg (by omega), if_neg, if_neg (by rw [hl]; omega)]
  intro hh
  obtain ⟨x, hx, e⟩ := hasI_true hh
  obtain ⟨j, hj, rfl⟩ := List.mem_map.1 hx
  have := List.mem_range.1 hj
  simp only [gen] at e
  rw [Nat.mod_eq_of_lt (by omega)] at e
  omega
theorem push_rot {w : World} {S : Nat → Prop} {p m i : Nat} {R T key : Int} (hm : m + 1 ≤ 60) (h : HP w S p R T (rot (m + 1) key i)) (hR : R = 256) : pushE R (rot (m + 1) key i).tail ((i % (m + 1) : Nat) : Int) = 0 := by
  have hl : (rot (m + 1) key i).length = m + 1 := by unfold rot; simp
  have hnd := h.nd
  subst hR
  rw [rot_cons] at hnd hl ⊢
  rw [List.pairwise_cons] at hnd
  rw [List.tail_cons]
  unfold pushE
  rw [if_neg (by omega), if_neg, if_neg (by simp only [List.length_cons] at hl; omega)]
  intro hh
  obtain ⟨x, hx, e⟩ := hasI_true hh
  exact hnd.1 x hx e.symm
theorem first_rot (m : Nat) (key : Int) (i : Nat) : fst1 (rot (m + 1) key i) = ((i % (m + 1) : Nat) : Int) ∧ fst2 (rot (m + 1) key i) = key ∧ fst3 (rot (m + 1) key i) = true := by
  rw [rot_cons]; exact ⟨rfl, rfl, rfl⟩
theorem Hw.push_fill {w0 w w' : World} {S : Nat → Prop} {p n i : Nat} {key : Int} (hi : i < n) (hn : n ≤ 60) (h : Hw w0 w S p 256 i (fill n key i)) (hm : Mv w S p 256 (pushT 256 i (fill n key i) i) (pushL 256 i (fill n key i) i key) w') : ∃ S', Hw w0 w' S' p 256 ((i + 1 : Nat) : Int) (fill n key (i + 1)) := by
  have e := heapAgain.push_fill (key := key) hi hn
  unfold pushT pushL at hm
  rw [if_pos e, if_pos e, ins_all fill_key, fill_push n key i hi _ rfl] at hm
  obtain ⟨S', h', _⟩ := h.step hm
  exact ⟨S', by rw [Int.natCast_add]; exact h'⟩
theorem Hw.push_rot {w0 w w' : World} {S : Nat → Prop} {p m i : Nat} {key T : Int} (hT : T = (m : Int) + 1 + i) (h : Hw w0 w S p 256 T (rot (m + 1) key i).tail) (e : pushE 256 (rot (m + 1) key i).tail ((i % (m + 1) : Nat) : Int) = 0)
    (hm : Mv w S p 256 (pushT 256 T (rot (m + 1) key i).tail ((i % (m + 1) : Nat) : Int)) (pushL 256 T (rot (m + 1) key i).tail ((i % (m + 1) : Nat) : Int) key) w') : ∃ S', Hw w0 w' S' p 256 (T + 1) (rot (m + 1) key (i + 1)) := by
  unfold pushT pushL at hm
  rw [if_pos e, if_pos e, ins_all (fun y hy => rot_key (i := i) y (List.mem_of_mem_tail hy)), rot_push m key i T hT] at hm
  obtain ⟨S', h', _⟩ := h.step hm
  exact ⟨S', h'⟩
set_option maxHeartbeats 4000000 in
set_option maxRecDepth 100000 in
theorem walk (a0 a1 a2 : Int) (w0 : (Lit.int .i64 a0).wf = true) (w2 : (Lit.int .i64 a2).wf = true) (w : World) :
    Calls Try.prog 8 #[.int .i64 a0, .int .i64 a1, .int .i64 a2] w fun e w' => e = .returned (.bool true) ∧ But No w w' := by
  have R0 := Lib.hid (inR_of w0)
  have R2 := Lib.hid (inR_of w2)
  have k0 := pk_lt a0 60 (by omega)
  have k2 := pk_lt a2 200 (by omega)
  obtain ⟨m, hm⟩ : ∃ m : Nat, (m : Int) = pk a0 60 := ⟨(pk a0 60).toNat, by omega⟩
  obtain ⟨n, hn⟩ : ∃ n : Nat, n = m + 1 := ⟨_, rfl⟩
  obtain ⟨t, ht⟩ : ∃ t : Nat, pk a2 200 = (t : Int) := ⟨(pk a2 200).toNat, by omega⟩
  have hn1 : 1 + pk a0 60 = (n : Int) := by omega
  have hn60 : n ≤ 60 := by omega
  have ht200 : t < 200 := by omega
  have n0 : 0 < n := by omega
  have hm60 : m < 60 := by omega
  have HN : Hid (n = m + 1) := hn
  clear w0 w2 hm hn k0 k2
  have CP : Hid (∀ w, Calls Try.prog 12 #[.int .i64 a2, .int .i64 200] w fun r w' => r = .returned (.int .i64 (t : Int)) ∧ w = w') := fun w => by rw [← ht]; exact pick_any a2 200 w R2.out (by omega) (by omega)
  clear ht
  go_enter Try.func8, Try.ntmps8
  go_wp2_with (first
    | (go_at_call 9; refine (examples_any _).mono ?_; rintro e we ⟨rfl, hbe⟩; have HE := Lib.hid hbe; clear hbe)
    | (go_at_call 10; refine (new_ok 256 _ (by omega) (by omega)).mono ?_; rintro e w1 ⟨rfl, hne⟩; have HN1 := Lib.hid hne; clear hne)
    | (go_at_call 12; refine (pick_any a0 60 _ R0.out (by omega) (by omega)).mono ?_; rintro e w2 ⟨rfl, rfl⟩))
  have H1 : Hid (∃ S, Hw w w1 S (we.heap.size + 1) 256 ((0 : Nat) : Int) (fill n a1 0)) := by
    obtain ⟨S, hp, hb, hs⟩ := HN1.out
    exact ⟨S, hp, HE.out.trans hb, fun k hk => Nat.le_trans HE.out.size (hs k hk)⟩
  clear HN1
  go_loopw [11] (fun s wr => ∃ i : Nat, s = .int .i64 i ∧ i ≤ n ∧ Hid (∃ S, Hw w wr S (we.heap.size + 1) 256 i (fill n a1 i))) (fun s _ => n - (intOf s).toNat)
  case atStart => exact ⟨0, rfl, by omega, H1⟩
  case round =>
    obtain ⟨i, rfl, hin, hex⟩ := hrel
    clear H1
    by_cases hlt : i < n
    · obtain ⟨S, hs⟩ := hex.out
      have HS := Lib.hid hs
      clear hs hex
      go_wp2_with (go_at_call 13; refine (push_any _ 256 i (fill n a1 i) S _ i a1 (inR_small (by omega)) HS.out.hp (by omega)).mono ?_; rintro e w3 ⟨rfl, hm⟩; have HM := Lib.hid hm; clear hm)
      go_roundw
      case rel => exact ⟨i + 1, by go_num, by omega, Hw.push_fill hlt hn60 HS.out HM.out⟩
      case measure => simp [intOf]; omega
    · obtain rfl : i = n := by omega
      have H2 : Hid (∃ S, Hw w wr S (we.heap.size + 1) 256 ((m : Int) + 1 + ((0 : Nat) : Int)) (rot (m + 1) a1 0)) := by
        obtain ⟨S, hs⟩ := hex.out
        rw [rot_zero, HN.out] at hs
        exact ⟨S, by rw [show (m : Int) + 1 + ((0 : Nat) : Int) = ((m + 1 : Nat) : Int) by omega]; exact hs⟩
      clear hex
      go_wp2_with fail
      go_loopw [12] (fun s wr => ∃ j : Nat, s = .int .i64 j ∧ j ≤ t ∧ Hid (∃ S, Hw w wr S (we.heap.size + 1) 256 ((m : Int) + 1 + j) (rot (m + 1) a1 j))) (fun s _ => t - (intOf s).toNat)
      case atStart => exact ⟨0, rfl, by omega, H2⟩
      case round =>
        obtain ⟨j, rfl, hjt, hex⟩ := hrel
        clear H2
        obtain ⟨S, hs⟩ := hex.out
        have HS := Lib.hid hs
        clear hs hex
        by_cases hlt : j < t
        · obtain ⟨v1, v2, v3⟩ := first_rot m a1 j
          obtain ⟨r, hr⟩ : ∃ r : Nat, r = j % (m + 1) := ⟨_, rfl⟩
          have hrm : (j : Int) % (i : Int) = (r : Int) := by rw [hr, HN.out]; simp
          have e0 : Hid (pushE 256 (rot (m + 1) a1 j).tail (r : Int) = 0) := by
            have := push_rot (i := j) (by have := HN.out; omega) HS.out.hp rfl
            rw [← hr] at this; exact this
          have HR := Lib.hid hr
          rw [← hr] at v1
          have hr60 : r < 60 := by have := Nat.mod_lt j (show 0 < m + 1 by omega); have := HN.out; omega
          have jlt : (j : Int) < (t : Int) := by omega
          have i0 : ¬ (i : Int) = 0 := by omega
          have ip : (0 : Int) < (i : Int) := by omega
          obtain ⟨tl, htl⟩ : ∃ tl, tl = (rot (m + 1) a1 j).tail := ⟨_, rfl⟩
          have CPop : Hid (∀ r1 r2 r3, r1 = fst1 (rot (m + 1) a1 j) → r2 = fst2 (rot (m + 1) a1 j) → r3 = fst3 (rot (m + 1) a1 j) → Calls Try.prog 15 #[.pointer (some ⟨we.heap.size + 1, 0, none⟩)] wr fun e w' => e = .returned (.tuple #[.int .i64 r1, .int .i64 r2, .bool r3]) ∧ Mv wr S (we.heap.size + 1) 256 ((m : Int) + 1 + j) tl w') := by
            intro r1 r2 r3 h1 h2 h3
            rw [h1, h2, h3, htl]
            exact pop_any _ 256 _ _ S wr HS.out.hp
          have CPop2 := Lib.hid (CPop.out r a1 true v1.symm v2.symm v3.symm)
          have HTL := Lib.hid htl
          clear CPop v1 v2 v3 hr htl
          go_wp2_with (first
            | (go_at_call 12; refine (CP.out _).mono ?_; rintro e w2 ⟨rfl, rfl⟩)
            | (go_at_call 15; refine CPop2.out.mono ?_; rintro e w3 ⟨rfl, hm⟩; obtain ⟨S3, h3, _⟩ := HS.out.step hm; have H3 := Lib.hid h3; clear hm h3; have hpe : pushE 256 tl (r : Int) = 0 := by rw [HTL.out]; exact e0.out)
            | (go_at_call 13; refine (push_any _ 256 ((m : Int) + 1 + j) tl S3 _ r a1 (inR_small (by omega)) H3.out.hp (by omega)).mono ?_; rintro e w4 ⟨rfl, hm⟩; have HM := Lib.hid hm; clear hm))
          go_roundw
          case rel =>
            have h3 := H3.out
            have hm := HM.out
            rw [HTL.out, HR.out] at hm
            rw [HTL.out] at h3
            have e1 := e0.out
            rw [HR.out] at e1
            obtain ⟨S', h'⟩ := Hw.push_rot rfl h3 e1 hm
            exact ⟨j + 1, by go_num, by omega, S', by rw [show (m : Int) + 1 + ((j + 1 : Nat) : Int) = (m : Int) + 1 + j + 1 by omega]; exact h'⟩
          case measure => simp [intOf]; omega
        · have jlt : decide ((j : Int) < (t : Int)) = false := by simp; omega
          have hlen : Hid ((rot (m + 1) a1 j).length = i) := by show _ = _; unfold rot; simp [HN.out]
          have CL : Hid (Calls Try.prog 28 #[.pointer (some ⟨we.heap.size + 1, 0, none⟩)] wr fun r w' => r = .returned (.int .i64 i) ∧ wr = w') := by
            have := len_any _ 256 _ _ S wr HS.out.hp
            rw [hlen.out] at this; exact this
          go_wp2_with (first
            | (go_at_call 12; refine (CP.out _).mono ?_; rintro e w2 ⟨rfl, rfl⟩)
            | (go_at_call 28; refine CL.out.mono ?_; rintro e w3 ⟨rfl, rfl⟩))
          go_ret
          exact ⟨rfl, HS.out.but⟩
end Go.Proofs.Ytlnoelahlbbgkaa.heapAgain
