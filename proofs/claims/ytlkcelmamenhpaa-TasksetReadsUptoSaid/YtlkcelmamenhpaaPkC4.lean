/- The string of a row of bytes; the contract of Write. -/
import Derived.Test.YtlkcelmamenhpaaPkC3
namespace Go.Proofs.Ytlkcelmamenhpaa
open Go.ChangeShapes Go.WideShapes Go.ChangeAt Go.RowKit Go.Deep
def bl (l : List Nat) : ByteArray := ⟨(l.map UInt8.ofNat).toArray⟩
theorem nl_bl {l : List Nat} (h : ∀ b ∈ l, b < 256) : nl (bl l) = l := by
  unfold bl
  rw [nl_mk, List.map_map]
  have e : l.map (UInt8.toNat ∘ UInt8.ofNat) = l.map id := List.map_congr_left (fun b hb => by
    have := h b hb
    simp [Nat.mod_eq_of_lt this])
  rw [e, List.map_id]
theorem conv_row {w0 w : World} {A : Option Addr} {n c : Nat} {ns : List Nat} (h : Oc 5 .u8 w0 w (.slice A n c) ns) (hl : ns.length = n) : (convert 69 9 (.slice A n c)).run Try.prog w = .ok (.string (bl ns)) w := by
  have h1 := h.own
  rcases h1.2 with ⟨e, h0⟩ | ⟨g, cap, cur, hv, _, hh, hc, _, hs, ht⟩
  · cases e
    have : ns = [] := List.eq_nil_of_length_eq_zero h0
    subst this
    exact run_convert_bytes_nil w 69 5 Try.underlying69 Try.underlying5 _ _ 9 Try.underlying9
  · cases hv
    have hr := run_convert_bytes_arg w 69 5 Try.underlying69 Try.underlying5 g 0 ns.length c (ns.map (fun b : Nat => (b : Int))) (by simp) (fun i hi => by
      rw [Nat.zero_add]
      refine Blk.cell hh ?_
      have e : (cur.toList.take (ns.length * 1))[i]? = some (.int .u8 ((ns.map (fun b : Nat => (b : Int))).getD i 0)) := by
        rw [ht]; simp [hi, cv, List.getD]
      rw [List.getElem?_take, if_pos (by omega)] at e
      simpa using e) 9 Try.underlying9
    rw [hr]
    unfold strOfNums bl
    simp [List.map_map, Function.comp_def]
theorem enc7_lt (n : Nat) : ∀ b ∈ enc7 n, b < 256 := by
  obtain ⟨m, z, e, hm⟩ := enc7_num n
  intro b hb
  rw [e] at hb
  rcases List.mem_append.1 hb with h | h
  · exact (hm.hi b h).2
  · have := hm.lo; simp at h; omega
theorem wrt_lt (l : List Nat) : ∀ b ∈ wrt l, b < 256 := by
  intro b hb
  unfold wrt at hb
  obtain ⟨n, _, h⟩ := List.mem_flatMap.1 hb
  exact enc7_lt n b h
def good (z : Int) : Bool := decide (0 ≤ z) && decide (z ≤ 4611686018427387904)
def wErr (zs : List Int) : Nat := if 2000 < zs.length then 7 else if zs.all good then 0 else 1
def wOut (zs : List Int) : List Nat := if wErr zs = 0 then wrt (zs.map Int.toNat) else []
/-- A string and an error. -/
def RetStr (w : World) (e : Nat) (l : List Nat) (r : Ending) (w' : World) : Prop := ∃ t : ByteArray, r = .returned (.tuple #[.string t, .int .i64 (e : Int)]) ∧ nl t = l ∧ But No w w'
theorem wErr_bad {zs : List Int} {k : Nat} (hn : zs.length ≤ 2000) (hk : k < zs.length) (hb : good (zs.getD k 0) = false) : wErr zs = 1 := by
  unfold wErr
  rw [if_neg (by omega), if_neg]
  intro h
  rw [List.all_eq_true] at h
  have := h (zs.getD k 0) (by simp [List.getD, List.getElem?_eq_getElem hk])
  rw [hb] at this; cases this
theorem wErr_good {zs : List Int} (hn : zs.length ≤ 2000) (h : ∀ j, j < zs.length → good (zs.getD j 0) = true) : wErr zs = 0 := by
  unfold wErr
  rw [if_neg (by omega), if_pos]
  rw [List.all_eq_true]
  intro z hz
  obtain ⟨j, hj, rfl⟩ := List.getElem_of_mem hz
  have := h j hj
  simpa [List.getD, List.getElem?_eq_getElem hj] using this
theorem wrt_take {zs : List Int} {k m : Nat} (hk : k < zs.length) (hz : zs.getD k 0 = (m : Int)) : wrt ((zs.take k).map Int.toNat) ++ enc7 m = wrt ((zs.take (k + 1)).map Int.toNat) := by
  rw [take_snoc hk, List.map_append, wrt_append, hz]
  simp [wrt]
theorem wrt_len {ns : List Nat} (h : ∀ n ∈ ns, n ≤ 4611686018427387904) : (wrt ns).length ≤ 9 * ns.length := by
  induction ns with
  | nil => simp [wrt]
  | cons n t ih =>
    have := ih (fun m hm => h m (by simp [hm]))
    have h9 := enc7_len_le (h n (by simp))
    rw [wrt_cons, List.length_append, List.length_cons]; omega
theorem retse {t : ByteArray} {a b : Int} (h : a = b) : Ending.returned (.tuple #[.string t, .int .i64 a]) = .returned (.tuple #[.string t, .int .i64 b]) := by rw [h]
theorem nl_nil : nl ⟨#[]⟩ = [] := rfl
set_option maxRecDepth 100000 in
set_option maxHeartbeats 1000000 in
theorem write_any (A : Option Addr) (n c : Nat) (zs : List Int) (w : World) (hz : Rl w A n zs) : Calls Try.prog 17 #[.slice A n c] w (RetStr w (wErr zs) (wOut zs)) := by
  have hlz := hz.len
  have hmx := hz.max
  have HL := Lib.hid hlz
  have HZ := Lib.hid hz
  clear hlz hz
  by_cases hn : 2000 < n
  · have HE : Hid (wErr zs = 7) := by show _ = _; unfold wErr; rw [HL.out, if_pos hn]
    go_enter Try.func17, Try.ntmps17
    go_wp2
    go_ret2
    exact ⟨⟨#[]⟩, retse (by rw [HE.out]; rfl), by unfold wOut; rw [HE.out]; rfl, But.refl _ _⟩
  · go_enter Try.func17, Try.ntmps17
    go_wp2
    go_loopw [4, 12] (fun u i wr => ∃ (A' : Option Addr) (n' c' : Nat) (k : Nat), u = .slice A' n' c' ∧ i = .int .i64 (k : Int) ∧ k ≤ n ∧ n' ≤ 9 * k ∧ Hid ((wrt ((zs.take k).map Int.toNat)).length = n') ∧ Hid (Oc 5 .u8 w wr (.slice A' n' c') (wrt ((zs.take k).map Int.toNat))) ∧ Hid (∀ j, j < k → good (zs.getD j 0) = true)) (fun _ i _ => n - (intOf i).toNat)
    case atStart => exact ⟨none, 0, 0, 0, rfl, rfl, by omega, by omega, rfl, Oc.nil (But.refl _ _), fun j hj => absurd hj (by omega)⟩
    case round =>
      obtain ⟨A', n', c', k, rfl, rfl, hk, hn', HN, HO, HG⟩ := hrel
      by_cases hlt : k < n
      · obtain ⟨b, off, rfl, hb, hc⟩ := (HZ.out.no HO.out.but).at_ (by omega)
        have hck := hc k hlt
        clear hc
        obtain ⟨z, hze⟩ : ∃ z, z = zs.getD k 0 := ⟨_, rfl⟩
        rw [← hze] at hck
        by_cases h0 : z < 0
        · have HE : Hid (wErr zs = 1) := wErr_bad (by rw [HL.out]; omega) (by rw [HL.out]; exact hlt) (by rw [← hze]; unfold good; simp; omega)
          clear hze
          go_wp2
          go_ret2
          exact ⟨⟨#[]⟩, retse (by rw [HE.out]; rfl), by unfold wOut; rw [HE.out]; rfl, HO.out.but⟩
        · by_cases h1 : 4611686018427387904 < z
          · have HE : Hid (wErr zs = 1) := wErr_bad (by rw [HL.out]; omega) (by rw [HL.out]; exact hlt) (by rw [← hze]; unfold good; simp; omega)
            clear hze
            go_wp2
            go_ret2
            exact ⟨⟨#[]⟩, retse (by rw [HE.out]; rfl), by unfold wOut; rw [HE.out]; rfl, HO.out.but⟩
          · obtain ⟨m, rfl⟩ : ∃ m : Nat, z = (m : Int) := ⟨z.toNat, by omega⟩
            have hm : m ≤ 4611686018427387904 := by omega
            have HW : Hid (wrt ((zs.take k).map Int.toNat) ++ enc7 m = wrt ((zs.take (k + 1)).map Int.toNat)) := wrt_take (by rw [HL.out]; exact hlt) hze.symm
            have HG' : Hid (∀ j, j < k + 1 → good (zs.getD j 0) = true) := by
              intro j hj
              by_cases e : j = k
              · subst e; rw [← hze]; unfold good; simp; omega
              · exact HG.out j (by omega)
            have h9 := enc7_len_le hm
            have HN2 : Hid ((wrt ((zs.take (k + 1)).map Int.toNat)).length = n' + (enc7 m).length) := by show _ = _; rw [← HW.out, List.length_append, HN.out]
            clear hze
            go_wp2_with (go_at_call 33; refine (appendNumber_any _ _ _ _ _ w _ HN.out HO.out hm (by omega)).mono ?_; rintro e w2 ⟨A2, n2, c2, rfl, hl2, ho2⟩; rw [HW.out] at hl2 ho2; have HL2 := Lib.hid hl2; have HO2 := Lib.hid ho2; clear hl2 ho2)
            go_roundw
            case rel => exact ⟨A2, n2, c2, k + 1, rfl, by go_num, by omega, by rw [← HL2.out, HN2.out]; omega, HL2, HO2, HG'⟩
            case measure => simp [intOf]; omega
      · obtain rfl : k = n := by omega
        have HT : Hid (zs.take k = zs) := List.take_of_length_le (by rw [HL.out]; exact Nat.le_refl _)
        have HE : Hid (wErr zs = 0) := wErr_good (by rw [HL.out]; omega) (by rw [HL.out]; exact HG.out)
        have HC := conv_row HO.out HN.out
        have HT2 : Hid (nl (bl (wrt ((zs.take k).map Int.toNat))) = wOut zs) := by show _ = _; rw [nl_bl (wrt_lt _), HT.out]; unfold wOut; rw [HE.out]; rfl
        generalize bl (wrt ((zs.take k).map Int.toNat)) = t at *
        go_wp2
        go_ret2
        exact ⟨t, retse (by rw [HE.out]; rfl), HT2.out, HO.out.but⟩
end Go.Proofs.Ytlkcelmamenhpaa
