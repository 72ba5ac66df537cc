/- Contracts with the answers named, as the laws of this layer want them. -/
import Derived.Test.YtlkcelmamenhpaaPkC10
namespace Go.Proofs.Ytlkcelmamenhpaa
open Go.ChangeShapes Go.WideShapes Go.ChangeAt Go.RowKit Go.Deep
def ofN (ns : List Nat) : List Int := ns.map (fun n : Nat => (n : Int))
theorem Oc.rl {w0 w : World} {A : Option Addr} {n c : Nat} {ns : List Nat} (h : Oc 3 .i64 w0 w (.slice A n c) ns) (hn : ns.length ≤ 100000) : Rl w A n (ofN ns) := by
  have h1 : Ov w (.slice A n c) (ofN ns) := by
    unfold Ov ofN
    rw [List.length_map, List.map_map]
    exact h.own
  exact (h1.rl (by unfold ofN; rw [List.length_map]; exact hn)).1
theorem toNat_ofN {zs : List Int} (h : ∀ z ∈ zs, 0 ≤ z) : ofN (zs.map Int.toNat) = zs := by
  unfold ofN
  rw [List.map_map]
  have e : zs.map ((fun n : Nat => (n : Int)) ∘ Int.toNat) = zs.map id := List.map_congr_left (fun z hz => by
    have := h z hz
    simp; omega)
  rw [e, List.map_id]
theorem ofN_toNat (ns : List Nat) : (ofN ns).map Int.toNat = ns := by
  unfold ofN
  rw [List.map_map]
  have e : ns.map (Int.toNat ∘ (fun n : Nat => (n : Int))) = ns.map id := List.map_congr_left (fun z _ => by simp)
  rw [e, List.map_id]
theorem wErr_zero {zs : List Int} (h : wErr zs = 0) : zs.length ≤ 2000 ∧ ∀ z ∈ zs, 0 ≤ z ∧ z ≤ 4611686018427387904 := by
  unfold wErr at h
  by_cases h1 : 2000 < zs.length
  · rw [if_pos h1] at h; cases h
  · rw [if_neg h1] at h
    by_cases h2 : zs.all good = true
    · refine ⟨by omega, fun z hz => ?_⟩
      have := List.all_eq_true.1 h2 z hz
      unfold good at this
      simpa using this
    · rw [if_neg h2] at h; cases h
theorem wErr_cases (zs : List Int) : wErr zs = 0 ∨ wErr zs = 1 ∨ wErr zs = 7 := by
  unfold wErr
  by_cases h1 : 2000 < zs.length
  · rw [if_pos h1]; exact .inr (.inr rfl)
  · rw [if_neg h1]
    by_cases h2 : zs.all good = true
    · rw [if_pos h2]; exact .inl rfl
    · rw [if_neg h2]; exact .inr (.inl rfl)
/-- What was written is read. -/
theorem read_written {zs : List Int} (h : wErr zs = 0) : rAll (wOut zs) = (zs.map Int.toNat, 0) := by
  obtain ⟨h1, h2⟩ := wErr_zero h
  unfold rAll wOut
  rw [h, if_pos rfl]
  refine rdn_all (fun n hn => ?_) (by rw [List.length_map]; exact h1)
  obtain ⟨z, hz, rfl⟩ := List.mem_map.1 hn
  have := h2 z hz
  omega
/-- What was read is written. -/
theorem write_read {s : ByteArray} {ns : List Nat} (h : rAll (nl s) = (ns, 0)) : wErr (ofN ns) = 0 ∧ wOut (ofN ns) = nl s ∧ ns.length ≤ 2000 := by
  obtain ⟨l2, e, hw, hl, hb⟩ := rdn_back (acc := []) (nl_lt s) (Nat.le_refl _) (by simp) h
  rw [List.nil_append] at e
  subst e
  have h0 : wErr (ofN ns) = 0 := by
    unfold wErr
    rw [if_neg (by unfold ofN; rw [List.length_map]; omega), if_pos]
    rw [List.all_eq_true]
    intro z hz
    unfold ofN at hz
    obtain ⟨n, hn, rfl⟩ := List.mem_map.1 hz
    have := hb n hn
    unfold good; simp; omega
  exact ⟨h0, by unfold wOut; rw [h0, if_pos rfl, ofN_toNat, hw], hl⟩
theorem wOut_lt (zs : List Int) : ∀ b ∈ wOut zs, b < 256 := by
  unfold wOut
  by_cases h : wErr zs = 0
  · rw [if_pos h]; exact wrt_lt _
  · rw [if_neg h]; simp
theorem wOut_len (zs : List Int) : (wOut zs).length ≤ 18000 := by
  unfold wOut
  by_cases h : wErr zs = 0
  · rw [if_pos h]
    obtain ⟨h1, h2⟩ := wErr_zero h
    have := wrt_len (ns := zs.map Int.toNat) (fun n hn => by
      obtain ⟨z, hz, rfl⟩ := List.mem_map.1 hn
      have := h2 z hz
      omega)
    rw [List.length_map] at this; omega
  · rw [if_neg h]; simp
/-- Write, with the string named. -/
theorem write_to {A : Option Addr} {n c : Nat} {zs : List Int} {t : ByteArray} {E : Nat} (ht : nl t = wOut zs) (hE : wErr zs = E) (W : World) (hz : Rl W A n zs) :
    Calls Try.prog 17 #[.slice A n c] W fun e w' => e = .returned (.tuple #[.string t, .int .i64 (E : Int)]) ∧ But No W w' :=
  (write_any A n c zs W hz).mono fun e w' ⟨t', he, hn, hb⟩ => by
    have : t' = t := nl_inj (by rw [hn, ht])
    subst this
    exact ⟨by rw [he, hE], hb⟩
theorem seal_to {s t : ByteArray} {E : Nat} (ht : nl t = sAns (nl s)) (hE : sErr (nl s) = E) (hs : s.size ≤ 9223372036854775807) (W : World) :
    Calls Try.prog 18 #[.string s] W fun e w' => e = .returned (.tuple #[.string t, .int .i64 (E : Int)]) ∧ But No W w' :=
  (seal_any s W hs).mono fun e w' ⟨t', he, hn, hb⟩ => by
    have : t' = t := nl_inj (by rw [hn, ht])
    subst this
    exact ⟨by rw [he, hE], hb⟩
theorem open_to {s t : ByteArray} {E : Nat} (ht : nl t = oAns (nl s)) (hE : oErr (nl s) = E) (hs : s.size ≤ 9223372036854775807) (W : World) :
    Calls Try.prog 15 #[.string s] W fun e w' => e = .returned (.tuple #[.string t, .int .i64 (E : Int)]) ∧ But No W w' :=
  (open_any s W hs).mono fun e w' ⟨t', he, hn, hb⟩ => by
    have : t' = t := nl_inj (by rw [hn, ht])
    subst this
    exact ⟨by rw [he, hE], hb⟩
theorem read_to {s : ByteArray} {ns : List Nat} {E : Nat} (h : rAll (nl s) = (ns, E)) (hs : s.size ≤ 9223372036854775807) (W : World) : Calls Try.prog 16 #[.string s] W (RetNums W E ns) := by
  have := read_any s W hs
  rw [h] at this
  exact this
/-- A sealed text is opened. -/
theorem open_sealed {L : List Nat} (h : L.length ≤ 100000) : oErr (sOut L) = 0 ∧ oAns (sOut L) = L := by
  have hc := crc_small L
  generalize hn : L.length = n at *
  have hlen : (sOut L).length = n + 2 := by unfold sOut; rw [List.length_append, hn]; rfl
  have e0 : (sOut L).take n = L := by unfold sOut; exact List.take_left' hn
  have e1 : (sOut L).getD n 0 = crc 65535 L / 256 := by unfold sOut; simp [List.getD, hn]
  have e2 : (sOut L).getD (n + 1) 0 = crc 65535 L % 256 := by unfold sOut; simp [List.getD, hn]
  have h0 : oErr (sOut L) = 0 := by
    unfold oErr
    rw [hlen, if_neg (by omega), if_neg (by omega), Nat.add_sub_cancel, show n + 2 - 1 = n + 1 by omega, e0, e1, e2, if_pos (by omega)]
  exact ⟨h0, by unfold oAns; rw [h0, if_pos rfl, hlen, Nat.add_sub_cancel, e0]⟩
end Go.Proofs.Ytlkcelmamenhpaa
