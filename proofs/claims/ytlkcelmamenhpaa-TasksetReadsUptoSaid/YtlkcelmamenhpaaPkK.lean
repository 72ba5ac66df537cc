/- What PackCuts wants: pieces of slices and of texts. -/
import Derived.Test.YtlkcelmamenhpaaPkL
namespace Go.Proofs.Ytlkcelmamenhpaa
open Go.ChangeShapes Go.WideShapes Go.ChangeAt Go.RowKit Go.Deep
theorem Rl.take {w : World} {A : Option Addr} {n k : Nat} {zs : List Int} (h : Rl w A n zs) (hk : k ≤ n) : Rl w A k (zs.take k) := by
  have hm := h.max
  refine ⟨by rw [List.length_take, h.len]; omega, by omega, fun h0 => ?_⟩
  obtain ⟨b, off, e, hl, hc⟩ := h.at_ (by omega)
  refine ⟨b, off, e, hl, fun j hj => ?_⟩
  rw [hc j (by omega)]
  simp [List.getD, List.getElem?_take_of_lt hj]
theorem Rl.drop {w : World} {A : Option Addr} {n k c : Nat} {zs : List Int} (h : Rl w A n zs) (hk : k ≤ n) (hc : n ≤ c) : Rl w (if c = k then A else A.map (·.add (k * 1))) (n - k) (zs.drop k) := by
  have hm := h.max
  refine ⟨by rw [List.length_drop, h.len], by omega, fun h0 => ?_⟩
  obtain ⟨b, off, rfl, hl, hcell⟩ := h.at_ (by omega)
  rw [if_neg (by omega)]
  refine ⟨b, off + k, ?_, hl, fun j hj => ?_⟩
  · simp only [Option.map_some]
    rw [Nat.mul_one, add_plain]
  · rw [Nat.add_assoc, hcell (k + j) (by omega)]
    simp [List.getD]
theorem slice_to {A : Option Addr} {n k c : Nat} (hk : k ≤ c) (W : World) : (Instr.slice 44 (.slice A n c) none (some (.int .i64 (k : Int))) none).run Try.prog W = .ok (.slice A k c) W := by
  obtain ⟨i0, hi0, hi1, hi2, hi3⟩ := info_parts info3
  have he : Try.prog.elem 44 = 3 := by kernel_rfl
  have ht : Try.prog.underlying 44 = some (.slice (Try.prog.elem 44)) := by rw [he]; exact Try.underlying44
  rw [run_slice_h (P := Try.prog) W 44 A n c ht .i64 (k : Int) (by omega) (by omega), he]
  simp [sizeOf, typeInfo, hi0, sliced, Addr.add]
theorem slice_from {A : Option Addr} {n k c : Nat} (hk : k ≤ n) (W : World) : (Instr.slice 44 (.slice A n c) (some (.int .i64 (k : Int))) none none).run Try.prog W = .ok (.slice (if c = k then A else A.map (·.add (k * 1))) (n - k) (c - k)) W := by
  obtain ⟨i0, hi0, hi1, hi2, hi3⟩ := info_parts info3
  have he : Try.prog.elem 44 = 3 := by kernel_rfl
  have ht : Try.prog.underlying 44 = some (.slice (Try.prog.elem 44)) := by rw [he]; exact Try.underlying44
  rw [run_slice_l (P := Try.prog) W 44 A n c ht .i64 (k : Int) (by omega) (by omega), he]
  simp [sizeOf, typeInfo, hi0, sliced, hi2]
theorem Oc.cap {w0 w : World} {A : Option Addr} {n c : Nat} {ns : List Nat} {e : TypeId} {k : IntKind} (h : Oc e k w0 w (.slice A n c) ns) : n ≤ c := by
  have h1 := h.own
  rcases h1.2 with ⟨e, h0⟩ | ⟨g, cap, cur, hv, _, hh, hc, _⟩
  · cases e; omega
  · cases hv; omega
/-- Two lists that were written, one behind the other. -/
theorem read_both {za zb : List Int} (ha : wErr za = 0) (hb : wErr zb = 0) (hl : za.length + zb.length ≤ 2000) : rAll (wOut za ++ wOut zb) = (za.map Int.toNat ++ zb.map Int.toNat, 0) := by
  obtain ⟨h1, h2⟩ := wErr_zero ha
  obtain ⟨h3, h4⟩ := wErr_zero hb
  unfold rAll wOut
  rw [ha, if_pos rfl, hb, if_pos rfl, ← wrt_append]
  refine rdn_all (fun n hn => ?_) (by rw [List.length_append, List.length_map, List.length_map]; exact hl)
  rcases List.mem_append.1 hn with hn | hn
  · obtain ⟨z, hz, rfl⟩ := List.mem_map.1 hn
    have := h2 z hz
    omega
  · obtain ⟨z, hz, rfl⟩ := List.mem_map.1 hn
    have := h4 z hz
    omega
/-- A cut text: read, or too short; by its last byte. -/
theorem read_cut {za : List Int} {B : Nat} (ha : wErr za = 0) (hB : B < (wOut za).length) :
    ∃ ns E, rAll ((wOut za).take B) = (ns, E) ∧ ns.length ≤ za.length ∧ ((B = 0 ∧ E = 0) ∨ (0 < B ∧ (wOut za).getD (B - 1) 0 < 128 ∧ E = 0) ∨ (0 < B ∧ ¬ (wOut za).getD (B - 1) 0 < 128 ∧ E = 6)) := by
  obtain ⟨h1, h2⟩ := wErr_zero ha
  have hw : wOut za = wrt (za.map Int.toNat) := by unfold wOut; rw [ha, if_pos rfl]
  rw [hw] at hB ⊢
  obtain ⟨j, m, hj, he, hi⟩ := wrt_cut (za.map Int.toNat) B (by omega)
  have hc := rdn_cut (l := za.map Int.toNat) (m := m) (j := j) (fun n hn => by
    obtain ⟨z, hz, rfl⟩ := List.mem_map.1 hn
    have := h2 z hz
    omega) (by rw [List.length_map]; exact h1) hi
  have hlast : 0 < B → (wrt ((za.map Int.toNat).take j) ++ m).getLast? = some ((wrt (za.map Int.toNat)).getD (B - 1) 0) := fun h0 => by
    rw [← he, List.getLast?_eq_getElem?, List.length_take, Nat.min_eq_left (by omega), List.getElem?_take_of_lt (by omega)]
    have : B - 1 < (wrt (za.map Int.toNat)).length := by omega
    simp [List.getD, List.getElem?_eq_getElem this]
  have hne : 0 < B → wrt ((za.map Int.toNat).take j) ++ m ≠ [] := fun h0 e => by
    have := hlast h0
    rw [e] at this
    simp at this
  have hnl : ((za.map Int.toNat).take j).length ≤ za.length := by rw [List.length_take, List.length_map]; omega
  rw [he]
  unfold rAll
  rw [hc]
  rcases Nat.eq_zero_or_pos B with h0 | h0
  · subst h0
    have hm : m = [] := by
      have := congrArg List.length he
      rw [List.length_take, Nat.zero_min, List.length_append] at this
      exact List.eq_nil_of_length_eq_zero (by omega)
    rw [if_pos hm]
    exact ⟨_, 0, rfl, hnl, .inl ⟨rfl, rfl⟩⟩
  · have hk := cut_last (l := za.map Int.toNat) (m := m) (j := j) hi (hne h0)
    rw [hlast h0] at hk
    by_cases hm : m = []
    · rw [if_pos hm]
      obtain ⟨b, hb, hb2⟩ := hk.1 hm
      cases hb
      exact ⟨_, 0, rfl, hnl, .inr (.inl ⟨h0, hb2, rfl⟩)⟩
    · rw [if_neg hm]
      exact ⟨[], 6, rfl, by simp, .inr (.inr ⟨h0, fun h => hm (hk.2 ⟨_, rfl, h⟩), rfl⟩)⟩
end Go.Proofs.Ytlkcelmamenhpaa
