/- What an append asks of rows of loads. -/
import Derived.Test.YtnjkgalbbhmgjaaReW
namespace Go.Proofs.Ytnjkgalbbhmgjaa.rsp
open Go.ChangeShapes Go.WideShapes Go.ChangeAt Go.RowKit Go.Deep
theorem infoD : (Try.prog.info? 33).map (fun i => (i.zero, i.size, i.bytes)) = some (some (.agg #[.int .i64 0, .int .i64 0, .int .i64 0]), 3, 24) := by kernel_rfl
theorem RLd.reads {w : World} {A : Option Addr} {n : Nat} {l : List Ld} (h : RLd w A n l) : Reads w w.heap.size 3 A n (l.flatMap ldC) := by
  refine ⟨by rw [ldC_len, h.len], fun hn => ?_⟩
  obtain ⟨b, off, e, hl, hc⟩ := h.at_ hn
  refine ⟨⟨b, off, none⟩, e, hl, fun j u hu => ?_⟩
  have hj : j < n * 3 := by have := (List.getElem?_eq_some_iff.1 hu).1; rw [ldC_len, h.len] at this; exact this
  obtain ⟨k, r, hk, hr, rfl⟩ : ∃ k r, k < n ∧ r < 3 ∧ j = k * 3 + r := ⟨j / 3, j % 3, by omega, by omega, by omega⟩
  obtain ⟨x, hx⟩ : ∃ x, l[k]? = some x := ⟨_, List.getElem?_eq_getElem (by rw [h.len]; exact hk)⟩
  obtain ⟨c0, c1, c2⟩ := hc k _ hx
  obtain ⟨a0, a1, a2⟩ := ldC_at hx
  rw [add_plain]
  have : r = 0 ∨ r = 1 ∨ r = 2 := by omega
  rcases this with rfl | rfl | rfl
  · rw [Nat.add_zero] at hu ⊢; rw [a0] at hu; cases hu; exact c0
  · rw [a1] at hu; cases hu; rw [← Nat.add_assoc]; exact c1
  · rw [a2] at hu; cases hu; rw [← Nat.add_assoc]; exact c2
theorem all_cells (l : List Ld) : ∀ u ∈ l.flatMap ldC, u.oneCell' = true := fun u hu => by
  obtain ⟨x, _, hx⟩ := List.mem_flatMap.1 hu
  simp only [ldC, List.mem_cons, List.not_mem_nil, or_false] at hx
  rcases hx with rfl | rfl | rfl <;> rfl
/-- A load as one value lies in a block of its own: what append reads of it. -/
theorem ld_one_reads (w : World) (x : Ld) (t : TypeId) : Reads (w.alloc (.cells #[.int .i64 x.w, .int .i64 x.p, .int .i64 x.j] t)) (w.heap.size + 1) 3 (some ⟨w.heap.size, 0, none⟩) 1 (ldC x) :=
  ⟨rfl, fun _ => ⟨⟨w.heap.size, 0, none⟩, rfl, by simp, World.news_of_block (cs := #[.int .i64 x.w, .int .i64 x.p, .int .i64 x.j]) (t := t) (fr := (0, 0)) (Blk.new w _ _)⟩⟩
theorem ld_one_cell (x : Ld) : ∀ u ∈ ldC x, u.oneCell' = true := by simp [ldC, Value.oneCell']
end Go.Proofs.Ytnjkgalbbhmgjaa.rsp
