/- What one task's book keeps from tick to tick. -/
import Derived.Test.YtekgnofmldpifaaE
namespace Go.Proofs.Ytekgnofmldpifaa
open Go.ChangeShapes Go.WideShapes Go.ChangeAt Go.RowKit Go.Deep
/-- Ahead of tick k: the book of one task that the law has made, beside the task's box tb; la is the last arrival (-1: none). -/
structure Ap (w wr : World) (S : Nat → Prop) (p tb : Nat) (P W : Int) (e : En) (k : Nat) (la : Int) : Prop where
  hw : Hw w wr S p 1 (one e)
  bx : Blk wr tb #[.int .i64 P, .int .i64 0, .int .i64 W, .slice none 0 0] 27
  ns : ¬ S tb
  eP : e.P = P
  eW : e.W = W
  la : (la = -1 ∧ e.f = 0) ∨ (0 ≤ la ∧ la ≤ k ∧ e.f = la + P)
  ak : e.a = true → e.k < k
  az : e.a = false → e.n = 0 ∧ e.m = 0
section
variable {w wr w' : World} {S : Nat → Prop} {p tb : Nat} {P W : Int} {e : En} {k : Nat} {la : Int}
theorem Ap.fit (h : Ap w wr S p tb P W e k la) : Fit e := h.hw.jp.fit 0 (by omega)
theorem Ap.no (h : Ap w wr S p tb P W e k la) (hb : But No wr w') : Ap w w' S p tb P W e k la := ⟨h.hw.no hb, h.bx.but hb (fun f => f), h.ns, h.eP, h.eW, h.la, h.ak, h.az⟩
theorem Ap.mv (h : Ap w wr S p tb P W e k la) {e' : En} {k' : Nat} {la' : Int} (hm : Mv wr S p 1 (one e') w') (h1 : e'.P = e.P) (h2 : e'.W = e.W) (h3 : (la' = -1 ∧ e'.f = 0) ∨ (0 ≤ la' ∧ la' ≤ k' ∧ e'.f = la' + P)) (h4 : e'.a = true → e'.k < k') (h5 : e'.a = false → e'.n = 0 ∧ e'.m = 0) : Ap w w' S p tb P W e' k' la' :=
  ⟨h.hw.step hm, h.bx.but hm.2 h.ns, h.ns, h1.trans h.eP, h2.trans h.eW, h3, h4, h5⟩
theorem Ap.late (h : Ap w wr S p tb P W e k la) : (la = -1 ∧ e.f = 0) ∨ (0 ≤ la ∧ la ≤ (k + 1 : Nat) ∧ e.f = la + P) := by
  rcases h.la with ⟨h1, h2⟩ | ⟨h1, h2, h3⟩
  · exact .inl ⟨h1, h2⟩
  · exact .inr ⟨h1, by omega, h3⟩
theorem Ap.ask (h : Ap w wr S p tb P W e k la) (x : Int) (hm : Mv wr S p 1 (one (askE e x)) w') : Ap w w' S p tb P W (askE e x) k la := by
  unfold askE at hm ⊢
  split at hm
  · rename_i hx
    rw [if_pos hx]
    exact h.mv hm rfl rfl h.la h.ak h.az
  · rename_i hx
    rw [if_neg hx]
    exact h.mv hm rfl rfl h.la h.ak h.az
theorem tickB (hk : k ≤ 200) : isT k = true := by unfold isT; rw [decide_eq_true_iff]; omega
theorem Ap.start (h : Ap w wr S p tb P W e k la) (hk : k ≤ 200) (hn : nxt e k = k) : staB e k = true ∧ staE e k = stt e k ∧ (la = -1 ∨ (0 ≤ la ∧ la ≤ k ∧ la + P ≤ k)) ∧ ∀ w', Mv wr S p 1 (one (stt e k)) w' → Ap w w' S p tb P W (stt e k) k k := by
  have h1 : staB e k = true := by unfold staB; rw [decide_eq_true_iff]; exact ⟨tickB hk, hn⟩
  refine ⟨h1, by unfold staE; rw [h1]; rfl, ?_, fun w' hm => h.mv hm rfl rfl (.inr ⟨by omega, by omega, by show (k : Int) + e.P = _; rw [h.eP]⟩) (fun _ => by show (-1 : Int) < k; omega) (fun hf => by cases hf)⟩
  rcases h.la with ⟨h2, _⟩ | ⟨h2, h3, h4⟩
  · exact .inl h2
  · refine .inr ⟨h2, h3, ?_⟩
    unfold nxt at hn
    split at hn
    · split at hn
      · omega
      · omega
    · omega
/-- One tick's work: what the first call tells, and that the second one tells nothing. -/
theorem Ap.work_yes (h : Ap w wr S p tb P W e k la) (hk : k ≤ 200) (ha : e.a = true) (hn : e.n ≠ e.m) :
    wrkB e k = true ∧ wrkE e k = { e with n := e.n + 1, k := k } ∧ wrkB { e with n := e.n + 1, k := (k : Int) } k = false ∧ wrkE { e with n := e.n + 1, k := (k : Int) } k = { e with n := e.n + 1, k := k } := by
  have h1 : wrkB e k = true := by unfold wrkB; rw [decide_eq_true_iff]; exact ⟨tickB hk, ha, hn, by have := h.ak ha; omega⟩
  have h2 : wrkB { e with n := e.n + 1, k := (k : Int) } k = false := by
    unfold wrkB; rw [decide_eq_false_iff_not]; rintro ⟨_, _, _, h3⟩; exact h3 rfl
  exact ⟨h1, by unfold wrkE; rw [h1]; rfl, h2, by unfold wrkE; rw [h2]; rfl⟩
theorem Ap.work_no (hn : e.a = false ∨ e.n = e.m) : wrkB e k = false ∧ wrkE e k = e := by
  have h1 : wrkB e k = false := by
    unfold wrkB; rw [decide_eq_false_iff_not]; rintro ⟨_, h2, h3, _⟩
    rcases hn with h4 | h4
    · rw [h4] at h2; cases h2
    · exact h3 h4
  exact ⟨h1, by unfold wrkE; rw [h1]; rfl⟩
theorem Ap.worked (h : Ap w wr S p tb P W e k la) (ha : e.a = true) (hm : Mv wr S p 1 (one { e with n := e.n + 1, k := (k : Int) }) w') : Ap w w' S p tb P W { e with n := e.n + 1, k := (k : Int) } (k + 1) la :=
  h.mv hm rfl rfl h.late (fun _ => by show (k : Int) < (k + 1 : Nat); omega) (fun hf => by have hf' : e.a = false := hf; rw [ha] at hf'; cases hf')
theorem Ap.kept (h : Ap w wr S p tb P W e k la) (hm : Mv wr S p 1 (one e) w') : Ap w w' S p tb P W e (k + 1) la :=
  h.mv hm rfl rfl h.late (fun ha => by have := h.ak ha; omega) h.az
theorem Ap.same (h : Ap w wr S p tb P W e k la) (hm : Mv wr S p 1 (one e) w') : Ap w w' S p tb P W e k la := h.mv hm rfl rfl h.la h.ak h.az
theorem Ap.over (h : Ap w wr S p tb P W e k la) (hm : Mv wr S p 1 (one (ovrE e)) w') : Ap w w' S p tb P W (ovrE e) k la :=
  h.mv hm rfl rfl h.la (fun ha => by cases ha) (fun _ => ⟨rfl, rfl⟩)
end
end Go.Proofs.Ytekgnofmldpifaa
