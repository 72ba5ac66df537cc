/- Each note that was sent is taken once, at its tick, when each box is taken in each tick; no box has more than the tasks: for all lists of tasks, cores and latencies, at most 100 of which are sent; no condition. -/
import Derived.Test.YtmfjlfemeihchaaRows
import Derived.Test.YtmfjlfemeihchaaBase
import Derived.Test.YtmfjlfemeihchaaIpiOnceW
namespace Go.Proofs.Ytmfjlfemeihchaa.ipiOnce
open Go.ChangeShapes Go.WideShapes Go.ChangeAt Go.RowKit

theorem own : ownKnob Try.prog.godebug = none := by kernel_rfl

set_option maxRecDepth 100000 in
theorem lifted (os : Go.Os) (started : os.Started) (H : Type) (enc : TypeId × Value → H) :
    ReturnsInHanded {} Try.checked os 4 .any (Rows.ipiOnceSpec.pre6 enc Try.prog Try.f4 Rows.ipiOnceRow.domain false) (Rows.ipiOnceSpec.post enc Try.prog Try.f4 false true false false) := by
  refine returnsInHanded_of_change_sized (C := Try.checked) own started (by kernel_rfl) Try.func4
    (ChangeSpec.witness6 (enc := enc) (C := Try.checked) false ⟨#[], #[.slice none 0 0, .slice none 0 0, .slice none 0 0], []⟩ 8 (by kernel_rfl) (by kernel_rfl) (by kernel_rfl) (by kernel_rfl)) ?_
  intro W base args ds gs before hval0 hW _ hsz _
  have hval : ∀ (j : Nat) t v, Try.f4.params[j]? = some t → args[j]? = some v → Value.okWide Try.prog W .any base t v := hval0
  have hW' := hW
  obtain ⟨p, q, hA0, hV, rfl, hfz, hnd⟩ := hW
  have hA : DataW.TrodAll enc Try.prog W 0 (fun _ => true) true Try.f4.params.toList args.toList ds p := hA0
  rw [Try.params4] at hA hval
  obtain ⟨v0, vs0, d0, ds0, p0, q0, hargs, rfl, rfl, h0, r0⟩ := trodAll_cons hA
  obtain ⟨v1, vs1, d1, ds1, p1, q1, rfl, rfl, rfl, h1, r1⟩ := trodAll_cons r0
  obtain ⟨v2, vs2, d2, ds2, p2, q2, rfl, rfl, rfl, h2, r2⟩ := trodAll_cons r1
  obtain ⟨rfl, rfl, rfl⟩ := trodAll_nil r2
  obtain rfl : args = #[v0, v1, v2] := by cases args; simp_all
  obtain ⟨rfl, rfl⟩ := trodVars_none hV
  obtain ⟨A0, n0, c0, zs0, rfl, hz0, hc0⟩ := rd_of (hval 0 34 v0 rfl rfl) h0
  obtain ⟨A1, n1, c1, zs1, rfl, hz1, hc1⟩ := rd_of (hval 1 34 v1 rfl rfl) h1
  obtain ⟨A2, n2, c2, zs2, rfl, hz2, hc2⟩ := rd_of (hval 2 34 v2 rfl rfl) h2
  refine (walk A0 n0 c0 zs0 hc0 A1 n1 c1 zs1 hc1 A2 n2 c2 zs2 hc2 W hz0 hz1 hz2).mono fun e W' ⟨he, hg⟩ => ?_
  subst he
  exact ⟨_, rfl, law_post (by kernel_rfl) rfl rfl hW' rfl hg.all⟩

theorem over : Rows.ipiOnceRow.holds Try.pinned (OpenSpec.ofChange Rows.ipiOnceSpec) :=
  OpenClaim.holds_of_wide 4 Try.f4 rfl rfl rfl rfl rfl rfl rfl ⟨rfl, rfl, rfl, rfl, rfl⟩ rfl rfl rfl rfl rfl (by kernel_rfl) Try.func4 (by kernel_rfl)
    (of_decide_eq_true (by kernel_rfl)) (by unfold Func.isWrapper; first | (rw [if_pos (by decide +kernel)]; kernel_rfl) | (rw [if_neg (by decide +kernel)]; exact ⟨rfl, rfl⟩))
    (fun os started H enc _ => lifted os started H enc)

/-- The statement. -/
theorem proved : Rows.IpiOnceSaid :=
  over
#print axioms proved
end Go.Proofs.Ytmfjlfemeihchaa.ipiOnce
