/- Any system, plan and bounds make the table that the chapter says, or are refused: for every system, plan and row of bounds that may come, TableMakes answers true, whatever the order of evaluation. -/
import Derived.Test.YtikcigjbhohboaaGreatRows
import Derived.Test.YtikcigjbhohboaaGreatM01
import Derived.Test.YtikcigjbhohboaaGreatM54
namespace Go.Proofs.YtikcigjbhohboaaGreat.tableMakes
open Go.ChangeShapes Go.WideShapes Go.ChangeAt Go.RowKit val

theorem own : ownKnob Tryz.prog.godebug = none := by kernel_rfl

set_option maxRecDepth 100000 in
theorem lifted (os : Go.Os) (started : os.Started) (H : Type) (enc : TypeId × Value → H) :
    ReturnsInHanded {} Tryz.checked os 3 .any (Rows.tableMakesSpec.pre6 enc Tryz.prog Tryz.f3 Rows.tableMakesRow.domain false) (Rows.tableMakesSpec.post enc Tryz.prog Tryz.f3 false true false false) := by
  refine returnsInHanded_of_change_sized (C := Tryz.checked) own started (by kernel_rfl) Tryz.func3
    (ChangeSpec.witness6 (enc := enc) (C := Tryz.checked) false ⟨#[], #[.agg #[.int .i64 0, .int .i64 0, .int .i64 0, .int .i64 0, .int .i64 0, .int .i64 0, .int .i64 0, .int .i64 0, .slice none 0 0], .slice none 0 0, .slice none 0 0], []⟩ 8 (by kernel_rfl) (by kernel_rfl) (by kernel_rfl) (by kernel_rfl)) ?_
  intro W base args ds gs before hval0 hW _ hsz _
  have hval : ∀ (j : Nat) t v, Tryz.f3.params[j]? = some t → args[j]? = some v → Value.okWide Tryz.prog W .any base t v := hval0
  have hW' := hW
  obtain ⟨p, q, hA0, hV, rfl, hfz, hnd⟩ := hW
  have hA : DataW.TrodAll enc Tryz.prog W 0 (fun _ => true) true Tryz.f3.params.toList args.toList ds p := hA0
  rw [Tryz.params3] at hA hval
  obtain ⟨v0, vs0, d0, ds0, p0, q0, hargs, rfl, rfl, h0, r0⟩ := trodAll_cons hA
  obtain ⟨v1, vs1, d1, ds1, p1, q1, rfl, rfl, rfl, h1, r1⟩ := trodAll_cons r0
  obtain ⟨v2, vs2, d2, ds2, p2, q2, rfl, rfl, rfl, h2, r2⟩ := trodAll_cons r1
  obtain ⟨rfl, rfl, rfl⟩ := trodAll_nil r2
  obtain rfl : args = #[v0, v1, v2] := by cases args; simp_all
  obtain ⟨rfl, rfl⟩ := trodVars_none hV
  obtain ⟨fS0, ft0, fc0, T0⟩ := sysT
  obtain ⟨y0, A0, c0, rfl, hd0⟩ := sys_of T0 (hval 0 24 v0 rfl rfl) h0
  obtain ⟨A1, n1, c1, L1, rfl, hd1, hc1⟩ := pln.pl_of (hval 1 25 v1 rfl rfl) h1
  obtain ⟨A2, n2, c2, zs2, rfl, hz2, hc2⟩ := rd_of (hval 2 26 v2 rfl rfl) h2
  refine (walk y0 A0 c0 A1 n1 c1 L1 hc1 A2 n2 c2 zs2 hc2 W hd0 hd1 hz2).mono fun e W' ⟨he, hg⟩ => ?_
  subst he
  exact ⟨_, rfl, law_post (by kernel_rfl) rfl rfl hW' rfl hg.all⟩

theorem over : Rows.tableMakesRow.holds Tryz.pinned (OpenSpec.ofChange Rows.tableMakesSpec) :=
  OpenClaim.holds_of_wide 3 Tryz.f3 rfl rfl rfl rfl rfl rfl rfl ⟨rfl, rfl, rfl, rfl, rfl⟩ rfl rfl rfl rfl rfl (by kernel_rfl) Tryz.func3 (by kernel_rfl)
    (of_decide_eq_true (by kernel_rfl)) (by unfold Func.isWrapper; first | (rw [if_pos (by decide +kernel)]; kernel_rfl) | (rw [if_neg (by decide +kernel)]; exact ⟨rfl, rfl⟩))
    (fun os started H enc _ => lifted os started H enc)

/-- The statement. -/
theorem proved : Rows.TableMakesSaid :=
  over
#print axioms proved
end Go.Proofs.YtikcigjbhohboaaGreat.tableMakes
