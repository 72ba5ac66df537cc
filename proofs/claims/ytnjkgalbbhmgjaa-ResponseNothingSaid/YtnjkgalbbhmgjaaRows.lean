/-
  No cell of these rows narrows 'for every input' (looked for: loops, veiled, ifaces, maps, wideKeys, modest, calm, conditions, laid).
  DERIVED. THE GIVEN ROWS OF THIS SEAT. 6 by the template 'for every input the law returns true; each argument reads behind the call as it read before'; 0 by the template 'total and deterministic' (their statements: YtnjkgalbbhmgjaaTotals.lean).
  GIVEN WITH THE SEED: the statements are not yours to turn. If you find one false, say at which input.
  Laid BY PROGRAM, IN A SANDBOX (cutbox-rows.mjs): the forced cells as the released guide's own fill.sh prints them over the translation f6e92cdb39a4f6ad… (all of the seat's roots in one cut). By AI agents, Wed Nov 11 2026. No macro, syntax, notation, axiom, sorry.
-/
import Derived.Test.YtnjkgalbbhmgjaaChecked
import GoSem.Claim
import GoSem.ClaimJoined
import GoSem.ClaimMapViews
import Derived.JoinedTies
import Derived.KernelRfl
namespace Go.Proofs.Ytnjkgalbbhmgjaa
/- THE CELL 'sum', in the pinned program and in every row, IS THE sha256 OF THE DUMP (.gsa) THAT YtnjkgalbbhmgjaaProg.lean LOADS. Nothing in Lean hashes anything: it is a label: what it is worth is what the hold of that sum in a sandbox is worth. -/
noncomputable def Try.pinned : Pinned := { name := "ytnjkgalbbhmgjaa", sum := "f6e92cdb39a4f6ada7b8749f76dc4826331ac3b3540983a7a3de6a039e793308", checked := Try.checked }
namespace Rows
def none {H : Type} : Left H := { results := [], args := [] }

/-- 'tourbillonlaw16.ResponseTells': WHATEVER THE INPUT: true; the input reads as it did. -/
def responseTellsSpec : ChangeSpec := { name := "responseTells", fn := fun _ => fun
  | [d1, d2, d3, d4, d5, d6, d7] => { results := [.lit (.bool true)], args := [d1, d2, d3, d4, d5, d6, d7] }
  | _ => none }
def responseTellsRow : OpenClaim := { program := "ytnjkgalbbhmgjaa", sum := "f6e92cdb39a4f6ada7b8749f76dc4826331ac3b3540983a7a3de6a039e793308", func := "tourbillon/tourbillonlaw16.ResponseTells", spec := "responseTells", unfollowed := true, recurses := true, apart := false }
def ResponseTellsSaid : Prop := responseTellsRow.holds Try.pinned (OpenSpec.ofChange responseTellsSpec)

/-- ITS FALSE NEIGHBOUR: 'it returns false'. Refute it at one input. -/
def responseTellsWrong : ChangeSpec := { name := "responseTells", fn := fun _ => fun
  | [d1, d2, d3, d4, d5, d6, d7] => { results := [.lit (.bool false)], args := [d1, d2, d3, d4, d5, d6, d7] }
  | _ => none }
def ResponseTellsWrongFalsely : Prop := responseTellsRow.holds Try.pinned (OpenSpec.ofChange responseTellsWrong)

/-- 'tourbillonlaw16.ResponseLeast': WHATEVER THE INPUT: true; the input reads as it did. -/
def responseLeastSpec : ChangeSpec := { name := "responseLeast", fn := fun _ => fun
  | [d1, d2, d3, d4, d5, d6, d7] => { results := [.lit (.bool true)], args := [d1, d2, d3, d4, d5, d6, d7] }
  | _ => none }
def responseLeastRow : OpenClaim := { program := "ytnjkgalbbhmgjaa", sum := "f6e92cdb39a4f6ada7b8749f76dc4826331ac3b3540983a7a3de6a039e793308", func := "tourbillon/tourbillonlaw16.ResponseLeast", spec := "responseLeast", unfollowed := true, recurses := true, apart := false }
def ResponseLeastSaid : Prop := responseLeastRow.holds Try.pinned (OpenSpec.ofChange responseLeastSpec)

/-- ITS FALSE NEIGHBOUR: 'it returns false'. Refute it at one input. -/
def responseLeastWrong : ChangeSpec := { name := "responseLeast", fn := fun _ => fun
  | [d1, d2, d3, d4, d5, d6, d7] => { results := [.lit (.bool false)], args := [d1, d2, d3, d4, d5, d6, d7] }
  | _ => none }
def ResponseLeastWrongFalsely : Prop := responseLeastRow.holds Try.pinned (OpenSpec.ofChange responseLeastWrong)

/-- 'tourbillonlaw16.ResponseMore': WHATEVER THE INPUT: true; the input reads as it did. -/
def responseMoreSpec : ChangeSpec := { name := "responseMore", fn := fun _ => fun
  | [d1, d2, d3, d4, d5, d6, d7] => { results := [.lit (.bool true)], args := [d1, d2, d3, d4, d5, d6, d7] }
  | _ => none }
def responseMoreRow : OpenClaim := { program := "ytnjkgalbbhmgjaa", sum := "f6e92cdb39a4f6ada7b8749f76dc4826331ac3b3540983a7a3de6a039e793308", func := "tourbillon/tourbillonlaw16.ResponseMore", spec := "responseMore", unfollowed := true, recurses := true, apart := false }
def ResponseMoreSaid : Prop := responseMoreRow.holds Try.pinned (OpenSpec.ofChange responseMoreSpec)

/-- ITS FALSE NEIGHBOUR: 'it returns false'. Refute it at one input. -/
def responseMoreWrong : ChangeSpec := { name := "responseMore", fn := fun _ => fun
  | [d1, d2, d3, d4, d5, d6, d7] => { results := [.lit (.bool false)], args := [d1, d2, d3, d4, d5, d6, d7] }
  | _ => none }
def ResponseMoreWrongFalsely : Prop := responseMoreRow.holds Try.pinned (OpenSpec.ofChange responseMoreWrong)

/-- 'tourbillonlaw16.ResponseRises': WHATEVER THE INPUT: true; the input reads as it did. -/
def responseRisesSpec : ChangeSpec := { name := "responseRises", fn := fun _ => fun
  | [d1, d2, d3, d4, d5, d6, d7] => { results := [.lit (.bool true)], args := [d1, d2, d3, d4, d5, d6, d7] }
  | _ => none }
def responseRisesRow : OpenClaim := { program := "ytnjkgalbbhmgjaa", sum := "f6e92cdb39a4f6ada7b8749f76dc4826331ac3b3540983a7a3de6a039e793308", func := "tourbillon/tourbillonlaw16.ResponseRises", spec := "responseRises", unfollowed := true, recurses := true, apart := false }
def ResponseRisesSaid : Prop := responseRisesRow.holds Try.pinned (OpenSpec.ofChange responseRisesSpec)

/-- ITS FALSE NEIGHBOUR: 'it returns false'. Refute it at one input. -/
def responseRisesWrong : ChangeSpec := { name := "responseRises", fn := fun _ => fun
  | [d1, d2, d3, d4, d5, d6, d7] => { results := [.lit (.bool false)], args := [d1, d2, d3, d4, d5, d6, d7] }
  | _ => none }
def ResponseRisesWrongFalsely : Prop := responseRisesRow.holds Try.pinned (OpenSpec.ofChange responseRisesWrong)

/-- 'tourbillonlaw16.ResponseAlone': WHATEVER THE INPUT: true; the input reads as it did. -/
def responseAloneSpec : ChangeSpec := { name := "responseAlone", fn := fun _ => fun
  | [d1, d2] => { results := [.lit (.bool true)], args := [d1, d2] }
  | _ => none }
def responseAloneRow : OpenClaim := { program := "ytnjkgalbbhmgjaa", sum := "f6e92cdb39a4f6ada7b8749f76dc4826331ac3b3540983a7a3de6a039e793308", func := "tourbillon/tourbillonlaw16.ResponseAlone", spec := "responseAlone", unfollowed := true, recurses := true, apart := false }
def ResponseAloneSaid : Prop := responseAloneRow.holds Try.pinned (OpenSpec.ofChange responseAloneSpec)

/-- ITS FALSE NEIGHBOUR: 'it returns false'. Refute it at one input. -/
def responseAloneWrong : ChangeSpec := { name := "responseAlone", fn := fun _ => fun
  | [d1, d2] => { results := [.lit (.bool false)], args := [d1, d2] }
  | _ => none }
def ResponseAloneWrongFalsely : Prop := responseAloneRow.holds Try.pinned (OpenSpec.ofChange responseAloneWrong)

/-- 'tourbillonlaw16.ResponseNothing': WHATEVER THE INPUT: true; the input reads as it did. -/
def responseNothingSpec : ChangeSpec := { name := "responseNothing", fn := fun _ => fun
  | [d1, d2, d3, d4, d5, d6] => { results := [.lit (.bool true)], args := [d1, d2, d3, d4, d5, d6] }
  | _ => none }
def responseNothingRow : OpenClaim := { program := "ytnjkgalbbhmgjaa", sum := "f6e92cdb39a4f6ada7b8749f76dc4826331ac3b3540983a7a3de6a039e793308", func := "tourbillon/tourbillonlaw16.ResponseNothing", spec := "responseNothing", unfollowed := true, recurses := true, apart := false }
def ResponseNothingSaid : Prop := responseNothingRow.holds Try.pinned (OpenSpec.ofChange responseNothingSpec)

/-- ITS FALSE NEIGHBOUR: 'it returns false'. Refute it at one input. -/
def responseNothingWrong : ChangeSpec := { name := "responseNothing", fn := fun _ => fun
  | [d1, d2, d3, d4, d5, d6] => { results := [.lit (.bool false)], args := [d1, d2, d3, d4, d5, d6] }
  | _ => none }
def ResponseNothingWrongFalsely : Prop := responseNothingRow.holds Try.pinned (OpenSpec.ofChange responseNothingWrong)

/- THE SECOND FORM. 'bulk': how many values and letters a reading holds, each counted each time it is reached (what is shared counts as often as it is met; a slice's spare places count too). A statement '..UptoSaid' is the law's where the arguments, and the package variables that the reading takes, are together of bulk at most 1048576: NARROWER than '..Said'. Prove '..Said' where nothing that the law and all that it calls make is longer than what came in: it says more and counts as full. Else prove '..UptoSaid'. A law counts once. -/
mutual
def uptoBulk {H : Type} : DataW H → Nat
  | .lit (.string bytes) => bytes.length + 1
  | .lit _ => 1
  | .nil => 1
  | .ptr d => uptoBulk d + 1
  | .slice elems spare => uptoBulkAll elems + uptoBulkAll spare + 1
  | .agg parts => uptoBulkAll parts + 1
  | .iface _ d => uptoBulk d + 1
  | .map entries => uptoBulkEntries entries + 1
  | .held _ => 1
def uptoBulkAll {H : Type} : List (DataW H) → Nat
  | [] => 0
  | d :: r => uptoBulk d + uptoBulkAll r
def uptoBulkEntries {H : Type} : List (Lit × DataW H) → Nat
  | [] => 0
  | x :: r => uptoBulkEntry x + uptoBulkEntries r
def uptoBulkEntry {H : Type} : Lit × DataW H → Nat
  | (.string bytes, d) => bytes.length + uptoBulk d + 1
  | (_, d) => uptoBulk d + 1
 end
def uptoSmall : (H : Type) → List (DataW H) → Bool := fun _ ds => decide (uptoBulkAll ds ≤ 1048576)
def OpenSpec.upto (s : _root_.Go.ChangeSpec) : _root_.Go.OpenSpec := { _root_.Go.OpenSpec.ofChange s with cond := some uptoSmall }

/-- 'tourbillonlaw16.ResponseTells', WHERE WHAT IT READS IS OF BULK AT MOST 1048576: true; the input reads as it did. -/
def responseTellsUptoRow : OpenClaim := { program := "ytnjkgalbbhmgjaa", sum := "f6e92cdb39a4f6ada7b8749f76dc4826331ac3b3540983a7a3de6a039e793308", func := "tourbillon/tourbillonlaw16.ResponseTells", spec := "responseTells", unfollowed := true, recurses := true, apart := false, narrowed := true }
def ResponseTellsUptoSaid : Prop := responseTellsUptoRow.holds Try.pinned (OpenSpec.upto responseTellsSpec)

/-- 'tourbillonlaw16.ResponseLeast', WHERE WHAT IT READS IS OF BULK AT MOST 1048576: true; the input reads as it did. -/
def responseLeastUptoRow : OpenClaim := { program := "ytnjkgalbbhmgjaa", sum := "f6e92cdb39a4f6ada7b8749f76dc4826331ac3b3540983a7a3de6a039e793308", func := "tourbillon/tourbillonlaw16.ResponseLeast", spec := "responseLeast", unfollowed := true, recurses := true, apart := false, narrowed := true }
def ResponseLeastUptoSaid : Prop := responseLeastUptoRow.holds Try.pinned (OpenSpec.upto responseLeastSpec)

/-- 'tourbillonlaw16.ResponseMore', WHERE WHAT IT READS IS OF BULK AT MOST 1048576: true; the input reads as it did. -/
def responseMoreUptoRow : OpenClaim := { program := "ytnjkgalbbhmgjaa", sum := "f6e92cdb39a4f6ada7b8749f76dc4826331ac3b3540983a7a3de6a039e793308", func := "tourbillon/tourbillonlaw16.ResponseMore", spec := "responseMore", unfollowed := true, recurses := true, apart := false, narrowed := true }
def ResponseMoreUptoSaid : Prop := responseMoreUptoRow.holds Try.pinned (OpenSpec.upto responseMoreSpec)

/-- 'tourbillonlaw16.ResponseRises', WHERE WHAT IT READS IS OF BULK AT MOST 1048576: true; the input reads as it did. -/
def responseRisesUptoRow : OpenClaim := { program := "ytnjkgalbbhmgjaa", sum := "f6e92cdb39a4f6ada7b8749f76dc4826331ac3b3540983a7a3de6a039e793308", func := "tourbillon/tourbillonlaw16.ResponseRises", spec := "responseRises", unfollowed := true, recurses := true, apart := false, narrowed := true }
def ResponseRisesUptoSaid : Prop := responseRisesUptoRow.holds Try.pinned (OpenSpec.upto responseRisesSpec)

/-- 'tourbillonlaw16.ResponseAlone', WHERE WHAT IT READS IS OF BULK AT MOST 1048576: true; the input reads as it did. -/
def responseAloneUptoRow : OpenClaim := { program := "ytnjkgalbbhmgjaa", sum := "f6e92cdb39a4f6ada7b8749f76dc4826331ac3b3540983a7a3de6a039e793308", func := "tourbillon/tourbillonlaw16.ResponseAlone", spec := "responseAlone", unfollowed := true, recurses := true, apart := false, narrowed := true }
def ResponseAloneUptoSaid : Prop := responseAloneUptoRow.holds Try.pinned (OpenSpec.upto responseAloneSpec)

/-- 'tourbillonlaw16.ResponseNothing', WHERE WHAT IT READS IS OF BULK AT MOST 1048576: true; the input reads as it did. -/
def responseNothingUptoRow : OpenClaim := { program := "ytnjkgalbbhmgjaa", sum := "f6e92cdb39a4f6ada7b8749f76dc4826331ac3b3540983a7a3de6a039e793308", func := "tourbillon/tourbillonlaw16.ResponseNothing", spec := "responseNothing", unfollowed := true, recurses := true, apart := false, narrowed := true }
def ResponseNothingUptoSaid : Prop := responseNothingUptoRow.holds Try.pinned (OpenSpec.upto responseNothingSpec)

end Rows
end Go.Proofs.Ytnjkgalbbhmgjaa
