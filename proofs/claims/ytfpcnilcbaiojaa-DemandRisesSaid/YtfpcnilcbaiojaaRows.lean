/-
  No cell of these rows narrows 'for every input' (looked for: loops, veiled, ifaces, maps, wideKeys, modest, calm, conditions, laid).
  DERIVED. THE GIVEN ROWS OF THIS SEAT. 7 by the template 'for every input the law returns true; each argument reads behind the call as it read before'; 0 by the template 'total and deterministic' (their statements: YtfpcnilcbaiojaaTotals.lean).
  GIVEN WITH THE SEED: the statements are not yours to turn. If you find one false, say at which input.
  Laid BY PROGRAM, IN A SANDBOX (cutbox-rows.mjs): the forced cells as the released guide's own fill.sh prints them over the translation 3a4e4c1a702184e4… (all of the seat's roots in one cut). By AI agents, Wed Nov 11 2026. No macro, syntax, notation, axiom, sorry.
-/
import Derived.Test.YtfpcnilcbaiojaaChecked
import GoSem.Claim
import GoSem.ClaimJoined
import GoSem.ClaimMapViews
import Derived.JoinedTies
import Derived.KernelRfl
namespace Go.Proofs.Ytfpcnilcbaiojaa
/- THE CELL 'sum', in the pinned program and in every row, IS THE sha256 OF THE DUMP (.gsa) THAT YtfpcnilcbaiojaaProg.lean LOADS. Nothing in Lean hashes anything: it is a label: what it is worth is what the hold of that sum in a sandbox is worth. -/
noncomputable def Try.pinned : Pinned := { name := "ytfpcnilcbaiojaa", sum := "3a4e4c1a702184e449f268e07d843264ab415bfc06c4ee43e2b9b70d0ed48848", checked := Try.checked }
namespace Rows
def none {H : Type} : Left H := { results := [], args := [] }

/-- 'tourbillonlaw15.DemandAsks': WHATEVER THE INPUT: true; the input reads as it did. -/
def demandAsksSpec : ChangeSpec := { name := "demandAsks", fn := fun _ => fun
  | [d1, d2, d3, d4] => { results := [.lit (.bool true)], args := [d1, d2, d3, d4] }
  | _ => none }
def demandAsksRow : OpenClaim := { program := "ytfpcnilcbaiojaa", sum := "3a4e4c1a702184e449f268e07d843264ab415bfc06c4ee43e2b9b70d0ed48848", func := "tourbillon/tourbillonlaw15.DemandAsks", spec := "demandAsks", unfollowed := true, recurses := true, apart := false }
def DemandAsksSaid : Prop := demandAsksRow.holds Try.pinned (OpenSpec.ofChange demandAsksSpec)

/-- ITS FALSE NEIGHBOUR: 'it returns false'. Refute it at one input. -/
def demandAsksWrong : ChangeSpec := { name := "demandAsks", fn := fun _ => fun
  | [d1, d2, d3, d4] => { results := [.lit (.bool false)], args := [d1, d2, d3, d4] }
  | _ => none }
def DemandAsksWrongFalsely : Prop := demandAsksRow.holds Try.pinned (OpenSpec.ofChange demandAsksWrong)

/-- 'tourbillonlaw15.DemandTests': WHATEVER THE INPUT: true; the input reads as it did. -/
def demandTestsSpec : ChangeSpec := { name := "demandTests", fn := fun _ => fun
  | [d1, d2, d3] => { results := [.lit (.bool true)], args := [d1, d2, d3] }
  | _ => none }
def demandTestsRow : OpenClaim := { program := "ytfpcnilcbaiojaa", sum := "3a4e4c1a702184e449f268e07d843264ab415bfc06c4ee43e2b9b70d0ed48848", func := "tourbillon/tourbillonlaw15.DemandTests", spec := "demandTests", unfollowed := true, recurses := true, apart := false }
def DemandTestsSaid : Prop := demandTestsRow.holds Try.pinned (OpenSpec.ofChange demandTestsSpec)

/-- ITS FALSE NEIGHBOUR: 'it returns false'. Refute it at one input. -/
def demandTestsWrong : ChangeSpec := { name := "demandTests", fn := fun _ => fun
  | [d1, d2, d3] => { results := [.lit (.bool false)], args := [d1, d2, d3] }
  | _ => none }
def DemandTestsWrongFalsely : Prop := demandTestsRow.holds Try.pinned (OpenSpec.ofChange demandTestsWrong)

/-- 'tourbillonlaw15.DemandMeets': WHATEVER THE INPUT: true; the input reads as it did. -/
def demandMeetsSpec : ChangeSpec := { name := "demandMeets", fn := fun _ => fun
  | [d1, d2, d3, d4] => { results := [.lit (.bool true)], args := [d1, d2, d3, d4] }
  | _ => none }
def demandMeetsRow : OpenClaim := { program := "ytfpcnilcbaiojaa", sum := "3a4e4c1a702184e449f268e07d843264ab415bfc06c4ee43e2b9b70d0ed48848", func := "tourbillon/tourbillonlaw15.DemandMeets", spec := "demandMeets", unfollowed := true, recurses := true, apart := false }
def DemandMeetsSaid : Prop := demandMeetsRow.holds Try.pinned (OpenSpec.ofChange demandMeetsSpec)

/-- ITS FALSE NEIGHBOUR: 'it returns false'. Refute it at one input. -/
def demandMeetsWrong : ChangeSpec := { name := "demandMeets", fn := fun _ => fun
  | [d1, d2, d3, d4] => { results := [.lit (.bool false)], args := [d1, d2, d3, d4] }
  | _ => none }
def DemandMeetsWrongFalsely : Prop := demandMeetsRow.holds Try.pinned (OpenSpec.ofChange demandMeetsWrong)

/-- 'tourbillonlaw15.DemandLess': WHATEVER THE INPUT: true; the input reads as it did. -/
def demandLessSpec : ChangeSpec := { name := "demandLess", fn := fun _ => fun
  | [d1, d2, d3, d4, d5] => { results := [.lit (.bool true)], args := [d1, d2, d3, d4, d5] }
  | _ => none }
def demandLessRow : OpenClaim := { program := "ytfpcnilcbaiojaa", sum := "3a4e4c1a702184e449f268e07d843264ab415bfc06c4ee43e2b9b70d0ed48848", func := "tourbillon/tourbillonlaw15.DemandLess", spec := "demandLess", unfollowed := true, recurses := true, apart := false }
def DemandLessSaid : Prop := demandLessRow.holds Try.pinned (OpenSpec.ofChange demandLessSpec)

/-- ITS FALSE NEIGHBOUR: 'it returns false'. Refute it at one input. -/
def demandLessWrong : ChangeSpec := { name := "demandLess", fn := fun _ => fun
  | [d1, d2, d3, d4, d5] => { results := [.lit (.bool false)], args := [d1, d2, d3, d4, d5] }
  | _ => none }
def DemandLessWrongFalsely : Prop := demandLessRow.holds Try.pinned (OpenSpec.ofChange demandLessWrong)

/-- 'tourbillonlaw15.DemandRises': WHATEVER THE INPUT: true; the input reads as it did. -/
def demandRisesSpec : ChangeSpec := { name := "demandRises", fn := fun _ => fun
  | [d1, d2, d3, d4, d5, d6] => { results := [.lit (.bool true)], args := [d1, d2, d3, d4, d5, d6] }
  | _ => none }
def demandRisesRow : OpenClaim := { program := "ytfpcnilcbaiojaa", sum := "3a4e4c1a702184e449f268e07d843264ab415bfc06c4ee43e2b9b70d0ed48848", func := "tourbillon/tourbillonlaw15.DemandRises", spec := "demandRises", unfollowed := true, recurses := true, apart := false }
def DemandRisesSaid : Prop := demandRisesRow.holds Try.pinned (OpenSpec.ofChange demandRisesSpec)

/-- ITS FALSE NEIGHBOUR: 'it returns false'. Refute it at one input. -/
def demandRisesWrong : ChangeSpec := { name := "demandRises", fn := fun _ => fun
  | [d1, d2, d3, d4, d5, d6] => { results := [.lit (.bool false)], args := [d1, d2, d3, d4, d5, d6] }
  | _ => none }
def DemandRisesWrongFalsely : Prop := demandRisesRow.holds Try.pinned (OpenSpec.ofChange demandRisesWrong)

/-- 'tourbillonlaw15.DemandBusy': WHATEVER THE INPUT: true; the input reads as it did. -/
def demandBusySpec : ChangeSpec := { name := "demandBusy", fn := fun _ => fun
  | [d1, d2, d3] => { results := [.lit (.bool true)], args := [d1, d2, d3] }
  | _ => none }
def demandBusyRow : OpenClaim := { program := "ytfpcnilcbaiojaa", sum := "3a4e4c1a702184e449f268e07d843264ab415bfc06c4ee43e2b9b70d0ed48848", func := "tourbillon/tourbillonlaw15.DemandBusy", spec := "demandBusy", unfollowed := true, recurses := true, apart := false }
def DemandBusySaid : Prop := demandBusyRow.holds Try.pinned (OpenSpec.ofChange demandBusySpec)

/-- ITS FALSE NEIGHBOUR: 'it returns false'. Refute it at one input. -/
def demandBusyWrong : ChangeSpec := { name := "demandBusy", fn := fun _ => fun
  | [d1, d2, d3] => { results := [.lit (.bool false)], args := [d1, d2, d3] }
  | _ => none }
def DemandBusyWrongFalsely : Prop := demandBusyRow.holds Try.pinned (OpenSpec.ofChange demandBusyWrong)

/-- 'tourbillonlaw15.DemandTops': WHATEVER THE INPUT: true; the input reads as it did. -/
def demandTopsSpec : ChangeSpec := { name := "demandTops", fn := fun _ => fun
  | [d1, d2, d3, d4] => { results := [.lit (.bool true)], args := [d1, d2, d3, d4] }
  | _ => none }
def demandTopsRow : OpenClaim := { program := "ytfpcnilcbaiojaa", sum := "3a4e4c1a702184e449f268e07d843264ab415bfc06c4ee43e2b9b70d0ed48848", func := "tourbillon/tourbillonlaw15.DemandTops", spec := "demandTops", unfollowed := true, recurses := true, apart := false }
def DemandTopsSaid : Prop := demandTopsRow.holds Try.pinned (OpenSpec.ofChange demandTopsSpec)

/-- ITS FALSE NEIGHBOUR: 'it returns false'. Refute it at one input. -/
def demandTopsWrong : ChangeSpec := { name := "demandTops", fn := fun _ => fun
  | [d1, d2, d3, d4] => { results := [.lit (.bool false)], args := [d1, d2, d3, d4] }
  | _ => none }
def DemandTopsWrongFalsely : Prop := demandTopsRow.holds Try.pinned (OpenSpec.ofChange demandTopsWrong)

/- THE SECOND FORM. 'bulk': how many values and letters a reading holds, each counted each time it is reached (what is shared counts as often as it is met; a slice's spare places count too). A statement '..UptoSaid' is the law's where the arguments, and the package variables that the reading takes, are together of bulk at most 1048576: NARROWER than '..Said'. Prove '..Said' where nothing that the law and all that it calls make is longer than what came in: it says more and counts as full. Else prove '..UptoSaid'. A law counts once. -/
mutual
def uptoBulk {H : Type} : DataW H → Nat
  | .lit (.string bytes) => bytes.length + 1
  | .lit _ => 1
  | .nil => 1
  | .ptr d => uptoBulk d + 1
  | .slice elems spare => uptoBulkAll elems + uptoBulkAll spare + 1
  | .agg parts => uptoBulkAll parts + 1
  | .iface _ d => uptoBulk d + 1
  | .map entries => uptoBulkEntries entries + 1
  | .held _ => 1
def uptoBulkAll {H : Type} : List (DataW H) → Nat
  | [] => 0
  | d :: r => uptoBulk d + uptoBulkAll r
def uptoBulkEntries {H : Type} : List (Lit × DataW H) → Nat
  | [] => 0
  | x :: r => uptoBulkEntry x + uptoBulkEntries r
def uptoBulkEntry {H : Type} : Lit × DataW H → Nat
  | (.string bytes, d) => bytes.length + uptoBulk d + 1
  | (_, d) => uptoBulk d + 1
 end
def uptoSmall : (H : Type) → List (DataW H) → Bool := fun _ ds => decide (uptoBulkAll ds ≤ 1048576)
def OpenSpec.upto (s : _root_.Go.ChangeSpec) : _root_.Go.OpenSpec := { _root_.Go.OpenSpec.ofChange s with cond := some uptoSmall }

/-- 'tourbillonlaw15.DemandAsks', WHERE WHAT IT READS IS OF BULK AT MOST 1048576: true; the input reads as it did. -/
def demandAsksUptoRow : OpenClaim := { program := "ytfpcnilcbaiojaa", sum := "3a4e4c1a702184e449f268e07d843264ab415bfc06c4ee43e2b9b70d0ed48848", func := "tourbillon/tourbillonlaw15.DemandAsks", spec := "demandAsks", unfollowed := true, recurses := true, apart := false, narrowed := true }
def DemandAsksUptoSaid : Prop := demandAsksUptoRow.holds Try.pinned (OpenSpec.upto demandAsksSpec)

/-- 'tourbillonlaw15.DemandTests', WHERE WHAT IT READS IS OF BULK AT MOST 1048576: true; the input reads as it did. -/
def demandTestsUptoRow : OpenClaim := { program := "ytfpcnilcbaiojaa", sum := "3a4e4c1a702184e449f268e07d843264ab415bfc06c4ee43e2b9b70d0ed48848", func := "tourbillon/tourbillonlaw15.DemandTests", spec := "demandTests", unfollowed := true, recurses := true, apart := false, narrowed := true }
def DemandTestsUptoSaid : Prop := demandTestsUptoRow.holds Try.pinned (OpenSpec.upto demandTestsSpec)

/-- 'tourbillonlaw15.DemandMeets', WHERE WHAT IT READS IS OF BULK AT MOST 1048576: true; the input reads as it did. -/
def demandMeetsUptoRow : OpenClaim := { program := "ytfpcnilcbaiojaa", sum := "3a4e4c1a702184e449f268e07d843264ab415bfc06c4ee43e2b9b70d0ed48848", func := "tourbillon/tourbillonlaw15.DemandMeets", spec := "demandMeets", unfollowed := true, recurses := true, apart := false, narrowed := true }
def DemandMeetsUptoSaid : Prop := demandMeetsUptoRow.holds Try.pinned (OpenSpec.upto demandMeetsSpec)

/-- 'tourbillonlaw15.DemandLess', WHERE WHAT IT READS IS OF BULK AT MOST 1048576: true; the input reads as it did. -/
def demandLessUptoRow : OpenClaim := { program := "ytfpcnilcbaiojaa", sum := "3a4e4c1a702184e449f268e07d843264ab415bfc06c4ee43e2b9b70d0ed48848", func := "tourbillon/tourbillonlaw15.DemandLess", spec := "demandLess", unfollowed := true, recurses := true, apart := false, narrowed := true }
def DemandLessUptoSaid : Prop := demandLessUptoRow.holds Try.pinned (OpenSpec.upto demandLessSpec)

/-- 'tourbillonlaw15.DemandRises', WHERE WHAT IT READS IS OF BULK AT MOST 1048576: true; the input reads as it did. -/
def demandRisesUptoRow : OpenClaim := { program := "ytfpcnilcbaiojaa", sum := "3a4e4c1a702184e449f268e07d843264ab415bfc06c4ee43e2b9b70d0ed48848", func := "tourbillon/tourbillonlaw15.DemandRises", spec := "demandRises", unfollowed := true, recurses := true, apart := false, narrowed := true }
def DemandRisesUptoSaid : Prop := demandRisesUptoRow.holds Try.pinned (OpenSpec.upto demandRisesSpec)

/-- 'tourbillonlaw15.DemandBusy', WHERE WHAT IT READS IS OF BULK AT MOST 1048576: true; the input reads as it did. -/
def demandBusyUptoRow : OpenClaim := { program := "ytfpcnilcbaiojaa", sum := "3a4e4c1a702184e449f268e07d843264ab415bfc06c4ee43e2b9b70d0ed48848", func := "tourbillon/tourbillonlaw15.DemandBusy", spec := "demandBusy", unfollowed := true, recurses := true, apart := false, narrowed := true }
def DemandBusyUptoSaid : Prop := demandBusyUptoRow.holds Try.pinned (OpenSpec.upto demandBusySpec)

/-- 'tourbillonlaw15.DemandTops', WHERE WHAT IT READS IS OF BULK AT MOST 1048576: true; the input reads as it did. -/
def demandTopsUptoRow : OpenClaim := { program := "ytfpcnilcbaiojaa", sum := "3a4e4c1a702184e449f268e07d843264ab415bfc06c4ee43e2b9b70d0ed48848", func := "tourbillon/tourbillonlaw15.DemandTops", spec := "demandTops", unfollowed := true, recurses := true, apart := false, narrowed := true }
def DemandTopsUptoSaid : Prop := demandTopsUptoRow.holds Try.pinned (OpenSpec.upto demandTopsSpec)

end Rows
end Go.Proofs.Ytfpcnilcbaiojaa
