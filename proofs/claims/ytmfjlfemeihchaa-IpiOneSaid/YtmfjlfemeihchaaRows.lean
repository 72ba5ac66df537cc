/-
  No cell of these rows narrows 'for every input' (looked for: loops, veiled, ifaces, maps, wideKeys, modest, calm, conditions, laid).
  DERIVED. THE GIVEN ROWS OF THIS SEAT. 3 by the template 'for every input the law returns true; each argument reads behind the call as it read before'; 0 by the template 'total and deterministic' (their statements: YtmfjlfemeihchaaTotals.lean).
  GIVEN WITH THE SEED: the statements are not yours to turn. If you find one false, say at which input.
  Laid BY PROGRAM, IN A SANDBOX (cutbox-rows.mjs): the forced cells as the released guide's own fill.sh prints them over the translation 179252f2f56ac6ad… (all of the seat's roots in one cut). By AI agents, Wed Nov 11 2026. No macro, syntax, notation, axiom, sorry.
-/
import Derived.Test.YtmfjlfemeihchaaChecked
import GoSem.Claim
import GoSem.ClaimJoined
import GoSem.ClaimMapViews
import Derived.JoinedTies
import Derived.KernelRfl
namespace Go.Proofs.Ytmfjlfemeihchaa
/- THE CELL 'sum', in the pinned program and in every row, IS THE sha256 OF THE DUMP (.gsa) THAT YtmfjlfemeihchaaProg.lean LOADS. Nothing in Lean hashes anything: it is a label: what it is worth is what the hold of that sum in a sandbox is worth. -/
noncomputable def Try.pinned : Pinned := { name := "ytmfjlfemeihchaa", sum := "179252f2f56ac6ade8b2f629571e8eda1cf5e13a468b03bb1fa8ad24bffe193e", checked := Try.checked }
namespace Rows
def none {H : Type} : Left H := { results := [], args := [] }

/-- 'tourbillonlaw10.IpiPlays': WHATEVER THE INPUT: true; the input reads as it did. -/
def ipiPlaysSpec : ChangeSpec := { name := "ipiPlays", fn := fun _ => fun
  | [d1, d2] => { results := [.lit (.bool true)], args := [d1, d2] }
  | _ => none }
def ipiPlaysRow : OpenClaim := { program := "ytmfjlfemeihchaa", sum := "179252f2f56ac6ade8b2f629571e8eda1cf5e13a468b03bb1fa8ad24bffe193e", func := "tourbillon/tourbillonlaw10.IpiPlays", spec := "ipiPlays", plainKeys := false, apart := false }
def IpiPlaysSaid : Prop := ipiPlaysRow.holds Try.pinned (OpenSpec.ofChange ipiPlaysSpec)

/-- ITS FALSE NEIGHBOUR: 'it returns false'. Refute it at one input. -/
def ipiPlaysWrong : ChangeSpec := { name := "ipiPlays", fn := fun _ => fun
  | [d1, d2] => { results := [.lit (.bool false)], args := [d1, d2] }
  | _ => none }
def IpiPlaysWrongFalsely : Prop := ipiPlaysRow.holds Try.pinned (OpenSpec.ofChange ipiPlaysWrong)

/-- 'tourbillonlaw10.IpiOnce': WHATEVER THE INPUT: true; the input reads as it did. -/
def ipiOnceSpec : ChangeSpec := { name := "ipiOnce", fn := fun _ => fun
  | [d1, d2, d3] => { results := [.lit (.bool true)], args := [d1, d2, d3] }
  | _ => none }
def ipiOnceRow : OpenClaim := { program := "ytmfjlfemeihchaa", sum := "179252f2f56ac6ade8b2f629571e8eda1cf5e13a468b03bb1fa8ad24bffe193e", func := "tourbillon/tourbillonlaw10.IpiOnce", spec := "ipiOnce", plainKeys := false, apart := false }
def IpiOnceSaid : Prop := ipiOnceRow.holds Try.pinned (OpenSpec.ofChange ipiOnceSpec)

/-- ITS FALSE NEIGHBOUR: 'it returns false'. Refute it at one input. -/
def ipiOnceWrong : ChangeSpec := { name := "ipiOnce", fn := fun _ => fun
  | [d1, d2, d3] => { results := [.lit (.bool false)], args := [d1, d2, d3] }
  | _ => none }
def IpiOnceWrongFalsely : Prop := ipiOnceRow.holds Try.pinned (OpenSpec.ofChange ipiOnceWrong)

/-- 'tourbillonlaw10.IpiOne': WHATEVER THE INPUT: true; the input reads as it did. -/
def ipiOneSpec : ChangeSpec := { name := "ipiOne", fn := fun _ => fun
  | [d1, d2, d3, d4, d5, d6] => { results := [.lit (.bool true)], args := [d1, d2, d3, d4, d5, d6] }
  | _ => none }
def ipiOneRow : OpenClaim := { program := "ytmfjlfemeihchaa", sum := "179252f2f56ac6ade8b2f629571e8eda1cf5e13a468b03bb1fa8ad24bffe193e", func := "tourbillon/tourbillonlaw10.IpiOne", spec := "ipiOne", plainKeys := false, apart := false }
def IpiOneSaid : Prop := ipiOneRow.holds Try.pinned (OpenSpec.ofChange ipiOneSpec)

/-- ITS FALSE NEIGHBOUR: 'it returns false'. Refute it at one input. -/
def ipiOneWrong : ChangeSpec := { name := "ipiOne", fn := fun _ => fun
  | [d1, d2, d3, d4, d5, d6] => { results := [.lit (.bool false)], args := [d1, d2, d3, d4, d5, d6] }
  | _ => none }
def IpiOneWrongFalsely : Prop := ipiOneRow.holds Try.pinned (OpenSpec.ofChange ipiOneWrong)

/- THE SECOND FORM. 'bulk': how many values and letters a reading holds, each counted each time it is reached (what is shared counts as often as it is met; a slice's spare places count too). A statement '..UptoSaid' is the law's where the arguments, and the package variables that the reading takes, are together of bulk at most 1048576: NARROWER than '..Said'. Prove '..Said' where nothing that the law and all that it calls make is longer than what came in: it says more and counts as full. Else prove '..UptoSaid'. A law counts once. -/
mutual
def uptoBulk {H : Type} : DataW H → Nat
  | .lit (.string bytes) => bytes.length + 1
  | .lit _ => 1
  | .nil => 1
  | .ptr d => uptoBulk d + 1
  | .slice elems spare => uptoBulkAll elems + uptoBulkAll spare + 1
  | .agg parts => uptoBulkAll parts + 1
  | .iface _ d => uptoBulk d + 1
  | .map entries => uptoBulkEntries entries + 1
  | .held _ => 1
def uptoBulkAll {H : Type} : List (DataW H) → Nat
  | [] => 0
  | d :: r => uptoBulk d + uptoBulkAll r
def uptoBulkEntries {H : Type} : List (Lit × DataW H) → Nat
  | [] => 0
  | x :: r => uptoBulkEntry x + uptoBulkEntries r
def uptoBulkEntry {H : Type} : Lit × DataW H → Nat
  | (.string bytes, d) => bytes.length + uptoBulk d + 1
  | (_, d) => uptoBulk d + 1
 end
def uptoSmall : (H : Type) → List (DataW H) → Bool := fun _ ds => decide (uptoBulkAll ds ≤ 1048576)
def OpenSpec.upto (s : _root_.Go.ChangeSpec) : _root_.Go.OpenSpec := { _root_.Go.OpenSpec.ofChange s with cond := some uptoSmall }

/-- 'tourbillonlaw10.IpiPlays', WHERE WHAT IT READS IS OF BULK AT MOST 1048576: true; the input reads as it did. -/
def ipiPlaysUptoRow : OpenClaim := { program := "ytmfjlfemeihchaa", sum := "179252f2f56ac6ade8b2f629571e8eda1cf5e13a468b03bb1fa8ad24bffe193e", func := "tourbillon/tourbillonlaw10.IpiPlays", spec := "ipiPlays", plainKeys := false, apart := false, narrowed := true }
def IpiPlaysUptoSaid : Prop := ipiPlaysUptoRow.holds Try.pinned (OpenSpec.upto ipiPlaysSpec)

/-- 'tourbillonlaw10.IpiOnce', WHERE WHAT IT READS IS OF BULK AT MOST 1048576: true; the input reads as it did. -/
def ipiOnceUptoRow : OpenClaim := { program := "ytmfjlfemeihchaa", sum := "179252f2f56ac6ade8b2f629571e8eda1cf5e13a468b03bb1fa8ad24bffe193e", func := "tourbillon/tourbillonlaw10.IpiOnce", spec := "ipiOnce", plainKeys := false, apart := false, narrowed := true }
def IpiOnceUptoSaid : Prop := ipiOnceUptoRow.holds Try.pinned (OpenSpec.upto ipiOnceSpec)

/-- 'tourbillonlaw10.IpiOne', WHERE WHAT IT READS IS OF BULK AT MOST 1048576: true; the input reads as it did. -/
def ipiOneUptoRow : OpenClaim := { program := "ytmfjlfemeihchaa", sum := "179252f2f56ac6ade8b2f629571e8eda1cf5e13a468b03bb1fa8ad24bffe193e", func := "tourbillon/tourbillonlaw10.IpiOne", spec := "ipiOne", plainKeys := false, apart := false, narrowed := true }
def IpiOneUptoSaid : Prop := ipiOneUptoRow.holds Try.pinned (OpenSpec.upto ipiOneSpec)

end Rows
end Go.Proofs.Ytmfjlfemeihchaa
