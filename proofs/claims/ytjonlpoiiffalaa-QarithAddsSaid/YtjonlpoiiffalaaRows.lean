/-
  No cell of these rows narrows 'for every input' (looked for: loops, veiled, ifaces, maps, wideKeys, modest, calm, conditions, laid).
  DERIVED. THE GIVEN ROWS OF THIS SEAT. 12 by the template 'for every input the law returns true; each argument reads behind the call as it read before'; 0 by the template 'total and deterministic' (their statements: YtjonlpoiiffalaaTotals.lean).
  GIVEN WITH THE SEED: the statements are not yours to turn. If you find one false, say at which input.
  Laid BY PROGRAM, IN A SANDBOX (cutbox-rows.mjs): the forced cells as the released guide's own fill.sh prints them over the translation 5acf9f62f5894a34… (all of the seat's roots in one cut). By AI agents, Wed Nov 11 2026. No macro, syntax, notation, axiom, sorry.
-/
import Derived.Test.YtjonlpoiiffalaaChecked
import GoSem.Claim
import GoSem.ClaimJoined
import GoSem.ClaimMapViews
import Derived.JoinedTies
import Derived.KernelRfl
namespace Go.Proofs.Ytjonlpoiiffalaa
/- THE CELL 'sum', in the pinned program and in every row, IS THE sha256 OF THE DUMP (.gsa) THAT YtjonlpoiiffalaaProg.lean LOADS. Nothing in Lean hashes anything: it is a label: what it is worth is what the hold of that sum in a sandbox is worth. -/
noncomputable def Try.pinned : Pinned := { name := "ytjonlpoiiffalaa", sum := "5acf9f62f5894a34e0d766a4ec642ed09c1180735e69582fc3a43451162b3ff3", checked := Try.checked }
namespace Rows
def none {H : Type} : Left H := { results := [], args := [] }

/-- 'tourbillonlaw01.QarithSums': WHATEVER THE INPUT: true; the input reads as it did. -/
def qarithSumsSpec : ChangeSpec := { name := "qarithSums", fn := fun _ => fun
  | [d1, d2] => { results := [.lit (.bool true)], args := [d1, d2] }
  | _ => none }
def qarithSumsRow : OpenClaim := { program := "ytjonlpoiiffalaa", sum := "5acf9f62f5894a34e0d766a4ec642ed09c1180735e69582fc3a43451162b3ff3", func := "tourbillon/tourbillonlaw01.QarithSums", spec := "qarithSums", apart := false }
def QarithSumsSaid : Prop := qarithSumsRow.holds Try.pinned (OpenSpec.ofChange qarithSumsSpec)

/-- ITS FALSE NEIGHBOUR: 'it returns false'. Refute it at one input. -/
def qarithSumsWrong : ChangeSpec := { name := "qarithSums", fn := fun _ => fun
  | [d1, d2] => { results := [.lit (.bool false)], args := [d1, d2] }
  | _ => none }
def QarithSumsWrongFalsely : Prop := qarithSumsRow.holds Try.pinned (OpenSpec.ofChange qarithSumsWrong)

/-- 'tourbillonlaw01.QarithDivides': WHATEVER THE INPUT: true; the input reads as it did. -/
def qarithDividesSpec : ChangeSpec := { name := "qarithDivides", fn := fun _ => fun
  | [d1, d2, d3, d4] => { results := [.lit (.bool true)], args := [d1, d2, d3, d4] }
  | _ => none }
def qarithDividesRow : OpenClaim := { program := "ytjonlpoiiffalaa", sum := "5acf9f62f5894a34e0d766a4ec642ed09c1180735e69582fc3a43451162b3ff3", func := "tourbillon/tourbillonlaw01.QarithDivides", spec := "qarithDivides", apart := false }
def QarithDividesSaid : Prop := qarithDividesRow.holds Try.pinned (OpenSpec.ofChange qarithDividesSpec)

/-- ITS FALSE NEIGHBOUR: 'it returns false'. Refute it at one input. -/
def qarithDividesWrong : ChangeSpec := { name := "qarithDivides", fn := fun _ => fun
  | [d1, d2, d3, d4] => { results := [.lit (.bool false)], args := [d1, d2, d3, d4] }
  | _ => none }
def QarithDividesWrongFalsely : Prop := qarithDividesRow.holds Try.pinned (OpenSpec.ofChange qarithDividesWrong)

/-- 'tourbillonlaw01.QarithCompares': WHATEVER THE INPUT: true; the input reads as it did. -/
def qarithComparesSpec : ChangeSpec := { name := "qarithCompares", fn := fun _ => fun
  | [d1, d2, d3, d4] => { results := [.lit (.bool true)], args := [d1, d2, d3, d4] }
  | _ => none }
def qarithComparesRow : OpenClaim := { program := "ytjonlpoiiffalaa", sum := "5acf9f62f5894a34e0d766a4ec642ed09c1180735e69582fc3a43451162b3ff3", func := "tourbillon/tourbillonlaw01.QarithCompares", spec := "qarithCompares", apart := false }
def QarithComparesSaid : Prop := qarithComparesRow.holds Try.pinned (OpenSpec.ofChange qarithComparesSpec)

/-- ITS FALSE NEIGHBOUR: 'it returns false'. Refute it at one input. -/
def qarithComparesWrong : ChangeSpec := { name := "qarithCompares", fn := fun _ => fun
  | [d1, d2, d3, d4] => { results := [.lit (.bool false)], args := [d1, d2, d3, d4] }
  | _ => none }
def QarithComparesWrongFalsely : Prop := qarithComparesRow.holds Try.pinned (OpenSpec.ofChange qarithComparesWrong)

/-- 'tourbillonlaw01.QarithLoads': WHATEVER THE INPUT: true; the input reads as it did. -/
def qarithLoadsSpec : ChangeSpec := { name := "qarithLoads", fn := fun _ => fun
  | [d1, d2] => { results := [.lit (.bool true)], args := [d1, d2] }
  | _ => none }
def qarithLoadsRow : OpenClaim := { program := "ytjonlpoiiffalaa", sum := "5acf9f62f5894a34e0d766a4ec642ed09c1180735e69582fc3a43451162b3ff3", func := "tourbillon/tourbillonlaw01.QarithLoads", spec := "qarithLoads", apart := false }
def QarithLoadsSaid : Prop := qarithLoadsRow.holds Try.pinned (OpenSpec.ofChange qarithLoadsSpec)

/-- ITS FALSE NEIGHBOUR: 'it returns false'. Refute it at one input. -/
def qarithLoadsWrong : ChangeSpec := { name := "qarithLoads", fn := fun _ => fun
  | [d1, d2] => { results := [.lit (.bool false)], args := [d1, d2] }
  | _ => none }
def QarithLoadsWrongFalsely : Prop := qarithLoadsRow.holds Try.pinned (OpenSpec.ofChange qarithLoadsWrong)

/-- 'tourbillonlaw01.QarithBack': WHATEVER THE INPUT: true; the input reads as it did. -/
def qarithBackSpec : ChangeSpec := { name := "qarithBack", fn := fun _ => fun
  | [d1, d2] => { results := [.lit (.bool true)], args := [d1, d2] }
  | _ => none }
def qarithBackRow : OpenClaim := { program := "ytjonlpoiiffalaa", sum := "5acf9f62f5894a34e0d766a4ec642ed09c1180735e69582fc3a43451162b3ff3", func := "tourbillon/tourbillonlaw01.QarithBack", spec := "qarithBack", apart := false }
def QarithBackSaid : Prop := qarithBackRow.holds Try.pinned (OpenSpec.ofChange qarithBackSpec)

/-- ITS FALSE NEIGHBOUR: 'it returns false'. Refute it at one input. -/
def qarithBackWrong : ChangeSpec := { name := "qarithBack", fn := fun _ => fun
  | [d1, d2] => { results := [.lit (.bool false)], args := [d1, d2] }
  | _ => none }
def QarithBackWrongFalsely : Prop := qarithBackRow.holds Try.pinned (OpenSpec.ofChange qarithBackWrong)

/-- 'tourbillonlaw01.QarithRounds': WHATEVER THE INPUT: true; the input reads as it did. -/
def qarithRoundsSpec : ChangeSpec := { name := "qarithRounds", fn := fun _ => fun
  | [d1, d2, d3] => { results := [.lit (.bool true)], args := [d1, d2, d3] }
  | _ => none }
def qarithRoundsRow : OpenClaim := { program := "ytjonlpoiiffalaa", sum := "5acf9f62f5894a34e0d766a4ec642ed09c1180735e69582fc3a43451162b3ff3", func := "tourbillon/tourbillonlaw01.QarithRounds", spec := "qarithRounds", apart := false }
def QarithRoundsSaid : Prop := qarithRoundsRow.holds Try.pinned (OpenSpec.ofChange qarithRoundsSpec)

/-- ITS FALSE NEIGHBOUR: 'it returns false'. Refute it at one input. -/
def qarithRoundsWrong : ChangeSpec := { name := "qarithRounds", fn := fun _ => fun
  | [d1, d2, d3] => { results := [.lit (.bool false)], args := [d1, d2, d3] }
  | _ => none }
def QarithRoundsWrongFalsely : Prop := qarithRoundsRow.holds Try.pinned (OpenSpec.ofChange qarithRoundsWrong)

/-- 'tourbillonlaw01.QarithOrder': WHATEVER THE INPUT: true; the input reads as it did. -/
def qarithOrderSpec : ChangeSpec := { name := "qarithOrder", fn := fun _ => fun
  | [d1, d2, d3, d4, d5] => { results := [.lit (.bool true)], args := [d1, d2, d3, d4, d5] }
  | _ => none }
def qarithOrderRow : OpenClaim := { program := "ytjonlpoiiffalaa", sum := "5acf9f62f5894a34e0d766a4ec642ed09c1180735e69582fc3a43451162b3ff3", func := "tourbillon/tourbillonlaw01.QarithOrder", spec := "qarithOrder", apart := false }
def QarithOrderSaid : Prop := qarithOrderRow.holds Try.pinned (OpenSpec.ofChange qarithOrderSpec)

/-- ITS FALSE NEIGHBOUR: 'it returns false'. Refute it at one input. -/
def qarithOrderWrong : ChangeSpec := { name := "qarithOrder", fn := fun _ => fun
  | [d1, d2, d3, d4, d5] => { results := [.lit (.bool false)], args := [d1, d2, d3, d4, d5] }
  | _ => none }
def QarithOrderWrongFalsely : Prop := qarithOrderRow.holds Try.pinned (OpenSpec.ofChange qarithOrderWrong)

/-- 'tourbillonlaw01.QarithGcd': WHATEVER THE INPUT: true; the input reads as it did. -/
def qarithGcdSpec : ChangeSpec := { name := "qarithGcd", fn := fun _ => fun
  | [d1, d2] => { results := [.lit (.bool true)], args := [d1, d2] }
  | _ => none }
def qarithGcdRow : OpenClaim := { program := "ytjonlpoiiffalaa", sum := "5acf9f62f5894a34e0d766a4ec642ed09c1180735e69582fc3a43451162b3ff3", func := "tourbillon/tourbillonlaw01.QarithGcd", spec := "qarithGcd", apart := false }
def QarithGcdSaid : Prop := qarithGcdRow.holds Try.pinned (OpenSpec.ofChange qarithGcdSpec)

/-- ITS FALSE NEIGHBOUR: 'it returns false'. Refute it at one input. -/
def qarithGcdWrong : ChangeSpec := { name := "qarithGcd", fn := fun _ => fun
  | [d1, d2] => { results := [.lit (.bool false)], args := [d1, d2] }
  | _ => none }
def QarithGcdWrongFalsely : Prop := qarithGcdRow.holds Try.pinned (OpenSpec.ofChange qarithGcdWrong)

/-- 'tourbillonlaw01.QarithTurns': WHATEVER THE INPUT: true; the input reads as it did. -/
def qarithTurnsSpec : ChangeSpec := { name := "qarithTurns", fn := fun _ => fun
  | [d1, d2] => { results := [.lit (.bool true)], args := [d1, d2] }
  | _ => none }
def qarithTurnsRow : OpenClaim := { program := "ytjonlpoiiffalaa", sum := "5acf9f62f5894a34e0d766a4ec642ed09c1180735e69582fc3a43451162b3ff3", func := "tourbillon/tourbillonlaw01.QarithTurns", spec := "qarithTurns", apart := false }
def QarithTurnsSaid : Prop := qarithTurnsRow.holds Try.pinned (OpenSpec.ofChange qarithTurnsSpec)

/-- ITS FALSE NEIGHBOUR: 'it returns false'. Refute it at one input. -/
def qarithTurnsWrong : ChangeSpec := { name := "qarithTurns", fn := fun _ => fun
  | [d1, d2] => { results := [.lit (.bool false)], args := [d1, d2] }
  | _ => none }
def QarithTurnsWrongFalsely : Prop := qarithTurnsRow.holds Try.pinned (OpenSpec.ofChange qarithTurnsWrong)

/-- 'tourbillonlaw01.QarithScales': WHATEVER THE INPUT: true; the input reads as it did. -/
def qarithScalesSpec : ChangeSpec := { name := "qarithScales", fn := fun _ => fun
  | [d1, d2, d3, d4] => { results := [.lit (.bool true)], args := [d1, d2, d3, d4] }
  | _ => none }
def qarithScalesRow : OpenClaim := { program := "ytjonlpoiiffalaa", sum := "5acf9f62f5894a34e0d766a4ec642ed09c1180735e69582fc3a43451162b3ff3", func := "tourbillon/tourbillonlaw01.QarithScales", spec := "qarithScales", apart := false }
def QarithScalesSaid : Prop := qarithScalesRow.holds Try.pinned (OpenSpec.ofChange qarithScalesSpec)

/-- ITS FALSE NEIGHBOUR: 'it returns false'. Refute it at one input. -/
def qarithScalesWrong : ChangeSpec := { name := "qarithScales", fn := fun _ => fun
  | [d1, d2, d3, d4] => { results := [.lit (.bool false)], args := [d1, d2, d3, d4] }
  | _ => none }
def QarithScalesWrongFalsely : Prop := qarithScalesRow.holds Try.pinned (OpenSpec.ofChange qarithScalesWrong)

/-- 'tourbillonlaw01.QarithAdds': WHATEVER THE INPUT: true; the input reads as it did. -/
def qarithAddsSpec : ChangeSpec := { name := "qarithAdds", fn := fun _ => fun
  | [d1, d2, d3] => { results := [.lit (.bool true)], args := [d1, d2, d3] }
  | _ => none }
def qarithAddsRow : OpenClaim := { program := "ytjonlpoiiffalaa", sum := "5acf9f62f5894a34e0d766a4ec642ed09c1180735e69582fc3a43451162b3ff3", func := "tourbillon/tourbillonlaw01.QarithAdds", spec := "qarithAdds", apart := false }
def QarithAddsSaid : Prop := qarithAddsRow.holds Try.pinned (OpenSpec.ofChange qarithAddsSpec)

/-- ITS FALSE NEIGHBOUR: 'it returns false'. Refute it at one input. -/
def qarithAddsWrong : ChangeSpec := { name := "qarithAdds", fn := fun _ => fun
  | [d1, d2, d3] => { results := [.lit (.bool false)], args := [d1, d2, d3] }
  | _ => none }
def QarithAddsWrongFalsely : Prop := qarithAddsRow.holds Try.pinned (OpenSpec.ofChange qarithAddsWrong)

/-- 'tourbillonlaw01.QarithNoughts': WHATEVER THE INPUT: true; the input reads as it did. -/
def qarithNoughtsSpec : ChangeSpec := { name := "qarithNoughts", fn := fun _ => fun
  | [d] => { results := [.lit (.bool true)], args := [d] }
  | _ => none }
def qarithNoughtsRow : OpenClaim := { program := "ytjonlpoiiffalaa", sum := "5acf9f62f5894a34e0d766a4ec642ed09c1180735e69582fc3a43451162b3ff3", func := "tourbillon/tourbillonlaw01.QarithNoughts", spec := "qarithNoughts", apart := false }
def QarithNoughtsSaid : Prop := qarithNoughtsRow.holds Try.pinned (OpenSpec.ofChange qarithNoughtsSpec)

/-- ITS FALSE NEIGHBOUR: 'it returns false'. Refute it at one input. -/
def qarithNoughtsWrong : ChangeSpec := { name := "qarithNoughts", fn := fun _ => fun
  | [d] => { results := [.lit (.bool false)], args := [d] }
  | _ => none }
def QarithNoughtsWrongFalsely : Prop := qarithNoughtsRow.holds Try.pinned (OpenSpec.ofChange qarithNoughtsWrong)

/- THE SECOND FORM. 'bulk': how many values and letters a reading holds, each counted each time it is reached (what is shared counts as often as it is met; a slice's spare places count too). A statement '..UptoSaid' is the law's where the arguments, and the package variables that the reading takes, are together of bulk at most 1048576: NARROWER than '..Said'. Prove '..Said' where nothing that the law and all that it calls make is longer than what came in: it says more and counts as full. Else prove '..UptoSaid'. A law counts once. -/
mutual
def uptoBulk {H : Type} : DataW H → Nat
  | .lit (.string bytes) => bytes.length + 1
  | .lit _ => 1
  | .nil => 1
  | .ptr d => uptoBulk d + 1
  | .slice elems spare => uptoBulkAll elems + uptoBulkAll spare + 1
  | .agg parts => uptoBulkAll parts + 1
  | .iface _ d => uptoBulk d + 1
  | .map entries => uptoBulkEntries entries + 1
  | .held _ => 1
def uptoBulkAll {H : Type} : List (DataW H) → Nat
  | [] => 0
  | d :: r => uptoBulk d + uptoBulkAll r
def uptoBulkEntries {H : Type} : List (Lit × DataW H) → Nat
  | [] => 0
  | x :: r => uptoBulkEntry x + uptoBulkEntries r
def uptoBulkEntry {H : Type} : Lit × DataW H → Nat
  | (.string bytes, d) => bytes.length + uptoBulk d + 1
  | (_, d) => uptoBulk d + 1
 end
def uptoSmall : (H : Type) → List (DataW H) → Bool := fun _ ds => decide (uptoBulkAll ds ≤ 1048576)
def OpenSpec.upto (s : _root_.Go.ChangeSpec) : _root_.Go.OpenSpec := { _root_.Go.OpenSpec.ofChange s with cond := some uptoSmall }

/-- 'tourbillonlaw01.QarithSums', WHERE WHAT IT READS IS OF BULK AT MOST 1048576: true; the input reads as it did. -/
def qarithSumsUptoRow : OpenClaim := { program := "ytjonlpoiiffalaa", sum := "5acf9f62f5894a34e0d766a4ec642ed09c1180735e69582fc3a43451162b3ff3", func := "tourbillon/tourbillonlaw01.QarithSums", spec := "qarithSums", apart := false, narrowed := true }
def QarithSumsUptoSaid : Prop := qarithSumsUptoRow.holds Try.pinned (OpenSpec.upto qarithSumsSpec)

/-- 'tourbillonlaw01.QarithDivides', WHERE WHAT IT READS IS OF BULK AT MOST 1048576: true; the input reads as it did. -/
def qarithDividesUptoRow : OpenClaim := { program := "ytjonlpoiiffalaa", sum := "5acf9f62f5894a34e0d766a4ec642ed09c1180735e69582fc3a43451162b3ff3", func := "tourbillon/tourbillonlaw01.QarithDivides", spec := "qarithDivides", apart := false, narrowed := true }
def QarithDividesUptoSaid : Prop := qarithDividesUptoRow.holds Try.pinned (OpenSpec.upto qarithDividesSpec)

/-- 'tourbillonlaw01.QarithCompares', WHERE WHAT IT READS IS OF BULK AT MOST 1048576: true; the input reads as it did. -/
def qarithComparesUptoRow : OpenClaim := { program := "ytjonlpoiiffalaa", sum := "5acf9f62f5894a34e0d766a4ec642ed09c1180735e69582fc3a43451162b3ff3", func := "tourbillon/tourbillonlaw01.QarithCompares", spec := "qarithCompares", apart := false, narrowed := true }
def QarithComparesUptoSaid : Prop := qarithComparesUptoRow.holds Try.pinned (OpenSpec.upto qarithComparesSpec)

/-- 'tourbillonlaw01.QarithLoads', WHERE WHAT IT READS IS OF BULK AT MOST 1048576: true; the input reads as it did. -/
def qarithLoadsUptoRow : OpenClaim := { program := "ytjonlpoiiffalaa", sum := "5acf9f62f5894a34e0d766a4ec642ed09c1180735e69582fc3a43451162b3ff3", func := "tourbillon/tourbillonlaw01.QarithLoads", spec := "qarithLoads", apart := false, narrowed := true }
def QarithLoadsUptoSaid : Prop := qarithLoadsUptoRow.holds Try.pinned (OpenSpec.upto qarithLoadsSpec)

/-- 'tourbillonlaw01.QarithBack', WHERE WHAT IT READS IS OF BULK AT MOST 1048576: true; the input reads as it did. -/
def qarithBackUptoRow : OpenClaim := { program := "ytjonlpoiiffalaa", sum := "5acf9f62f5894a34e0d766a4ec642ed09c1180735e69582fc3a43451162b3ff3", func := "tourbillon/tourbillonlaw01.QarithBack", spec := "qarithBack", apart := false, narrowed := true }
def QarithBackUptoSaid : Prop := qarithBackUptoRow.holds Try.pinned (OpenSpec.upto qarithBackSpec)

/-- 'tourbillonlaw01.QarithRounds', WHERE WHAT IT READS IS OF BULK AT MOST 1048576: true; the input reads as it did. -/
def qarithRoundsUptoRow : OpenClaim := { program := "ytjonlpoiiffalaa", sum := "5acf9f62f5894a34e0d766a4ec642ed09c1180735e69582fc3a43451162b3ff3", func := "tourbillon/tourbillonlaw01.QarithRounds", spec := "qarithRounds", apart := false, narrowed := true }
def QarithRoundsUptoSaid : Prop := qarithRoundsUptoRow.holds Try.pinned (OpenSpec.upto qarithRoundsSpec)

/-- 'tourbillonlaw01.QarithOrder', WHERE WHAT IT READS IS OF BULK AT MOST 1048576: true; the input reads as it did. -/
def qarithOrderUptoRow : OpenClaim := { program := "ytjonlpoiiffalaa", sum := "5acf9f62f5894a34e0d766a4ec642ed09c1180735e69582fc3a43451162b3ff3", func := "tourbillon/tourbillonlaw01.QarithOrder", spec := "qarithOrder", apart := false, narrowed := true }
def QarithOrderUptoSaid : Prop := qarithOrderUptoRow.holds Try.pinned (OpenSpec.upto qarithOrderSpec)

/-- 'tourbillonlaw01.QarithGcd', WHERE WHAT IT READS IS OF BULK AT MOST 1048576: true; the input reads as it did. -/
def qarithGcdUptoRow : OpenClaim := { program := "ytjonlpoiiffalaa", sum := "5acf9f62f5894a34e0d766a4ec642ed09c1180735e69582fc3a43451162b3ff3", func := "tourbillon/tourbillonlaw01.QarithGcd", spec := "qarithGcd", apart := false, narrowed := true }
def QarithGcdUptoSaid : Prop := qarithGcdUptoRow.holds Try.pinned (OpenSpec.upto qarithGcdSpec)

/-- 'tourbillonlaw01.QarithTurns', WHERE WHAT IT READS IS OF BULK AT MOST 1048576: true; the input reads as it did. -/
def qarithTurnsUptoRow : OpenClaim := { program := "ytjonlpoiiffalaa", sum := "5acf9f62f5894a34e0d766a4ec642ed09c1180735e69582fc3a43451162b3ff3", func := "tourbillon/tourbillonlaw01.QarithTurns", spec := "qarithTurns", apart := false, narrowed := true }
def QarithTurnsUptoSaid : Prop := qarithTurnsUptoRow.holds Try.pinned (OpenSpec.upto qarithTurnsSpec)

/-- 'tourbillonlaw01.QarithScales', WHERE WHAT IT READS IS OF BULK AT MOST 1048576: true; the input reads as it did. -/
def qarithScalesUptoRow : OpenClaim := { program := "ytjonlpoiiffalaa", sum := "5acf9f62f5894a34e0d766a4ec642ed09c1180735e69582fc3a43451162b3ff3", func := "tourbillon/tourbillonlaw01.QarithScales", spec := "qarithScales", apart := false, narrowed := true }
def QarithScalesUptoSaid : Prop := qarithScalesUptoRow.holds Try.pinned (OpenSpec.upto qarithScalesSpec)

/-- 'tourbillonlaw01.QarithAdds', WHERE WHAT IT READS IS OF BULK AT MOST 1048576: true; the input reads as it did. -/
def qarithAddsUptoRow : OpenClaim := { program := "ytjonlpoiiffalaa", sum := "5acf9f62f5894a34e0d766a4ec642ed09c1180735e69582fc3a43451162b3ff3", func := "tourbillon/tourbillonlaw01.QarithAdds", spec := "qarithAdds", apart := false, narrowed := true }
def QarithAddsUptoSaid : Prop := qarithAddsUptoRow.holds Try.pinned (OpenSpec.upto qarithAddsSpec)

/-- 'tourbillonlaw01.QarithNoughts', WHERE WHAT IT READS IS OF BULK AT MOST 1048576: true; the input reads as it did. -/
def qarithNoughtsUptoRow : OpenClaim := { program := "ytjonlpoiiffalaa", sum := "5acf9f62f5894a34e0d766a4ec642ed09c1180735e69582fc3a43451162b3ff3", func := "tourbillon/tourbillonlaw01.QarithNoughts", spec := "qarithNoughts", apart := false, narrowed := true }
def QarithNoughtsUptoSaid : Prop := qarithNoughtsUptoRow.holds Try.pinned (OpenSpec.upto qarithNoughtsSpec)

end Rows
end Go.Proofs.Ytjonlpoiiffalaa
