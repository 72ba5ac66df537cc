/-
  No cell of these rows narrows 'for every input' (looked for: loops, veiled, ifaces, maps, wideKeys, modest, calm, conditions, laid).
  DERIVED. THE GIVEN ROWS OF THIS SEAT. 4 by the template 'for every input the law returns true; each argument reads behind the call as it read before'; 0 by the template 'total and deterministic' (their statements: YtbfmoaojimimjaaTotals.lean).
  GIVEN WITH THE SEED: the statements are not yours to turn. If you find one false, say at which input.
  Laid BY PROGRAM, IN A SANDBOX (cutbox-rows.mjs): the forced cells as the released guide's own fill.sh prints them over the translation d7e28d74ea0c20c9… (all of the seat's roots in one cut). By AI agents, Wed Nov 11 2026. No macro, syntax, notation, axiom, sorry.
-/
import Derived.Test.YtbfmoaojimimjaaChecked
import GoSem.Claim
import GoSem.ClaimJoined
import GoSem.ClaimMapViews
import Derived.JoinedTies
import Derived.KernelRfl
namespace Go.Proofs.Ytbfmoaojimimjaa
/- THE CELL 'sum', in the pinned program and in every row, IS THE sha256 OF THE DUMP (.gsa) THAT YtbfmoaojimimjaaProg.lean LOADS. Nothing in Lean hashes anything: it is a label: what it is worth is what the hold of that sum in a sandbox is worth. -/
noncomputable def Try.pinned : Pinned := { name := "ytbfmoaojimimjaa", sum := "d7e28d74ea0c20c9557d463589dd3f3be190fa446e724c733aec91454e6b005c", checked := Try.checked }
namespace Rows
def none {H : Type} : Left H := { results := [], args := [] }

/-- 'tourbillonlaw12.ReadyPlays': WHATEVER THE INPUT: true; the input reads as it did. -/
def readyPlaysSpec : ChangeSpec := { name := "readyPlays", fn := fun _ => fun
  | [d1, d2] => { results := [.lit (.bool true)], args := [d1, d2] }
  | _ => none }
def readyPlaysRow : OpenClaim := { program := "ytbfmoaojimimjaa", sum := "d7e28d74ea0c20c9557d463589dd3f3be190fa446e724c733aec91454e6b005c", func := "tourbillon/tourbillonlaw12.ReadyPlays", spec := "readyPlays", apart := false }
def ReadyPlaysSaid : Prop := readyPlaysRow.holds Try.pinned (OpenSpec.ofChange readyPlaysSpec)

/-- ITS FALSE NEIGHBOUR: 'it returns false'. Refute it at one input. -/
def readyPlaysWrong : ChangeSpec := { name := "readyPlays", fn := fun _ => fun
  | [d1, d2] => { results := [.lit (.bool false)], args := [d1, d2] }
  | _ => none }
def ReadyPlaysWrongFalsely : Prop := readyPlaysRow.holds Try.pinned (OpenSpec.ofChange readyPlaysWrong)

/-- 'tourbillonlaw12.ReadyRaises': WHATEVER THE INPUT: true; the input reads as it did. -/
def readyRaisesSpec : ChangeSpec := { name := "readyRaises", fn := fun _ => fun
  | [d1, d2, d3] => { results := [.lit (.bool true)], args := [d1, d2, d3] }
  | _ => none }
def readyRaisesRow : OpenClaim := { program := "ytbfmoaojimimjaa", sum := "d7e28d74ea0c20c9557d463589dd3f3be190fa446e724c733aec91454e6b005c", func := "tourbillon/tourbillonlaw12.ReadyRaises", spec := "readyRaises", apart := false }
def ReadyRaisesSaid : Prop := readyRaisesRow.holds Try.pinned (OpenSpec.ofChange readyRaisesSpec)

/-- ITS FALSE NEIGHBOUR: 'it returns false'. Refute it at one input. -/
def readyRaisesWrong : ChangeSpec := { name := "readyRaises", fn := fun _ => fun
  | [d1, d2, d3] => { results := [.lit (.bool false)], args := [d1, d2, d3] }
  | _ => none }
def ReadyRaisesWrongFalsely : Prop := readyRaisesRow.holds Try.pinned (OpenSpec.ofChange readyRaisesWrong)

/-- 'tourbillonlaw12.ReadyLeast': WHATEVER THE INPUT: true; the input reads as it did. -/
def readyLeastSpec : ChangeSpec := { name := "readyLeast", fn := fun _ => fun
  | [d1, d2, d3] => { results := [.lit (.bool true)], args := [d1, d2, d3] }
  | _ => none }
def readyLeastRow : OpenClaim := { program := "ytbfmoaojimimjaa", sum := "d7e28d74ea0c20c9557d463589dd3f3be190fa446e724c733aec91454e6b005c", func := "tourbillon/tourbillonlaw12.ReadyLeast", spec := "readyLeast", apart := false }
def ReadyLeastSaid : Prop := readyLeastRow.holds Try.pinned (OpenSpec.ofChange readyLeastSpec)

/-- ITS FALSE NEIGHBOUR: 'it returns false'. Refute it at one input. -/
def readyLeastWrong : ChangeSpec := { name := "readyLeast", fn := fun _ => fun
  | [d1, d2, d3] => { results := [.lit (.bool false)], args := [d1, d2, d3] }
  | _ => none }
def ReadyLeastWrongFalsely : Prop := readyLeastRow.holds Try.pinned (OpenSpec.ofChange readyLeastWrong)

/-- 'tourbillonlaw12.ReadyStays': WHATEVER THE INPUT: true; the input reads as it did. -/
def readyStaysSpec : ChangeSpec := { name := "readyStays", fn := fun _ => fun
  | [d1, d2, d3] => { results := [.lit (.bool true)], args := [d1, d2, d3] }
  | _ => none }
def readyStaysRow : OpenClaim := { program := "ytbfmoaojimimjaa", sum := "d7e28d74ea0c20c9557d463589dd3f3be190fa446e724c733aec91454e6b005c", func := "tourbillon/tourbillonlaw12.ReadyStays", spec := "readyStays", apart := false }
def ReadyStaysSaid : Prop := readyStaysRow.holds Try.pinned (OpenSpec.ofChange readyStaysSpec)

/-- ITS FALSE NEIGHBOUR: 'it returns false'. Refute it at one input. -/
def readyStaysWrong : ChangeSpec := { name := "readyStays", fn := fun _ => fun
  | [d1, d2, d3] => { results := [.lit (.bool false)], args := [d1, d2, d3] }
  | _ => none }
def ReadyStaysWrongFalsely : Prop := readyStaysRow.holds Try.pinned (OpenSpec.ofChange readyStaysWrong)

/- THE SECOND FORM. 'bulk': how many values and letters a reading holds, each counted each time it is reached (what is shared counts as often as it is met; a slice's spare places count too). A statement '..UptoSaid' is the law's where the arguments, and the package variables that the reading takes, are together of bulk at most 1048576: NARROWER than '..Said'. Prove '..Said' where nothing that the law and all that it calls make is longer than what came in: it says more and counts as full. Else prove '..UptoSaid'. A law counts once. -/
mutual
def uptoBulk {H : Type} : DataW H → Nat
  | .lit (.string bytes) => bytes.length + 1
  | .lit _ => 1
  | .nil => 1
  | .ptr d => uptoBulk d + 1
  | .slice elems spare => uptoBulkAll elems + uptoBulkAll spare + 1
  | .agg parts => uptoBulkAll parts + 1
  | .iface _ d => uptoBulk d + 1
  | .map entries => uptoBulkEntries entries + 1
  | .held _ => 1
def uptoBulkAll {H : Type} : List (DataW H) → Nat
  | [] => 0
  | d :: r => uptoBulk d + uptoBulkAll r
def uptoBulkEntries {H : Type} : List (Lit × DataW H) → Nat
  | [] => 0
  | x :: r => uptoBulkEntry x + uptoBulkEntries r
def uptoBulkEntry {H : Type} : Lit × DataW H → Nat
  | (.string bytes, d) => bytes.length + uptoBulk d + 1
  | (_, d) => uptoBulk d + 1
 end
def uptoSmall : (H : Type) → List (DataW H) → Bool := fun _ ds => decide (uptoBulkAll ds ≤ 1048576)
def OpenSpec.upto (s : _root_.Go.ChangeSpec) : _root_.Go.OpenSpec := { _root_.Go.OpenSpec.ofChange s with cond := some uptoSmall }

/-- 'tourbillonlaw12.ReadyPlays', WHERE WHAT IT READS IS OF BULK AT MOST 1048576: true; the input reads as it did. -/
def readyPlaysUptoRow : OpenClaim := { program := "ytbfmoaojimimjaa", sum := "d7e28d74ea0c20c9557d463589dd3f3be190fa446e724c733aec91454e6b005c", func := "tourbillon/tourbillonlaw12.ReadyPlays", spec := "readyPlays", apart := false, narrowed := true }
def ReadyPlaysUptoSaid : Prop := readyPlaysUptoRow.holds Try.pinned (OpenSpec.upto readyPlaysSpec)

/-- 'tourbillonlaw12.ReadyRaises', WHERE WHAT IT READS IS OF BULK AT MOST 1048576: true; the input reads as it did. -/
def readyRaisesUptoRow : OpenClaim := { program := "ytbfmoaojimimjaa", sum := "d7e28d74ea0c20c9557d463589dd3f3be190fa446e724c733aec91454e6b005c", func := "tourbillon/tourbillonlaw12.ReadyRaises", spec := "readyRaises", apart := false, narrowed := true }
def ReadyRaisesUptoSaid : Prop := readyRaisesUptoRow.holds Try.pinned (OpenSpec.upto readyRaisesSpec)

/-- 'tourbillonlaw12.ReadyLeast', WHERE WHAT IT READS IS OF BULK AT MOST 1048576: true; the input reads as it did. -/
def readyLeastUptoRow : OpenClaim := { program := "ytbfmoaojimimjaa", sum := "d7e28d74ea0c20c9557d463589dd3f3be190fa446e724c733aec91454e6b005c", func := "tourbillon/tourbillonlaw12.ReadyLeast", spec := "readyLeast", apart := false, narrowed := true }
def ReadyLeastUptoSaid : Prop := readyLeastUptoRow.holds Try.pinned (OpenSpec.upto readyLeastSpec)

/-- 'tourbillonlaw12.ReadyStays', WHERE WHAT IT READS IS OF BULK AT MOST 1048576: true; the input reads as it did. -/
def readyStaysUptoRow : OpenClaim := { program := "ytbfmoaojimimjaa", sum := "d7e28d74ea0c20c9557d463589dd3f3be190fa446e724c733aec91454e6b005c", func := "tourbillon/tourbillonlaw12.ReadyStays", spec := "readyStays", apart := false, narrowed := true }
def ReadyStaysUptoSaid : Prop := readyStaysUptoRow.holds Try.pinned (OpenSpec.upto readyStaysSpec)

end Rows
end Go.Proofs.Ytbfmoaojimimjaa
