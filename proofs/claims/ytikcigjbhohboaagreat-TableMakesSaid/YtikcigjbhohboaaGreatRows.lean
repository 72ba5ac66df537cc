/-
  No cell of these rows narrows 'for every input' (looked for: loops, veiled, ifaces, maps, wideKeys, modest, calm, conditions, laid).
  DERIVED. THE GIVEN ROWS OF THIS SEAT. 6 by the template 'for every input the law returns true; each argument reads behind the call as it read before'; 0 by the template 'total and deterministic' (their statements: YtikcigjbhohboaaGreatTotals.lean).
  GIVEN WITH THE SEED: the statements are not yours to turn. If you find one false, say at which input.
  Laid BY PROGRAM, IN A SANDBOX (cutbox-rows.mjs): the forced cells as the released guide's own fill.sh prints them over the translation d609710dd25b978b… (all of the seat's roots in one cut). By AI agents, Wed Nov 11 2026. No macro, syntax, notation, axiom, sorry.
-/
import Derived.Test.YtikcigjbhohboaaGreatChecked
import GoSem.Claim
import GoSem.ClaimJoined
import GoSem.ClaimMapViews
import Derived.JoinedTies
import Derived.KernelRfl
namespace Go.Proofs.YtikcigjbhohboaaGreat
/- THE CELL 'sum', in the pinned program and in every row, IS THE sha256 OF THE DUMP (.gsa) THAT YtikcigjbhohboaaGreatProg.lean LOADS. Nothing in Lean hashes anything: it is a label: what it is worth is what the hold of that sum in a sandbox is worth. -/
noncomputable def Tryz.pinned : Pinned := { name := "ytikcigjbhohboaagreat", sum := "d609710dd25b978b136d218882807e6f3ef854edbbebd7b9ac5fab78bacb55e6", checked := Tryz.checked }
namespace Rows
def none {H : Type} : Left H := { results := [], args := [] }

/-- 'tourbillonlaw19.TableMakes': WHATEVER THE INPUT: true; the input reads as it did. -/
def tableMakesSpec : ChangeSpec := { name := "tableMakes", fn := fun _ => fun
  | [d1, d2, d3] => { results := [.lit (.bool true)], args := [d1, d2, d3] }
  | _ => none }
def tableMakesRow : OpenClaim := { program := "ytikcigjbhohboaagreat", sum := "d609710dd25b978b136d218882807e6f3ef854edbbebd7b9ac5fab78bacb55e6", func := "tourbillon/tourbillonlaw19.TableMakes", spec := "tableMakes", unfollowed := true, recurses := true, plainKeys := false, apart := false }
def TableMakesSaid : Prop := tableMakesRow.holds Tryz.pinned (OpenSpec.ofChange tableMakesSpec)

/-- ITS FALSE NEIGHBOUR: 'it returns false'. Refute it at one input. -/
def tableMakesWrong : ChangeSpec := { name := "tableMakes", fn := fun _ => fun
  | [d1, d2, d3] => { results := [.lit (.bool false)], args := [d1, d2, d3] }
  | _ => none }
def TableMakesWrongFalsely : Prop := tableMakesRow.holds Tryz.pinned (OpenSpec.ofChange tableMakesWrong)

/-- 'tourbillonlaw19.TableBytes': WHATEVER THE INPUT: true; the input reads as it did. -/
def tableBytesSpec : ChangeSpec := { name := "tableBytes", fn := fun _ => fun
  | [d1, d2] => { results := [.lit (.bool true)], args := [d1, d2] }
  | _ => none }
def tableBytesRow : OpenClaim := { program := "ytikcigjbhohboaagreat", sum := "d609710dd25b978b136d218882807e6f3ef854edbbebd7b9ac5fab78bacb55e6", func := "tourbillon/tourbillonlaw19.TableBytes", spec := "tableBytes", unfollowed := true, recurses := true, plainKeys := false, apart := false }
def TableBytesSaid : Prop := tableBytesRow.holds Tryz.pinned (OpenSpec.ofChange tableBytesSpec)

/-- ITS FALSE NEIGHBOUR: 'it returns false'. Refute it at one input. -/
def tableBytesWrong : ChangeSpec := { name := "tableBytes", fn := fun _ => fun
  | [d1, d2] => { results := [.lit (.bool false)], args := [d1, d2] }
  | _ => none }
def TableBytesWrongFalsely : Prop := tableBytesRow.holds Tryz.pinned (OpenSpec.ofChange tableBytesWrong)

/-- 'tourbillonlaw19.TableBack': WHATEVER THE INPUT: true; the input reads as it did. -/
def tableBackSpec : ChangeSpec := { name := "tableBack", fn := fun _ => fun
  | [d1, d2] => { results := [.lit (.bool true)], args := [d1, d2] }
  | _ => none }
def tableBackRow : OpenClaim := { program := "ytikcigjbhohboaagreat", sum := "d609710dd25b978b136d218882807e6f3ef854edbbebd7b9ac5fab78bacb55e6", func := "tourbillon/tourbillonlaw19.TableBack", spec := "tableBack", unfollowed := true, recurses := true, plainKeys := false, apart := false }
def TableBackSaid : Prop := tableBackRow.holds Tryz.pinned (OpenSpec.ofChange tableBackSpec)

/-- ITS FALSE NEIGHBOUR: 'it returns false'. Refute it at one input. -/
def tableBackWrong : ChangeSpec := { name := "tableBack", fn := fun _ => fun
  | [d1, d2] => { results := [.lit (.bool false)], args := [d1, d2] }
  | _ => none }
def TableBackWrongFalsely : Prop := tableBackRow.holds Tryz.pinned (OpenSpec.ofChange tableBackWrong)

/-- 'tourbillonlaw19.TablePlaced': WHATEVER THE INPUT: true; the input reads as it did. -/
def tablePlacedSpec : ChangeSpec := { name := "tablePlaced", fn := fun _ => fun
  | [d1, d2, d3] => { results := [.lit (.bool true)], args := [d1, d2, d3] }
  | _ => none }
def tablePlacedRow : OpenClaim := { program := "ytikcigjbhohboaagreat", sum := "d609710dd25b978b136d218882807e6f3ef854edbbebd7b9ac5fab78bacb55e6", func := "tourbillon/tourbillonlaw19.TablePlaced", spec := "tablePlaced", unfollowed := true, recurses := true, plainKeys := false, apart := false }
def TablePlacedSaid : Prop := tablePlacedRow.holds Tryz.pinned (OpenSpec.ofChange tablePlacedSpec)

/-- ITS FALSE NEIGHBOUR: 'it returns false'. Refute it at one input. -/
def tablePlacedWrong : ChangeSpec := { name := "tablePlaced", fn := fun _ => fun
  | [d1, d2, d3] => { results := [.lit (.bool false)], args := [d1, d2, d3] }
  | _ => none }
def TablePlacedWrongFalsely : Prop := tablePlacedRow.holds Tryz.pinned (OpenSpec.ofChange tablePlacedWrong)

/-- 'tourbillonlaw19.TableSystem': WHATEVER THE INPUT: true; the input reads as it did. -/
def tableSystemSpec : ChangeSpec := { name := "tableSystem", fn := fun _ => fun
  | [d] => { results := [.lit (.bool true)], args := [d] }
  | _ => none }
def tableSystemRow : OpenClaim := { program := "ytikcigjbhohboaagreat", sum := "d609710dd25b978b136d218882807e6f3ef854edbbebd7b9ac5fab78bacb55e6", func := "tourbillon/tourbillonlaw19.TableSystem", spec := "tableSystem", unfollowed := true, recurses := true, plainKeys := false, apart := false }
def TableSystemSaid : Prop := tableSystemRow.holds Tryz.pinned (OpenSpec.ofChange tableSystemSpec)

/-- ITS FALSE NEIGHBOUR: 'it returns false'. Refute it at one input. -/
def tableSystemWrong : ChangeSpec := { name := "tableSystem", fn := fun _ => fun
  | [d] => { results := [.lit (.bool false)], args := [d] }
  | _ => none }
def TableSystemWrongFalsely : Prop := tableSystemRow.holds Tryz.pinned (OpenSpec.ofChange tableSystemWrong)

/-- 'tourbillonlaw19.TableCuts': WHATEVER THE INPUT: true; the input reads as it did. -/
def tableCutsSpec : ChangeSpec := { name := "tableCuts", fn := fun _ => fun
  | [d1, d2, d3] => { results := [.lit (.bool true)], args := [d1, d2, d3] }
  | _ => none }
def tableCutsRow : OpenClaim := { program := "ytikcigjbhohboaagreat", sum := "d609710dd25b978b136d218882807e6f3ef854edbbebd7b9ac5fab78bacb55e6", func := "tourbillon/tourbillonlaw19.TableCuts", spec := "tableCuts", unfollowed := true, recurses := true, plainKeys := false, apart := false }
def TableCutsSaid : Prop := tableCutsRow.holds Tryz.pinned (OpenSpec.ofChange tableCutsSpec)

/-- ITS FALSE NEIGHBOUR: 'it returns false'. Refute it at one input. -/
def tableCutsWrong : ChangeSpec := { name := "tableCuts", fn := fun _ => fun
  | [d1, d2, d3] => { results := [.lit (.bool false)], args := [d1, d2, d3] }
  | _ => none }
def TableCutsWrongFalsely : Prop := tableCutsRow.holds Tryz.pinned (OpenSpec.ofChange tableCutsWrong)

/- THE SECOND FORM. 'bulk': how many values and letters a reading holds, each counted each time it is reached (what is shared counts as often as it is met; a slice's spare places count too). A statement '..UptoSaid' is the law's where the arguments, and the package variables that the reading takes, are together of bulk at most 1048576: NARROWER than '..Said'. Prove '..Said' where nothing that the law and all that it calls make is longer than what came in: it says more and counts as full. Else prove '..UptoSaid'. A law counts once. -/
mutual
def uptoBulk {H : Type} : DataW H → Nat
  | .lit (.string bytes) => bytes.length + 1
  | .lit _ => 1
  | .nil => 1
  | .ptr d => uptoBulk d + 1
  | .slice elems spare => uptoBulkAll elems + uptoBulkAll spare + 1
  | .agg parts => uptoBulkAll parts + 1
  | .iface _ d => uptoBulk d + 1
  | .map entries => uptoBulkEntries entries + 1
  | .held _ => 1
def uptoBulkAll {H : Type} : List (DataW H) → Nat
  | [] => 0
  | d :: r => uptoBulk d + uptoBulkAll r
def uptoBulkEntries {H : Type} : List (Lit × DataW H) → Nat
  | [] => 0
  | x :: r => uptoBulkEntry x + uptoBulkEntries r
def uptoBulkEntry {H : Type} : Lit × DataW H → Nat
  | (.string bytes, d) => bytes.length + uptoBulk d + 1
  | (_, d) => uptoBulk d + 1
 end
def uptoSmall : (H : Type) → List (DataW H) → Bool := fun _ ds => decide (uptoBulkAll ds ≤ 1048576)
def OpenSpec.upto (s : _root_.Go.ChangeSpec) : _root_.Go.OpenSpec := { _root_.Go.OpenSpec.ofChange s with cond := some uptoSmall }

/-- 'tourbillonlaw19.TableMakes', WHERE WHAT IT READS IS OF BULK AT MOST 1048576: true; the input reads as it did. -/
def tableMakesUptoRow : OpenClaim := { program := "ytikcigjbhohboaagreat", sum := "d609710dd25b978b136d218882807e6f3ef854edbbebd7b9ac5fab78bacb55e6", func := "tourbillon/tourbillonlaw19.TableMakes", spec := "tableMakes", unfollowed := true, recurses := true, plainKeys := false, apart := false, narrowed := true }
def TableMakesUptoSaid : Prop := tableMakesUptoRow.holds Tryz.pinned (OpenSpec.upto tableMakesSpec)

/-- 'tourbillonlaw19.TableBytes', WHERE WHAT IT READS IS OF BULK AT MOST 1048576: true; the input reads as it did. -/
def tableBytesUptoRow : OpenClaim := { program := "ytikcigjbhohboaagreat", sum := "d609710dd25b978b136d218882807e6f3ef854edbbebd7b9ac5fab78bacb55e6", func := "tourbillon/tourbillonlaw19.TableBytes", spec := "tableBytes", unfollowed := true, recurses := true, plainKeys := false, apart := false, narrowed := true }
def TableBytesUptoSaid : Prop := tableBytesUptoRow.holds Tryz.pinned (OpenSpec.upto tableBytesSpec)

/-- 'tourbillonlaw19.TableBack', WHERE WHAT IT READS IS OF BULK AT MOST 1048576: true; the input reads as it did. -/
def tableBackUptoRow : OpenClaim := { program := "ytikcigjbhohboaagreat", sum := "d609710dd25b978b136d218882807e6f3ef854edbbebd7b9ac5fab78bacb55e6", func := "tourbillon/tourbillonlaw19.TableBack", spec := "tableBack", unfollowed := true, recurses := true, plainKeys := false, apart := false, narrowed := true }
def TableBackUptoSaid : Prop := tableBackUptoRow.holds Tryz.pinned (OpenSpec.upto tableBackSpec)

/-- 'tourbillonlaw19.TablePlaced', WHERE WHAT IT READS IS OF BULK AT MOST 1048576: true; the input reads as it did. -/
def tablePlacedUptoRow : OpenClaim := { program := "ytikcigjbhohboaagreat", sum := "d609710dd25b978b136d218882807e6f3ef854edbbebd7b9ac5fab78bacb55e6", func := "tourbillon/tourbillonlaw19.TablePlaced", spec := "tablePlaced", unfollowed := true, recurses := true, plainKeys := false, apart := false, narrowed := true }
def TablePlacedUptoSaid : Prop := tablePlacedUptoRow.holds Tryz.pinned (OpenSpec.upto tablePlacedSpec)

/-- 'tourbillonlaw19.TableSystem', WHERE WHAT IT READS IS OF BULK AT MOST 1048576: true; the input reads as it did. -/
def tableSystemUptoRow : OpenClaim := { program := "ytikcigjbhohboaagreat", sum := "d609710dd25b978b136d218882807e6f3ef854edbbebd7b9ac5fab78bacb55e6", func := "tourbillon/tourbillonlaw19.TableSystem", spec := "tableSystem", unfollowed := true, recurses := true, plainKeys := false, apart := false, narrowed := true }
def TableSystemUptoSaid : Prop := tableSystemUptoRow.holds Tryz.pinned (OpenSpec.upto tableSystemSpec)

/-- 'tourbillonlaw19.TableCuts', WHERE WHAT IT READS IS OF BULK AT MOST 1048576: true; the input reads as it did. -/
def tableCutsUptoRow : OpenClaim := { program := "ytikcigjbhohboaagreat", sum := "d609710dd25b978b136d218882807e6f3ef854edbbebd7b9ac5fab78bacb55e6", func := "tourbillon/tourbillonlaw19.TableCuts", spec := "tableCuts", unfollowed := true, recurses := true, plainKeys := false, apart := false, narrowed := true }
def TableCutsUptoSaid : Prop := tableCutsUptoRow.holds Tryz.pinned (OpenSpec.upto tableCutsSpec)

end Rows
end Go.Proofs.YtikcigjbhohboaaGreat
