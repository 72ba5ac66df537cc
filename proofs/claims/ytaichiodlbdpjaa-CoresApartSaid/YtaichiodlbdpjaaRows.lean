/-
  No cell of these rows narrows 'for every input' (looked for: loops, veiled, ifaces, maps, wideKeys, modest, calm, conditions, laid).
  DERIVED. THE GIVEN ROWS OF THIS SEAT. 5 by the template 'for every input the law returns true; each argument reads behind the call as it read before'; 0 by the template 'total and deterministic' (their statements: YtaichiodlbdpjaaTotals.lean).
  GIVEN WITH THE SEED: the statements are not yours to turn. If you find one false, say at which input.
  Laid BY PROGRAM, IN A SANDBOX (cutbox-rows.mjs): the forced cells as the released guide's own fill.sh prints them over the translation 76bde8df2d5dd160… (all of the seat's roots in one cut). By AI agents, Wed Nov 11 2026. No macro, syntax, notation, axiom, sorry.
-/
import Derived.Test.YtaichiodlbdpjaaChecked
import GoSem.Claim
import GoSem.ClaimJoined
import GoSem.ClaimMapViews
import Derived.JoinedTies
import Derived.KernelRfl
namespace Go.Proofs.Ytaichiodlbdpjaa
/- THE CELL 'sum', in the pinned program and in every row, IS THE sha256 OF THE DUMP (.gsa) THAT YtaichiodlbdpjaaProg.lean LOADS. Nothing in Lean hashes anything: it is a label: what it is worth is what the hold of that sum in a sandbox is worth. -/
noncomputable def Try.pinned : Pinned := { name := "ytaichiodlbdpjaa", sum := "76bde8df2d5dd1609678228bcd46d5ed229a724e804175659e19c63bcd65f204", checked := Try.checked }
namespace Rows
def none {H : Type} : Left H := { results := [], args := [] }

/-- 'tourbillonlaw09.CoresOrder': WHATEVER THE INPUT: true; the input reads as it did. -/
def coresOrderSpec : ChangeSpec := { name := "coresOrder", fn := fun _ => fun
  | [d1, d2] => { results := [.lit (.bool true)], args := [d1, d2] }
  | _ => none }
def coresOrderRow : OpenClaim := { program := "ytaichiodlbdpjaa", sum := "76bde8df2d5dd1609678228bcd46d5ed229a724e804175659e19c63bcd65f204", func := "tourbillon/tourbillonlaw09.CoresOrder", spec := "coresOrder", apart := false }
def CoresOrderSaid : Prop := coresOrderRow.holds Try.pinned (OpenSpec.ofChange coresOrderSpec)

/-- ITS FALSE NEIGHBOUR: 'it returns false'. Refute it at one input. -/
def coresOrderWrong : ChangeSpec := { name := "coresOrder", fn := fun _ => fun
  | [d1, d2] => { results := [.lit (.bool false)], args := [d1, d2] }
  | _ => none }
def CoresOrderWrongFalsely : Prop := coresOrderRow.holds Try.pinned (OpenSpec.ofChange coresOrderWrong)

/-- 'tourbillonlaw09.CoresPay': WHATEVER THE INPUT: true; the input reads as it did. -/
def coresPaySpec : ChangeSpec := { name := "coresPay", fn := fun _ => fun
  | [d1, d2, d3, d4] => { results := [.lit (.bool true)], args := [d1, d2, d3, d4] }
  | _ => none }
def coresPayRow : OpenClaim := { program := "ytaichiodlbdpjaa", sum := "76bde8df2d5dd1609678228bcd46d5ed229a724e804175659e19c63bcd65f204", func := "tourbillon/tourbillonlaw09.CoresPay", spec := "coresPay", apart := false }
def CoresPaySaid : Prop := coresPayRow.holds Try.pinned (OpenSpec.ofChange coresPaySpec)

/-- ITS FALSE NEIGHBOUR: 'it returns false'. Refute it at one input. -/
def coresPayWrong : ChangeSpec := { name := "coresPay", fn := fun _ => fun
  | [d1, d2, d3, d4] => { results := [.lit (.bool false)], args := [d1, d2, d3, d4] }
  | _ => none }
def CoresPayWrongFalsely : Prop := coresPayRow.holds Try.pinned (OpenSpec.ofChange coresPayWrong)

/-- 'tourbillonlaw09.CoresEach': WHATEVER THE INPUT: true; the input reads as it did. -/
def coresEachSpec : ChangeSpec := { name := "coresEach", fn := fun _ => fun
  | [d1, d2] => { results := [.lit (.bool true)], args := [d1, d2] }
  | _ => none }
def coresEachRow : OpenClaim := { program := "ytaichiodlbdpjaa", sum := "76bde8df2d5dd1609678228bcd46d5ed229a724e804175659e19c63bcd65f204", func := "tourbillon/tourbillonlaw09.CoresEach", spec := "coresEach", apart := false }
def CoresEachSaid : Prop := coresEachRow.holds Try.pinned (OpenSpec.ofChange coresEachSpec)

/-- ITS FALSE NEIGHBOUR: 'it returns false'. Refute it at one input. -/
def coresEachWrong : ChangeSpec := { name := "coresEach", fn := fun _ => fun
  | [d1, d2] => { results := [.lit (.bool false)], args := [d1, d2] }
  | _ => none }
def CoresEachWrongFalsely : Prop := coresEachRow.holds Try.pinned (OpenSpec.ofChange coresEachWrong)

/-- 'tourbillonlaw09.CoresApart': WHATEVER THE INPUT: true; the input reads as it did. -/
def coresApartSpec : ChangeSpec := { name := "coresApart", fn := fun _ => fun
  | [d1, d2, d3, d4] => { results := [.lit (.bool true)], args := [d1, d2, d3, d4] }
  | _ => none }
def coresApartRow : OpenClaim := { program := "ytaichiodlbdpjaa", sum := "76bde8df2d5dd1609678228bcd46d5ed229a724e804175659e19c63bcd65f204", func := "tourbillon/tourbillonlaw09.CoresApart", spec := "coresApart", apart := false }
def CoresApartSaid : Prop := coresApartRow.holds Try.pinned (OpenSpec.ofChange coresApartSpec)

/-- ITS FALSE NEIGHBOUR: 'it returns false'. Refute it at one input. -/
def coresApartWrong : ChangeSpec := { name := "coresApart", fn := fun _ => fun
  | [d1, d2, d3, d4] => { results := [.lit (.bool false)], args := [d1, d2, d3, d4] }
  | _ => none }
def CoresApartWrongFalsely : Prop := coresApartRow.holds Try.pinned (OpenSpec.ofChange coresApartWrong)

/-- 'tourbillonlaw09.CoresSteps': WHATEVER THE INPUT: true; the input reads as it did. -/
def coresStepsSpec : ChangeSpec := { name := "coresSteps", fn := fun _ => fun
  | [d1, d2] => { results := [.lit (.bool true)], args := [d1, d2] }
  | _ => none }
def coresStepsRow : OpenClaim := { program := "ytaichiodlbdpjaa", sum := "76bde8df2d5dd1609678228bcd46d5ed229a724e804175659e19c63bcd65f204", func := "tourbillon/tourbillonlaw09.CoresSteps", spec := "coresSteps", apart := false }
def CoresStepsSaid : Prop := coresStepsRow.holds Try.pinned (OpenSpec.ofChange coresStepsSpec)

/-- ITS FALSE NEIGHBOUR: 'it returns false'. Refute it at one input. -/
def coresStepsWrong : ChangeSpec := { name := "coresSteps", fn := fun _ => fun
  | [d1, d2] => { results := [.lit (.bool false)], args := [d1, d2] }
  | _ => none }
def CoresStepsWrongFalsely : Prop := coresStepsRow.holds Try.pinned (OpenSpec.ofChange coresStepsWrong)

/- THE SECOND FORM. 'bulk': how many values and letters a reading holds, each counted each time it is reached (what is shared counts as often as it is met; a slice's spare places count too). A statement '..UptoSaid' is the law's where the arguments, and the package variables that the reading takes, are together of bulk at most 1048576: NARROWER than '..Said'. Prove '..Said' where nothing that the law and all that it calls make is longer than what came in: it says more and counts as full. Else prove '..UptoSaid'. A law counts once. -/
mutual
def uptoBulk {H : Type} : DataW H → Nat
  | .lit (.string bytes) => bytes.length + 1
  | .lit _ => 1
  | .nil => 1
  | .ptr d => uptoBulk d + 1
  | .slice elems spare => uptoBulkAll elems + uptoBulkAll spare + 1
  | .agg parts => uptoBulkAll parts + 1
  | .iface _ d => uptoBulk d + 1
  | .map entries => uptoBulkEntries entries + 1
  | .held _ => 1
def uptoBulkAll {H : Type} : List (DataW H) → Nat
  | [] => 0
  | d :: r => uptoBulk d + uptoBulkAll r
def uptoBulkEntries {H : Type} : List (Lit × DataW H) → Nat
  | [] => 0
  | x :: r => uptoBulkEntry x + uptoBulkEntries r
def uptoBulkEntry {H : Type} : Lit × DataW H → Nat
  | (.string bytes, d) => bytes.length + uptoBulk d + 1
  | (_, d) => uptoBulk d + 1
 end
def uptoSmall : (H : Type) → List (DataW H) → Bool := fun _ ds => decide (uptoBulkAll ds ≤ 1048576)
def OpenSpec.upto (s : _root_.Go.ChangeSpec) : _root_.Go.OpenSpec := { _root_.Go.OpenSpec.ofChange s with cond := some uptoSmall }

/-- 'tourbillonlaw09.CoresOrder', WHERE WHAT IT READS IS OF BULK AT MOST 1048576: true; the input reads as it did. -/
def coresOrderUptoRow : OpenClaim := { program := "ytaichiodlbdpjaa", sum := "76bde8df2d5dd1609678228bcd46d5ed229a724e804175659e19c63bcd65f204", func := "tourbillon/tourbillonlaw09.CoresOrder", spec := "coresOrder", apart := false, narrowed := true }
def CoresOrderUptoSaid : Prop := coresOrderUptoRow.holds Try.pinned (OpenSpec.upto coresOrderSpec)

/-- 'tourbillonlaw09.CoresPay', WHERE WHAT IT READS IS OF BULK AT MOST 1048576: true; the input reads as it did. -/
def coresPayUptoRow : OpenClaim := { program := "ytaichiodlbdpjaa", sum := "76bde8df2d5dd1609678228bcd46d5ed229a724e804175659e19c63bcd65f204", func := "tourbillon/tourbillonlaw09.CoresPay", spec := "coresPay", apart := false, narrowed := true }
def CoresPayUptoSaid : Prop := coresPayUptoRow.holds Try.pinned (OpenSpec.upto coresPaySpec)

/-- 'tourbillonlaw09.CoresEach', WHERE WHAT IT READS IS OF BULK AT MOST 1048576: true; the input reads as it did. -/
def coresEachUptoRow : OpenClaim := { program := "ytaichiodlbdpjaa", sum := "76bde8df2d5dd1609678228bcd46d5ed229a724e804175659e19c63bcd65f204", func := "tourbillon/tourbillonlaw09.CoresEach", spec := "coresEach", apart := false, narrowed := true }
def CoresEachUptoSaid : Prop := coresEachUptoRow.holds Try.pinned (OpenSpec.upto coresEachSpec)

/-- 'tourbillonlaw09.CoresApart', WHERE WHAT IT READS IS OF BULK AT MOST 1048576: true; the input reads as it did. -/
def coresApartUptoRow : OpenClaim := { program := "ytaichiodlbdpjaa", sum := "76bde8df2d5dd1609678228bcd46d5ed229a724e804175659e19c63bcd65f204", func := "tourbillon/tourbillonlaw09.CoresApart", spec := "coresApart", apart := false, narrowed := true }
def CoresApartUptoSaid : Prop := coresApartUptoRow.holds Try.pinned (OpenSpec.upto coresApartSpec)

/-- 'tourbillonlaw09.CoresSteps', WHERE WHAT IT READS IS OF BULK AT MOST 1048576: true; the input reads as it did. -/
def coresStepsUptoRow : OpenClaim := { program := "ytaichiodlbdpjaa", sum := "76bde8df2d5dd1609678228bcd46d5ed229a724e804175659e19c63bcd65f204", func := "tourbillon/tourbillonlaw09.CoresSteps", spec := "coresSteps", apart := false, narrowed := true }
def CoresStepsUptoSaid : Prop := coresStepsUptoRow.holds Try.pinned (OpenSpec.upto coresStepsSpec)

end Rows
end Go.Proofs.Ytaichiodlbdpjaa
