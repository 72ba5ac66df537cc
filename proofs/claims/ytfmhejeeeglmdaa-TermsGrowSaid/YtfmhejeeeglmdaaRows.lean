/-
  No cell of these rows narrows 'for every input' (looked for: loops, veiled, ifaces, maps, wideKeys, modest, calm, conditions, laid).
  DERIVED. THE GIVEN ROWS OF THIS SEAT. 4 by the template 'for every input the law returns true; each argument reads behind the call as it read before'; 0 by the template 'total and deterministic' (their statements: YtfmhejeeeglmdaaTotals.lean).
  GIVEN WITH THE SEED: the statements are not yours to turn. If you find one false, say at which input.
  Laid BY PROGRAM, IN A SANDBOX (cutbox-rows.mjs): the forced cells as the released guide's own fill.sh prints them over the translation 7f0ade14bb6d7dbd… (all of the seat's roots in one cut). By AI agents, Wed Nov 11 2026. No macro, syntax, notation, axiom, sorry.
-/
import Derived.Test.YtfmhejeeeglmdaaChecked
import GoSem.Claim
import GoSem.ClaimJoined
import GoSem.ClaimMapViews
import Derived.JoinedTies
import Derived.KernelRfl
namespace Go.Proofs.Ytfmhejeeeglmdaa
/- THE CELL 'sum', in the pinned program and in every row, IS THE sha256 OF THE DUMP (.gsa) THAT YtfmhejeeeglmdaaProg.lean LOADS. Nothing in Lean hashes anything: it is a label: what it is worth is what the hold of that sum in a sandbox is worth. -/
noncomputable def Try.pinned : Pinned := { name := "ytfmhejeeeglmdaa", sum := "7f0ade14bb6d7dbd5eddccb3658cd63a85640b3693510264c997e14f0854cdd1", checked := Try.checked }
namespace Rows
def none {H : Type} : Left H := { results := [], args := [] }

/-- 'tourbillonlaw14.TermsTell': WHATEVER THE INPUT: true; the input reads as it did. -/
def termsTellSpec : ChangeSpec := { name := "termsTell", fn := fun _ => fun
  | [d1, d2, d3, d4, d5, d6] => { results := [.lit (.bool true)], args := [d1, d2, d3, d4, d5, d6] }
  | _ => none }
def termsTellRow : OpenClaim := { program := "ytfmhejeeeglmdaa", sum := "7f0ade14bb6d7dbd5eddccb3658cd63a85640b3693510264c997e14f0854cdd1", func := "tourbillon/tourbillonlaw14.TermsTell", spec := "termsTell", plainKeys := false, apart := false }
def TermsTellSaid : Prop := termsTellRow.holds Try.pinned (OpenSpec.ofChange termsTellSpec)

/-- ITS FALSE NEIGHBOUR: 'it returns false'. Refute it at one input. -/
def termsTellWrong : ChangeSpec := { name := "termsTell", fn := fun _ => fun
  | [d1, d2, d3, d4, d5, d6] => { results := [.lit (.bool false)], args := [d1, d2, d3, d4, d5, d6] }
  | _ => none }
def TermsTellWrongFalsely : Prop := termsTellRow.holds Try.pinned (OpenSpec.ofChange termsTellWrong)

/-- 'tourbillonlaw14.TermsGrow': WHATEVER THE INPUT: true; the input reads as it did. -/
def termsGrowSpec : ChangeSpec := { name := "termsGrow", fn := fun _ => fun
  | [d1, d2, d3, d4, d5, d6] => { results := [.lit (.bool true)], args := [d1, d2, d3, d4, d5, d6] }
  | _ => none }
def termsGrowRow : OpenClaim := { program := "ytfmhejeeeglmdaa", sum := "7f0ade14bb6d7dbd5eddccb3658cd63a85640b3693510264c997e14f0854cdd1", func := "tourbillon/tourbillonlaw14.TermsGrow", spec := "termsGrow", plainKeys := false, apart := false }
def TermsGrowSaid : Prop := termsGrowRow.holds Try.pinned (OpenSpec.ofChange termsGrowSpec)

/-- ITS FALSE NEIGHBOUR: 'it returns false'. Refute it at one input. -/
def termsGrowWrong : ChangeSpec := { name := "termsGrow", fn := fun _ => fun
  | [d1, d2, d3, d4, d5, d6] => { results := [.lit (.bool false)], args := [d1, d2, d3, d4, d5, d6] }
  | _ => none }
def TermsGrowWrongFalsely : Prop := termsGrowRow.holds Try.pinned (OpenSpec.ofChange termsGrowWrong)

/-- 'tourbillonlaw14.TermsSum': WHATEVER THE INPUT: true; the input reads as it did. -/
def termsSumSpec : ChangeSpec := { name := "termsSum", fn := fun _ => fun
  | [d1, d2, d3] => { results := [.lit (.bool true)], args := [d1, d2, d3] }
  | _ => none }
def termsSumRow : OpenClaim := { program := "ytfmhejeeeglmdaa", sum := "7f0ade14bb6d7dbd5eddccb3658cd63a85640b3693510264c997e14f0854cdd1", func := "tourbillon/tourbillonlaw14.TermsSum", spec := "termsSum", plainKeys := false, apart := false }
def TermsSumSaid : Prop := termsSumRow.holds Try.pinned (OpenSpec.ofChange termsSumSpec)

/-- ITS FALSE NEIGHBOUR: 'it returns false'. Refute it at one input. -/
def termsSumWrong : ChangeSpec := { name := "termsSum", fn := fun _ => fun
  | [d1, d2, d3] => { results := [.lit (.bool false)], args := [d1, d2, d3] }
  | _ => none }
def TermsSumWrongFalsely : Prop := termsSumRow.holds Try.pinned (OpenSpec.ofChange termsSumWrong)

/-- 'tourbillonlaw14.TermsLongest': WHATEVER THE INPUT: true; the input reads as it did. -/
def termsLongestSpec : ChangeSpec := { name := "termsLongest", fn := fun _ => fun
  | [d1, d2, d3, d4] => { results := [.lit (.bool true)], args := [d1, d2, d3, d4] }
  | _ => none }
def termsLongestRow : OpenClaim := { program := "ytfmhejeeeglmdaa", sum := "7f0ade14bb6d7dbd5eddccb3658cd63a85640b3693510264c997e14f0854cdd1", func := "tourbillon/tourbillonlaw14.TermsLongest", spec := "termsLongest", plainKeys := false, apart := false }
def TermsLongestSaid : Prop := termsLongestRow.holds Try.pinned (OpenSpec.ofChange termsLongestSpec)

/-- ITS FALSE NEIGHBOUR: 'it returns false'. Refute it at one input. -/
def termsLongestWrong : ChangeSpec := { name := "termsLongest", fn := fun _ => fun
  | [d1, d2, d3, d4] => { results := [.lit (.bool false)], args := [d1, d2, d3, d4] }
  | _ => none }
def TermsLongestWrongFalsely : Prop := termsLongestRow.holds Try.pinned (OpenSpec.ofChange termsLongestWrong)

/- THE SECOND FORM. 'bulk': how many values and letters a reading holds, each counted each time it is reached (what is shared counts as often as it is met; a slice's spare places count too). A statement '..UptoSaid' is the law's where the arguments, and the package variables that the reading takes, are together of bulk at most 1048576: NARROWER than '..Said'. Prove '..Said' where nothing that the law and all that it calls make is longer than what came in: it says more and counts as full. Else prove '..UptoSaid'. A law counts once. -/
mutual
def uptoBulk {H : Type} : DataW H → Nat
  | .lit (.string bytes) => bytes.length + 1
  | .lit _ => 1
  | .nil => 1
  | .ptr d => uptoBulk d + 1
  | .slice elems spare => uptoBulkAll elems + uptoBulkAll spare + 1
  | .agg parts => uptoBulkAll parts + 1
  | .iface _ d => uptoBulk d + 1
  | .map entries => uptoBulkEntries entries + 1
  | .held _ => 1
def uptoBulkAll {H : Type} : List (DataW H) → Nat
  | [] => 0
  | d :: r => uptoBulk d + uptoBulkAll r
def uptoBulkEntries {H : Type} : List (Lit × DataW H) → Nat
  | [] => 0
  | x :: r => uptoBulkEntry x + uptoBulkEntries r
def uptoBulkEntry {H : Type} : Lit × DataW H → Nat
  | (.string bytes, d) => bytes.length + uptoBulk d + 1
  | (_, d) => uptoBulk d + 1
 end
def uptoSmall : (H : Type) → List (DataW H) → Bool := fun _ ds => decide (uptoBulkAll ds ≤ 1048576)
def OpenSpec.upto (s : _root_.Go.ChangeSpec) : _root_.Go.OpenSpec := { _root_.Go.OpenSpec.ofChange s with cond := some uptoSmall }

/-- 'tourbillonlaw14.TermsTell', WHERE WHAT IT READS IS OF BULK AT MOST 1048576: true; the input reads as it did. -/
def termsTellUptoRow : OpenClaim := { program := "ytfmhejeeeglmdaa", sum := "7f0ade14bb6d7dbd5eddccb3658cd63a85640b3693510264c997e14f0854cdd1", func := "tourbillon/tourbillonlaw14.TermsTell", spec := "termsTell", plainKeys := false, apart := false, narrowed := true }
def TermsTellUptoSaid : Prop := termsTellUptoRow.holds Try.pinned (OpenSpec.upto termsTellSpec)

/-- 'tourbillonlaw14.TermsGrow', WHERE WHAT IT READS IS OF BULK AT MOST 1048576: true; the input reads as it did. -/
def termsGrowUptoRow : OpenClaim := { program := "ytfmhejeeeglmdaa", sum := "7f0ade14bb6d7dbd5eddccb3658cd63a85640b3693510264c997e14f0854cdd1", func := "tourbillon/tourbillonlaw14.TermsGrow", spec := "termsGrow", plainKeys := false, apart := false, narrowed := true }
def TermsGrowUptoSaid : Prop := termsGrowUptoRow.holds Try.pinned (OpenSpec.upto termsGrowSpec)

/-- 'tourbillonlaw14.TermsSum', WHERE WHAT IT READS IS OF BULK AT MOST 1048576: true; the input reads as it did. -/
def termsSumUptoRow : OpenClaim := { program := "ytfmhejeeeglmdaa", sum := "7f0ade14bb6d7dbd5eddccb3658cd63a85640b3693510264c997e14f0854cdd1", func := "tourbillon/tourbillonlaw14.TermsSum", spec := "termsSum", plainKeys := false, apart := false, narrowed := true }
def TermsSumUptoSaid : Prop := termsSumUptoRow.holds Try.pinned (OpenSpec.upto termsSumSpec)

/-- 'tourbillonlaw14.TermsLongest', WHERE WHAT IT READS IS OF BULK AT MOST 1048576: true; the input reads as it did. -/
def termsLongestUptoRow : OpenClaim := { program := "ytfmhejeeeglmdaa", sum := "7f0ade14bb6d7dbd5eddccb3658cd63a85640b3693510264c997e14f0854cdd1", func := "tourbillon/tourbillonlaw14.TermsLongest", spec := "termsLongest", plainKeys := false, apart := false, narrowed := true }
def TermsLongestUptoSaid : Prop := termsLongestUptoRow.holds Try.pinned (OpenSpec.upto termsLongestSpec)

end Rows
end Go.Proofs.Ytfmhejeeeglmdaa
