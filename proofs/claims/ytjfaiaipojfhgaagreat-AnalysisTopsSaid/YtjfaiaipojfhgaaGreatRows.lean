/-
  No cell of these rows narrows 'for every input' (looked for: loops, veiled, ifaces, maps, wideKeys, modest, calm, conditions, laid).
  DERIVED. THE GIVEN ROWS OF THIS SEAT. 7 by the template 'for every input the law returns true; each argument reads behind the call as it read before'; 0 by the template 'total and deterministic' (their statements: YtjfaiaipojfhgaaGreatTotals.lean).
  GIVEN WITH THE SEED: the statements are not yours to turn. If you find one false, say at which input.
  Laid BY PROGRAM, IN A SANDBOX (cutbox-rows.mjs): the forced cells as the released guide's own fill.sh prints them over the translation 78cf0b75e698adf6… (all of the seat's roots in one cut). By AI agents, Wed Nov 11 2026. No macro, syntax, notation, axiom, sorry.
-/
import Derived.Test.YtjfaiaipojfhgaaGreatChecked
import GoSem.Claim
import GoSem.ClaimJoined
import GoSem.ClaimMapViews
import Derived.JoinedTies
import Derived.KernelRfl
namespace Go.Proofs.YtjfaiaipojfhgaaGreat
/- THE CELL 'sum', in the pinned program and in every row, IS THE sha256 OF THE DUMP (.gsa) THAT YtjfaiaipojfhgaaGreatProg.lean LOADS. Nothing in Lean hashes anything: it is a label: what it is worth is what the hold of that sum in a sandbox is worth. -/
noncomputable def Tryz.pinned : Pinned := { name := "ytjfaiaipojfhgaagreat", sum := "78cf0b75e698adf6cea6ed012e5c638acfa9faaf90550a68130beab3f4c8356e", checked := Tryz.checked }
namespace Rows
def none {H : Type} : Left H := { results := [], args := [] }

/-- 'tourbillonlaw17.AnalysisRanks': WHATEVER THE INPUT: true; the input reads as it did. -/
def analysisRanksSpec : ChangeSpec := { name := "analysisRanks", fn := fun _ => fun
  | [d1, d2, d3, d4] => { results := [.lit (.bool true)], args := [d1, d2, d3, d4] }
  | _ => none }
def analysisRanksRow : OpenClaim := { program := "ytjfaiaipojfhgaagreat", sum := "78cf0b75e698adf6cea6ed012e5c638acfa9faaf90550a68130beab3f4c8356e", func := "tourbillon/tourbillonlaw17.AnalysisRanks", spec := "analysisRanks", unfollowed := true, recurses := true, plainKeys := false, apart := false }
def AnalysisRanksSaid : Prop := analysisRanksRow.holds Tryz.pinned (OpenSpec.ofChange analysisRanksSpec)

/-- ITS FALSE NEIGHBOUR: 'it returns false'. Refute it at one input. -/
def analysisRanksWrong : ChangeSpec := { name := "analysisRanks", fn := fun _ => fun
  | [d1, d2, d3, d4] => { results := [.lit (.bool false)], args := [d1, d2, d3, d4] }
  | _ => none }
def AnalysisRanksWrongFalsely : Prop := analysisRanksRow.holds Tryz.pinned (OpenSpec.ofChange analysisRanksWrong)

/-- 'tourbillonlaw17.AnalysisChecks': WHATEVER THE INPUT: true; the input reads as it did. -/
def analysisChecksSpec : ChangeSpec := { name := "analysisChecks", fn := fun _ => fun
  | [d1, d2] => { results := [.lit (.bool true)], args := [d1, d2] }
  | _ => none }
def analysisChecksRow : OpenClaim := { program := "ytjfaiaipojfhgaagreat", sum := "78cf0b75e698adf6cea6ed012e5c638acfa9faaf90550a68130beab3f4c8356e", func := "tourbillon/tourbillonlaw17.AnalysisChecks", spec := "analysisChecks", unfollowed := true, recurses := true, plainKeys := false, apart := false }
def AnalysisChecksSaid : Prop := analysisChecksRow.holds Tryz.pinned (OpenSpec.ofChange analysisChecksSpec)

/-- ITS FALSE NEIGHBOUR: 'it returns false'. Refute it at one input. -/
def analysisChecksWrong : ChangeSpec := { name := "analysisChecks", fn := fun _ => fun
  | [d1, d2] => { results := [.lit (.bool false)], args := [d1, d2] }
  | _ => none }
def AnalysisChecksWrongFalsely : Prop := analysisChecksRow.holds Tryz.pinned (OpenSpec.ofChange analysisChecksWrong)

/-- 'tourbillonlaw17.AnalysisLess': WHATEVER THE INPUT: true; the input reads as it did. -/
def analysisLessSpec : ChangeSpec := { name := "analysisLess", fn := fun _ => fun
  | [d1, d2, d3] => { results := [.lit (.bool true)], args := [d1, d2, d3] }
  | _ => none }
def analysisLessRow : OpenClaim := { program := "ytjfaiaipojfhgaagreat", sum := "78cf0b75e698adf6cea6ed012e5c638acfa9faaf90550a68130beab3f4c8356e", func := "tourbillon/tourbillonlaw17.AnalysisLess", spec := "analysisLess", unfollowed := true, recurses := true, plainKeys := false, apart := false }
def AnalysisLessSaid : Prop := analysisLessRow.holds Tryz.pinned (OpenSpec.ofChange analysisLessSpec)

/-- ITS FALSE NEIGHBOUR: 'it returns false'. Refute it at one input. -/
def analysisLessWrong : ChangeSpec := { name := "analysisLess", fn := fun _ => fun
  | [d1, d2, d3] => { results := [.lit (.bool false)], args := [d1, d2, d3] }
  | _ => none }
def AnalysisLessWrongFalsely : Prop := analysisLessRow.holds Tryz.pinned (OpenSpec.ofChange analysisLessWrong)

/-- 'tourbillonlaw17.AnalysisOrder': WHATEVER THE INPUT: true; the input reads as it did. -/
def analysisOrderSpec : ChangeSpec := { name := "analysisOrder", fn := fun _ => fun
  | [d1, d2] => { results := [.lit (.bool true)], args := [d1, d2] }
  | _ => none }
def analysisOrderRow : OpenClaim := { program := "ytjfaiaipojfhgaagreat", sum := "78cf0b75e698adf6cea6ed012e5c638acfa9faaf90550a68130beab3f4c8356e", func := "tourbillon/tourbillonlaw17.AnalysisOrder", spec := "analysisOrder", unfollowed := true, recurses := true, plainKeys := false, apart := false }
def AnalysisOrderSaid : Prop := analysisOrderRow.holds Tryz.pinned (OpenSpec.ofChange analysisOrderSpec)

/-- ITS FALSE NEIGHBOUR: 'it returns false'. Refute it at one input. -/
def analysisOrderWrong : ChangeSpec := { name := "analysisOrder", fn := fun _ => fun
  | [d1, d2] => { results := [.lit (.bool false)], args := [d1, d2] }
  | _ => none }
def AnalysisOrderWrongFalsely : Prop := analysisOrderRow.holds Tryz.pinned (OpenSpec.ofChange analysisOrderWrong)

/-- 'tourbillonlaw17.AnalysisOwns': WHATEVER THE INPUT: true; the input reads as it did. -/
def analysisOwnsSpec : ChangeSpec := { name := "analysisOwns", fn := fun _ => fun
  | [d1, d2, d3, d4] => { results := [.lit (.bool true)], args := [d1, d2, d3, d4] }
  | _ => none }
def analysisOwnsRow : OpenClaim := { program := "ytjfaiaipojfhgaagreat", sum := "78cf0b75e698adf6cea6ed012e5c638acfa9faaf90550a68130beab3f4c8356e", func := "tourbillon/tourbillonlaw17.AnalysisOwns", spec := "analysisOwns", unfollowed := true, recurses := true, plainKeys := false, apart := false }
def AnalysisOwnsSaid : Prop := analysisOwnsRow.holds Tryz.pinned (OpenSpec.ofChange analysisOwnsSpec)

/-- ITS FALSE NEIGHBOUR: 'it returns false'. Refute it at one input. -/
def analysisOwnsWrong : ChangeSpec := { name := "analysisOwns", fn := fun _ => fun
  | [d1, d2, d3, d4] => { results := [.lit (.bool false)], args := [d1, d2, d3, d4] }
  | _ => none }
def AnalysisOwnsWrongFalsely : Prop := analysisOwnsRow.holds Tryz.pinned (OpenSpec.ofChange analysisOwnsWrong)

/-- 'tourbillonlaw17.AnalysisCosts': WHATEVER THE INPUT: true; the input reads as it did. -/
def analysisCostsSpec : ChangeSpec := { name := "analysisCosts", fn := fun _ => fun
  | [d1, d2] => { results := [.lit (.bool true)], args := [d1, d2] }
  | _ => none }
def analysisCostsRow : OpenClaim := { program := "ytjfaiaipojfhgaagreat", sum := "78cf0b75e698adf6cea6ed012e5c638acfa9faaf90550a68130beab3f4c8356e", func := "tourbillon/tourbillonlaw17.AnalysisCosts", spec := "analysisCosts", unfollowed := true, recurses := true, plainKeys := false, apart := false }
def AnalysisCostsSaid : Prop := analysisCostsRow.holds Tryz.pinned (OpenSpec.ofChange analysisCostsSpec)

/-- ITS FALSE NEIGHBOUR: 'it returns false'. Refute it at one input. -/
def analysisCostsWrong : ChangeSpec := { name := "analysisCosts", fn := fun _ => fun
  | [d1, d2] => { results := [.lit (.bool false)], args := [d1, d2] }
  | _ => none }
def AnalysisCostsWrongFalsely : Prop := analysisCostsRow.holds Tryz.pinned (OpenSpec.ofChange analysisCostsWrong)

/-- 'tourbillonlaw17.AnalysisTops': WHATEVER THE INPUT: true; the input reads as it did. -/
def analysisTopsSpec : ChangeSpec := { name := "analysisTops", fn := fun _ => fun
  | [d1, d2] => { results := [.lit (.bool true)], args := [d1, d2] }
  | _ => none }
def analysisTopsRow : OpenClaim := { program := "ytjfaiaipojfhgaagreat", sum := "78cf0b75e698adf6cea6ed012e5c638acfa9faaf90550a68130beab3f4c8356e", func := "tourbillon/tourbillonlaw17.AnalysisTops", spec := "analysisTops", unfollowed := true, recurses := true, plainKeys := false, apart := false }
def AnalysisTopsSaid : Prop := analysisTopsRow.holds Tryz.pinned (OpenSpec.ofChange analysisTopsSpec)

/-- ITS FALSE NEIGHBOUR: 'it returns false'. Refute it at one input. -/
def analysisTopsWrong : ChangeSpec := { name := "analysisTops", fn := fun _ => fun
  | [d1, d2] => { results := [.lit (.bool false)], args := [d1, d2] }
  | _ => none }
def AnalysisTopsWrongFalsely : Prop := analysisTopsRow.holds Tryz.pinned (OpenSpec.ofChange analysisTopsWrong)

/- THE SECOND FORM. 'bulk': how many values and letters a reading holds, each counted each time it is reached (what is shared counts as often as it is met; a slice's spare places count too). A statement '..UptoSaid' is the law's where the arguments, and the package variables that the reading takes, are together of bulk at most 1048576: NARROWER than '..Said'. Prove '..Said' where nothing that the law and all that it calls make is longer than what came in: it says more and counts as full. Else prove '..UptoSaid'. A law counts once. -/
mutual
def uptoBulk {H : Type} : DataW H → Nat
  | .lit (.string bytes) => bytes.length + 1
  | .lit _ => 1
  | .nil => 1
  | .ptr d => uptoBulk d + 1
  | .slice elems spare => uptoBulkAll elems + uptoBulkAll spare + 1
  | .agg parts => uptoBulkAll parts + 1
  | .iface _ d => uptoBulk d + 1
  | .map entries => uptoBulkEntries entries + 1
  | .held _ => 1
def uptoBulkAll {H : Type} : List (DataW H) → Nat
  | [] => 0
  | d :: r => uptoBulk d + uptoBulkAll r
def uptoBulkEntries {H : Type} : List (Lit × DataW H) → Nat
  | [] => 0
  | x :: r => uptoBulkEntry x + uptoBulkEntries r
def uptoBulkEntry {H : Type} : Lit × DataW H → Nat
  | (.string bytes, d) => bytes.length + uptoBulk d + 1
  | (_, d) => uptoBulk d + 1
 end
def uptoSmall : (H : Type) → List (DataW H) → Bool := fun _ ds => decide (uptoBulkAll ds ≤ 1048576)
def OpenSpec.upto (s : _root_.Go.ChangeSpec) : _root_.Go.OpenSpec := { _root_.Go.OpenSpec.ofChange s with cond := some uptoSmall }

/-- 'tourbillonlaw17.AnalysisRanks', WHERE WHAT IT READS IS OF BULK AT MOST 1048576: true; the input reads as it did. -/
def analysisRanksUptoRow : OpenClaim := { program := "ytjfaiaipojfhgaagreat", sum := "78cf0b75e698adf6cea6ed012e5c638acfa9faaf90550a68130beab3f4c8356e", func := "tourbillon/tourbillonlaw17.AnalysisRanks", spec := "analysisRanks", unfollowed := true, recurses := true, plainKeys := false, apart := false, narrowed := true }
def AnalysisRanksUptoSaid : Prop := analysisRanksUptoRow.holds Tryz.pinned (OpenSpec.upto analysisRanksSpec)

/-- 'tourbillonlaw17.AnalysisChecks', WHERE WHAT IT READS IS OF BULK AT MOST 1048576: true; the input reads as it did. -/
def analysisChecksUptoRow : OpenClaim := { program := "ytjfaiaipojfhgaagreat", sum := "78cf0b75e698adf6cea6ed012e5c638acfa9faaf90550a68130beab3f4c8356e", func := "tourbillon/tourbillonlaw17.AnalysisChecks", spec := "analysisChecks", unfollowed := true, recurses := true, plainKeys := false, apart := false, narrowed := true }
def AnalysisChecksUptoSaid : Prop := analysisChecksUptoRow.holds Tryz.pinned (OpenSpec.upto analysisChecksSpec)

/-- 'tourbillonlaw17.AnalysisLess', WHERE WHAT IT READS IS OF BULK AT MOST 1048576: true; the input reads as it did. -/
def analysisLessUptoRow : OpenClaim := { program := "ytjfaiaipojfhgaagreat", sum := "78cf0b75e698adf6cea6ed012e5c638acfa9faaf90550a68130beab3f4c8356e", func := "tourbillon/tourbillonlaw17.AnalysisLess", spec := "analysisLess", unfollowed := true, recurses := true, plainKeys := false, apart := false, narrowed := true }
def AnalysisLessUptoSaid : Prop := analysisLessUptoRow.holds Tryz.pinned (OpenSpec.upto analysisLessSpec)

/-- 'tourbillonlaw17.AnalysisOrder', WHERE WHAT IT READS IS OF BULK AT MOST 1048576: true; the input reads as it did. -/
def analysisOrderUptoRow : OpenClaim := { program := "ytjfaiaipojfhgaagreat", sum := "78cf0b75e698adf6cea6ed012e5c638acfa9faaf90550a68130beab3f4c8356e", func := "tourbillon/tourbillonlaw17.AnalysisOrder", spec := "analysisOrder", unfollowed := true, recurses := true, plainKeys := false, apart := false, narrowed := true }
def AnalysisOrderUptoSaid : Prop := analysisOrderUptoRow.holds Tryz.pinned (OpenSpec.upto analysisOrderSpec)

/-- 'tourbillonlaw17.AnalysisOwns', WHERE WHAT IT READS IS OF BULK AT MOST 1048576: true; the input reads as it did. -/
def analysisOwnsUptoRow : OpenClaim := { program := "ytjfaiaipojfhgaagreat", sum := "78cf0b75e698adf6cea6ed012e5c638acfa9faaf90550a68130beab3f4c8356e", func := "tourbillon/tourbillonlaw17.AnalysisOwns", spec := "analysisOwns", unfollowed := true, recurses := true, plainKeys := false, apart := false, narrowed := true }
def AnalysisOwnsUptoSaid : Prop := analysisOwnsUptoRow.holds Tryz.pinned (OpenSpec.upto analysisOwnsSpec)

/-- 'tourbillonlaw17.AnalysisCosts', WHERE WHAT IT READS IS OF BULK AT MOST 1048576: true; the input reads as it did. -/
def analysisCostsUptoRow : OpenClaim := { program := "ytjfaiaipojfhgaagreat", sum := "78cf0b75e698adf6cea6ed012e5c638acfa9faaf90550a68130beab3f4c8356e", func := "tourbillon/tourbillonlaw17.AnalysisCosts", spec := "analysisCosts", unfollowed := true, recurses := true, plainKeys := false, apart := false, narrowed := true }
def AnalysisCostsUptoSaid : Prop := analysisCostsUptoRow.holds Tryz.pinned (OpenSpec.upto analysisCostsSpec)

/-- 'tourbillonlaw17.AnalysisTops', WHERE WHAT IT READS IS OF BULK AT MOST 1048576: true; the input reads as it did. -/
def analysisTopsUptoRow : OpenClaim := { program := "ytjfaiaipojfhgaagreat", sum := "78cf0b75e698adf6cea6ed012e5c638acfa9faaf90550a68130beab3f4c8356e", func := "tourbillon/tourbillonlaw17.AnalysisTops", spec := "analysisTops", unfollowed := true, recurses := true, plainKeys := false, apart := false, narrowed := true }
def AnalysisTopsUptoSaid : Prop := analysisTopsUptoRow.holds Tryz.pinned (OpenSpec.upto analysisTopsSpec)

end Rows
end Go.Proofs.YtjfaiaipojfhgaaGreat
