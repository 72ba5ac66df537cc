/-
  No cell of these rows narrows 'for every input' (looked for: loops, veiled, ifaces, maps, wideKeys, modest, calm, conditions, laid).
  DERIVED. THE GIVEN ROWS OF THIS SEAT. 7 by the template 'for every input the law returns true; each argument reads behind the call as it read before'; 0 by the template 'total and deterministic' (their statements: YtlecikdjoekknaaGreatTotals.lean).
  GIVEN WITH THE SEED: the statements are not yours to turn. If you find one false, say at which input.
  Laid BY PROGRAM, IN A SANDBOX (cutbox-rows.mjs): the forced cells as the released guide's own fill.sh prints them over the translation 78a9aa5df8240aaf… (all of the seat's roots in one cut). By AI agents, Wed Nov 11 2026. No macro, syntax, notation, axiom, sorry.
-/
import Derived.Test.YtlecikdjoekknaaGreatChecked
import GoSem.Claim
import GoSem.ClaimJoined
import GoSem.ClaimMapViews
import Derived.JoinedTies
import Derived.KernelRfl
namespace Go.Proofs.YtlecikdjoekknaaGreat
/- THE CELL 'sum', in the pinned program and in every row, IS THE sha256 OF THE DUMP (.gsa) THAT YtlecikdjoekknaaGreatProg.lean LOADS. Nothing in Lean hashes anything: it is a label: what it is worth is what the hold of that sum in a sandbox is worth. -/
noncomputable def Tryz.pinned : Pinned := { name := "ytlecikdjoekknaagreat", sum := "78a9aa5df8240aaf52c7555f3f1f88be2e4b35d8d940c33dd0d512e4c6a2266e", checked := Tryz.checked }
namespace Rows
def none {H : Type} : Left H := { results := [], args := [] }

/-- 'tourbillonlaw18.PlacePlaces': WHATEVER THE INPUT: true; the input reads as it did. -/
def placePlacesSpec : ChangeSpec := { name := "placePlaces", fn := fun _ => fun
  | [d] => { results := [.lit (.bool true)], args := [d] }
  | _ => none }
def placePlacesRow : OpenClaim := { program := "ytlecikdjoekknaagreat", sum := "78a9aa5df8240aaf52c7555f3f1f88be2e4b35d8d940c33dd0d512e4c6a2266e", func := "tourbillon/tourbillonlaw18.PlacePlaces", spec := "placePlaces", unfollowed := true, recurses := true, plainKeys := false, apart := false }
def PlacePlacesSaid : Prop := placePlacesRow.holds Tryz.pinned (OpenSpec.ofChange placePlacesSpec)

/-- ITS FALSE NEIGHBOUR: 'it returns false'. Refute it at one input. -/
def placePlacesWrong : ChangeSpec := { name := "placePlaces", fn := fun _ => fun
  | [d] => { results := [.lit (.bool false)], args := [d] }
  | _ => none }
def PlacePlacesWrongFalsely : Prop := placePlacesRow.holds Tryz.pinned (OpenSpec.ofChange placePlacesWrong)

/-- 'tourbillonlaw18.PlaceGood': WHATEVER THE INPUT: true; the input reads as it did. -/
def placeGoodSpec : ChangeSpec := { name := "placeGood", fn := fun _ => fun
  | [d] => { results := [.lit (.bool true)], args := [d] }
  | _ => none }
def placeGoodRow : OpenClaim := { program := "ytlecikdjoekknaagreat", sum := "78a9aa5df8240aaf52c7555f3f1f88be2e4b35d8d940c33dd0d512e4c6a2266e", func := "tourbillon/tourbillonlaw18.PlaceGood", spec := "placeGood", unfollowed := true, recurses := true, plainKeys := false, apart := false }
def PlaceGoodSaid : Prop := placeGoodRow.holds Tryz.pinned (OpenSpec.ofChange placeGoodSpec)

/-- ITS FALSE NEIGHBOUR: 'it returns false'. Refute it at one input. -/
def placeGoodWrong : ChangeSpec := { name := "placeGood", fn := fun _ => fun
  | [d] => { results := [.lit (.bool false)], args := [d] }
  | _ => none }
def PlaceGoodWrongFalsely : Prop := placeGoodRow.holds Tryz.pinned (OpenSpec.ofChange placeGoodWrong)

/-- 'tourbillonlaw18.PlaceAlone': WHATEVER THE INPUT: true; the input reads as it did. -/
def placeAloneSpec : ChangeSpec := { name := "placeAlone", fn := fun _ => fun
  | [d] => { results := [.lit (.bool true)], args := [d] }
  | _ => none }
def placeAloneRow : OpenClaim := { program := "ytlecikdjoekknaagreat", sum := "78a9aa5df8240aaf52c7555f3f1f88be2e4b35d8d940c33dd0d512e4c6a2266e", func := "tourbillon/tourbillonlaw18.PlaceAlone", spec := "placeAlone", unfollowed := true, recurses := true, plainKeys := false, apart := false }
def PlaceAloneSaid : Prop := placeAloneRow.holds Tryz.pinned (OpenSpec.ofChange placeAloneSpec)

/-- ITS FALSE NEIGHBOUR: 'it returns false'. Refute it at one input. -/
def placeAloneWrong : ChangeSpec := { name := "placeAlone", fn := fun _ => fun
  | [d] => { results := [.lit (.bool false)], args := [d] }
  | _ => none }
def PlaceAloneWrongFalsely : Prop := placeAloneRow.holds Tryz.pinned (OpenSpec.ofChange placeAloneWrong)

/-- 'tourbillonlaw18.PlaceOrders': WHATEVER THE INPUT: true; the input reads as it did. -/
def placeOrdersSpec : ChangeSpec := { name := "placeOrders", fn := fun _ => fun
  | [d] => { results := [.lit (.bool true)], args := [d] }
  | _ => none }
def placeOrdersRow : OpenClaim := { program := "ytlecikdjoekknaagreat", sum := "78a9aa5df8240aaf52c7555f3f1f88be2e4b35d8d940c33dd0d512e4c6a2266e", func := "tourbillon/tourbillonlaw18.PlaceOrders", spec := "placeOrders", unfollowed := true, recurses := true, plainKeys := false, apart := false }
def PlaceOrdersSaid : Prop := placeOrdersRow.holds Tryz.pinned (OpenSpec.ofChange placeOrdersSpec)

/-- ITS FALSE NEIGHBOUR: 'it returns false'. Refute it at one input. -/
def placeOrdersWrong : ChangeSpec := { name := "placeOrders", fn := fun _ => fun
  | [d] => { results := [.lit (.bool false)], args := [d] }
  | _ => none }
def PlaceOrdersWrongFalsely : Prop := placeOrdersRow.holds Tryz.pinned (OpenSpec.ofChange placeOrdersWrong)

/-- 'tourbillonlaw18.PlaceLoads': WHATEVER THE INPUT: true; the input reads as it did. -/
def placeLoadsSpec : ChangeSpec := { name := "placeLoads", fn := fun _ => fun
  | [d] => { results := [.lit (.bool true)], args := [d] }
  | _ => none }
def placeLoadsRow : OpenClaim := { program := "ytlecikdjoekknaagreat", sum := "78a9aa5df8240aaf52c7555f3f1f88be2e4b35d8d940c33dd0d512e4c6a2266e", func := "tourbillon/tourbillonlaw18.PlaceLoads", spec := "placeLoads", unfollowed := true, recurses := true, plainKeys := false, apart := false }
def PlaceLoadsSaid : Prop := placeLoadsRow.holds Tryz.pinned (OpenSpec.ofChange placeLoadsSpec)

/-- ITS FALSE NEIGHBOUR: 'it returns false'. Refute it at one input. -/
def placeLoadsWrong : ChangeSpec := { name := "placeLoads", fn := fun _ => fun
  | [d] => { results := [.lit (.bool false)], args := [d] }
  | _ => none }
def PlaceLoadsWrongFalsely : Prop := placeLoadsRow.holds Tryz.pinned (OpenSpec.ofChange placeLoadsWrong)

/-- 'tourbillonlaw18.PlaceSplits': WHATEVER THE INPUT: true; the input reads as it did. -/
def placeSplitsSpec : ChangeSpec := { name := "placeSplits", fn := fun _ => fun
  | [d] => { results := [.lit (.bool true)], args := [d] }
  | _ => none }
def placeSplitsRow : OpenClaim := { program := "ytlecikdjoekknaagreat", sum := "78a9aa5df8240aaf52c7555f3f1f88be2e4b35d8d940c33dd0d512e4c6a2266e", func := "tourbillon/tourbillonlaw18.PlaceSplits", spec := "placeSplits", unfollowed := true, recurses := true, plainKeys := false, apart := false }
def PlaceSplitsSaid : Prop := placeSplitsRow.holds Tryz.pinned (OpenSpec.ofChange placeSplitsSpec)

/-- ITS FALSE NEIGHBOUR: 'it returns false'. Refute it at one input. -/
def placeSplitsWrong : ChangeSpec := { name := "placeSplits", fn := fun _ => fun
  | [d] => { results := [.lit (.bool false)], args := [d] }
  | _ => none }
def PlaceSplitsWrongFalsely : Prop := placeSplitsRow.holds Tryz.pinned (OpenSpec.ofChange placeSplitsWrong)

/-- 'tourbillonlaw18.PlaceAnother': WHATEVER THE INPUT: true; the input reads as it did. -/
def placeAnotherSpec : ChangeSpec := { name := "placeAnother", fn := fun _ => fun
  | [d1, d2] => { results := [.lit (.bool true)], args := [d1, d2] }
  | _ => none }
def placeAnotherRow : OpenClaim := { program := "ytlecikdjoekknaagreat", sum := "78a9aa5df8240aaf52c7555f3f1f88be2e4b35d8d940c33dd0d512e4c6a2266e", func := "tourbillon/tourbillonlaw18.PlaceAnother", spec := "placeAnother", unfollowed := true, recurses := true, plainKeys := false, apart := false }
def PlaceAnotherSaid : Prop := placeAnotherRow.holds Tryz.pinned (OpenSpec.ofChange placeAnotherSpec)

/-- ITS FALSE NEIGHBOUR: 'it returns false'. Refute it at one input. -/
def placeAnotherWrong : ChangeSpec := { name := "placeAnother", fn := fun _ => fun
  | [d1, d2] => { results := [.lit (.bool false)], args := [d1, d2] }
  | _ => none }
def PlaceAnotherWrongFalsely : Prop := placeAnotherRow.holds Tryz.pinned (OpenSpec.ofChange placeAnotherWrong)

/- THE SECOND FORM. 'bulk': how many values and letters a reading holds, each counted each time it is reached (what is shared counts as often as it is met; a slice's spare places count too). A statement '..UptoSaid' is the law's where the arguments, and the package variables that the reading takes, are together of bulk at most 1048576: NARROWER than '..Said'. Prove '..Said' where nothing that the law and all that it calls make is longer than what came in: it says more and counts as full. Else prove '..UptoSaid'. A law counts once. -/
mutual
def uptoBulk {H : Type} : DataW H → Nat
  | .lit (.string bytes) => bytes.length + 1
  | .lit _ => 1
  | .nil => 1
  | .ptr d => uptoBulk d + 1
  | .slice elems spare => uptoBulkAll elems + uptoBulkAll spare + 1
  | .agg parts => uptoBulkAll parts + 1
  | .iface _ d => uptoBulk d + 1
  | .map entries => uptoBulkEntries entries + 1
  | .held _ => 1
def uptoBulkAll {H : Type} : List (DataW H) → Nat
  | [] => 0
  | d :: r => uptoBulk d + uptoBulkAll r
def uptoBulkEntries {H : Type} : List (Lit × DataW H) → Nat
  | [] => 0
  | x :: r => uptoBulkEntry x + uptoBulkEntries r
def uptoBulkEntry {H : Type} : Lit × DataW H → Nat
  | (.string bytes, d) => bytes.length + uptoBulk d + 1
  | (_, d) => uptoBulk d + 1
 end
def uptoSmall : (H : Type) → List (DataW H) → Bool := fun _ ds => decide (uptoBulkAll ds ≤ 1048576)
def OpenSpec.upto (s : _root_.Go.ChangeSpec) : _root_.Go.OpenSpec := { _root_.Go.OpenSpec.ofChange s with cond := some uptoSmall }

/-- 'tourbillonlaw18.PlacePlaces', WHERE WHAT IT READS IS OF BULK AT MOST 1048576: true; the input reads as it did. -/
def placePlacesUptoRow : OpenClaim := { program := "ytlecikdjoekknaagreat", sum := "78a9aa5df8240aaf52c7555f3f1f88be2e4b35d8d940c33dd0d512e4c6a2266e", func := "tourbillon/tourbillonlaw18.PlacePlaces", spec := "placePlaces", unfollowed := true, recurses := true, plainKeys := false, apart := false, narrowed := true }
def PlacePlacesUptoSaid : Prop := placePlacesUptoRow.holds Tryz.pinned (OpenSpec.upto placePlacesSpec)

/-- 'tourbillonlaw18.PlaceGood', WHERE WHAT IT READS IS OF BULK AT MOST 1048576: true; the input reads as it did. -/
def placeGoodUptoRow : OpenClaim := { program := "ytlecikdjoekknaagreat", sum := "78a9aa5df8240aaf52c7555f3f1f88be2e4b35d8d940c33dd0d512e4c6a2266e", func := "tourbillon/tourbillonlaw18.PlaceGood", spec := "placeGood", unfollowed := true, recurses := true, plainKeys := false, apart := false, narrowed := true }
def PlaceGoodUptoSaid : Prop := placeGoodUptoRow.holds Tryz.pinned (OpenSpec.upto placeGoodSpec)

/-- 'tourbillonlaw18.PlaceAlone', WHERE WHAT IT READS IS OF BULK AT MOST 1048576: true; the input reads as it did. -/
def placeAloneUptoRow : OpenClaim := { program := "ytlecikdjoekknaagreat", sum := "78a9aa5df8240aaf52c7555f3f1f88be2e4b35d8d940c33dd0d512e4c6a2266e", func := "tourbillon/tourbillonlaw18.PlaceAlone", spec := "placeAlone", unfollowed := true, recurses := true, plainKeys := false, apart := false, narrowed := true }
def PlaceAloneUptoSaid : Prop := placeAloneUptoRow.holds Tryz.pinned (OpenSpec.upto placeAloneSpec)

/-- 'tourbillonlaw18.PlaceOrders', WHERE WHAT IT READS IS OF BULK AT MOST 1048576: true; the input reads as it did. -/
def placeOrdersUptoRow : OpenClaim := { program := "ytlecikdjoekknaagreat", sum := "78a9aa5df8240aaf52c7555f3f1f88be2e4b35d8d940c33dd0d512e4c6a2266e", func := "tourbillon/tourbillonlaw18.PlaceOrders", spec := "placeOrders", unfollowed := true, recurses := true, plainKeys := false, apart := false, narrowed := true }
def PlaceOrdersUptoSaid : Prop := placeOrdersUptoRow.holds Tryz.pinned (OpenSpec.upto placeOrdersSpec)

/-- 'tourbillonlaw18.PlaceLoads', WHERE WHAT IT READS IS OF BULK AT MOST 1048576: true; the input reads as it did. -/
def placeLoadsUptoRow : OpenClaim := { program := "ytlecikdjoekknaagreat", sum := "78a9aa5df8240aaf52c7555f3f1f88be2e4b35d8d940c33dd0d512e4c6a2266e", func := "tourbillon/tourbillonlaw18.PlaceLoads", spec := "placeLoads", unfollowed := true, recurses := true, plainKeys := false, apart := false, narrowed := true }
def PlaceLoadsUptoSaid : Prop := placeLoadsUptoRow.holds Tryz.pinned (OpenSpec.upto placeLoadsSpec)

/-- 'tourbillonlaw18.PlaceSplits', WHERE WHAT IT READS IS OF BULK AT MOST 1048576: true; the input reads as it did. -/
def placeSplitsUptoRow : OpenClaim := { program := "ytlecikdjoekknaagreat", sum := "78a9aa5df8240aaf52c7555f3f1f88be2e4b35d8d940c33dd0d512e4c6a2266e", func := "tourbillon/tourbillonlaw18.PlaceSplits", spec := "placeSplits", unfollowed := true, recurses := true, plainKeys := false, apart := false, narrowed := true }
def PlaceSplitsUptoSaid : Prop := placeSplitsUptoRow.holds Tryz.pinned (OpenSpec.upto placeSplitsSpec)

/-- 'tourbillonlaw18.PlaceAnother', WHERE WHAT IT READS IS OF BULK AT MOST 1048576: true; the input reads as it did. -/
def placeAnotherUptoRow : OpenClaim := { program := "ytlecikdjoekknaagreat", sum := "78a9aa5df8240aaf52c7555f3f1f88be2e4b35d8d940c33dd0d512e4c6a2266e", func := "tourbillon/tourbillonlaw18.PlaceAnother", spec := "placeAnother", unfollowed := true, recurses := true, plainKeys := false, apart := false, narrowed := true }
def PlaceAnotherUptoSaid : Prop := placeAnotherUptoRow.holds Tryz.pinned (OpenSpec.upto placeAnotherSpec)

end Rows
end Go.Proofs.YtlecikdjoekknaaGreat
