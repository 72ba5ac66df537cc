/- Part 54 of a proof: AnalysisOwnsW. -/
import Derived.Test.YtjfaiaipojfhgaaGreatC53
section
namespace Go.Proofs.YtjfaiaipojfhgaaGreat.analysisOwns
open val pln
theorem walk (s:Sys) (A:Option Addr) (c:Nat) (A':Option Addr) (N c':Nat) (L:List (List Pc)) (h:N≤c') (i:Int) (_:(Lit.int .i64 i).wf=true) (k:Int) (_:(Lit.int .i64 k).wf=true) (w:World) (hs:RSys w A s.ts.length c s) (hl:RPl w A' N L) :
  Calls Tryz.prog 7 #[sysV s A s.ts.length c,.slice A' N c',.int .i64 i,.int .i64 k] w fun e w'=>e=.returned (.bool true)∧But No w w' :=
 pln.analysisOwns.walk s A c A' N c' L h i k w hs hl
end Go.Proofs.YtjfaiaipojfhgaaGreat.analysisOwns
end
