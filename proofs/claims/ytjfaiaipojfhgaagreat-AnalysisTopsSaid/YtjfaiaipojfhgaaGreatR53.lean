/- Part 53 of a proof: AnalysisOrderW AnalysisRanksW AnalysisTopsW. -/
import Derived.Test.YtjfaiaipojfhgaaGreatR50
import Derived.Test.YtjfaiaipojfhgaaGreatR51
import Derived.Test.YtjfaiaipojfhgaaGreatR52
section
namespace Go.Proofs.YtjfaiaipojfhgaaGreat.analysisOrder
open val pln
theorem walk (s:Sys) (A:Option Addr) (c:Nat) (A':Option Addr) (N c':Nat) (L:List (List Pc)) (h:N≤c') (w:World) (hs:RSys w A s.ts.length c s) (hl:RPl w A' N L) :
  Calls Tryz.prog 6 #[sysV s A s.ts.length c,.slice A' N c'] w fun e w'=>e=.returned (.bool true)∧But No w w' :=
 pln.analysisOrder.walk s A c A' N c' L h w hs hl
end Go.Proofs.YtjfaiaipojfhgaaGreat.analysisOrder
end
section
namespace Go.Proofs.YtjfaiaipojfhgaaGreat.analysisRanks
open val pln
theorem walk (s:Sys) (A:Option Addr) (c:Nat) (A':Option Addr) (N c':Nat) (L:List (List Pc)) (h:N≤c') (i:Int) (_:(Lit.int .i64 i).wf=true) (k:Int) (_:(Lit.int .i64 k).wf=true) (w:World) (hs:RSys w A s.ts.length c s) (hl:RPl w A' N L) :
  Calls Tryz.prog 3 #[sysV s A s.ts.length c,.slice A' N c',.int .i64 i,.int .i64 k] w fun e w'=>e=.returned (.bool true)∧But No w w' :=
 pln.analysisRanks.walk s A c A' N c' L h i k w hs hl
end Go.Proofs.YtjfaiaipojfhgaaGreat.analysisRanks
end
section
namespace Go.Proofs.YtjfaiaipojfhgaaGreat.analysisTops
open val pln
theorem walk (s:Sys) (A:Option Addr) (c:Nat) (A':Option Addr) (N c':Nat) (L:List (List Pc)) (h:N≤c') (w:World) (hs:RSys w A s.ts.length c s) (hl:RPl w A' N L) :
  Calls Tryz.prog 9 #[sysV s A s.ts.length c,.slice A' N c'] w fun e w'=>e=.returned (.bool true)∧But No w w' :=
 pln.analysisTops.walk s A c A' N c' L h w hs hl
end Go.Proofs.YtjfaiaipojfhgaaGreat.analysisTops
end
