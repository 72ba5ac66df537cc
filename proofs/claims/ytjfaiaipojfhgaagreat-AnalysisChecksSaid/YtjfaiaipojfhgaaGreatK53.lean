/- Part 53 of a proof: AnalysisChecksW. -/
import Derived.Test.YtjfaiaipojfhgaaGreatK51
import Derived.Test.YtjfaiaipojfhgaaGreatK52
section
namespace Go.Proofs.YtjfaiaipojfhgaaGreat.analysisChecks
open val pln
theorem walk (s:Sys) (A:Option Addr) (c:Nat) (A':Option Addr) (N c':Nat) (L:List (List Pc)) (h:N≤c') (w:World) (hs:RSys w A s.ts.length c s) (hl:RPl w A' N L) :
  Calls Tryz.prog 4 #[sysV s A s.ts.length c,.slice A' N c'] w fun e w'=>e=.returned (.bool true)∧But No w w' :=
 pln.analysisChecks.walk pln.check_is s A c A' N c' L h w hs hl
end Go.Proofs.YtjfaiaipojfhgaaGreat.analysisChecks
end
