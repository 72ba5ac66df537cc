/- Part 54 of a proof: TableMakesW. -/
import Derived.Test.YtikcigjbhohboaaGreatM53
section
namespace Go.Proofs.YtikcigjbhohboaaGreat.tableMakes
open val pln
theorem walk (s:Sys) (A:Option Addr) (c:Nat) (A':Option Addr) (N c':Nat) (L:List (List Pc)) (h1:N≤c') (D:Option Addr) (z cz:Nat) (zs:List Int) (h2:z≤cz) (w:World) (hs:RSys w A s.ts.length c s) (hl:RPl w A' N L) (hz:Rd w D z zs) :
  Calls Tryz.prog 3 #[sysV s A s.ts.length c,.slice A' N c',.slice D z cz] w fun e w'=>e=.returned (.bool true)∧But No w w' :=
 tbl.tableMakes.walk s A c A' N c' L h1 D z cz zs h2 w hs hl hz
end Go.Proofs.YtikcigjbhohboaaGreat.tableMakes
end
