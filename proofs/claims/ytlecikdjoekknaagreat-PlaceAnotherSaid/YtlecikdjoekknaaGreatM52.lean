/- Part 52 of a proof: PfQ. -/
import Derived.Test.YtlecikdjoekknaaGreatM44
import Derived.Test.YtlecikdjoekknaaGreatM51
set_option maxRecDepth 100000
set_option maxHeartbeats 16000000
set_option linter.unusedVariables false
set_option linter.unusedSimpArgs false
section
namespace Go.Proofs.YtlecikdjoekknaaGreat.pln
open val ter
theorem plc_short (s:Sys):(plcV s).2.1.length<=100000:=by
 rcases plc_ans s with⟨x,hx,_⟩ | ⟨hr,R,_,hx,hl,_⟩
 ·rw[hx];simp
 ·rw[hx]
  have:=(right_len hr).2.2.2.1
  show (chkV s R).1.length<=_
  omega
theorem place_is : PlaceIs:=λ s A n c w hs=>(place_any pls.cmp_grow check_is s A n c w hs).mono λ e w' h=>by
 obtain⟨A1,N1,c1,v,h1,h2,h3,h4⟩:=h
 obtain⟨B,k,rfl,_⟩:=h4.slice
 exact⟨A1,N1,c1,B,k,h1,h2,h3,(h4.rl (plc_short s)).1⟩
end Go.Proofs.YtlecikdjoekknaaGreat.pln
end
