/- Part 49 of a proof: PaQ4. -/
import Derived.Test.YtjfaiaipojfhgaaGreatR48
section
namespace Go.Proofs.YtjfaiaipojfhgaaGreat.pln
set_option linter.unusedVariables false
set_option linter.unusedSimpArgs false
open Go.ChangeShapes Go.WideShapes Go.ChangeAt Go.RowKit Go.Deep val ter
def Lv (w:World) (b N:Nat):Prop:=∃ cur e,Blk w b cur e∧N≤cur.size
theorem Lv.cell {w:World} {b N o:Nat} (h:Lv w b N) (ho:o<N):(∃ u,w.cell? ⟨b,o,none⟩=some u)∧w.frozen? ⟨b,o,none⟩=false:=by
 obtain⟨cur,e,hb,hn⟩:=h
 exact⟨⟨cur[o]'(by omega),hb.cell (Array.getElem?_eq_getElem (by omega))⟩,hb.frozen o⟩
theorem Lv.set {w:World} {b N a o:Nat} (h:Lv w b N) (v:Value):Lv (w.setCell ⟨a,o,none⟩ v) b N:=by
 obtain⟨cur,e,hb,hn⟩:=h
 by_cases hab:b=a
 ·subst hab
  exact⟨_,e,hb.set o v,by simpa using hn⟩
 ·exact⟨cur,e,hb.other hab v,hn⟩
theorem Lv.but {S:Nat→Prop} {w w':World} {b N:Nat} (h:Lv w b N) (hb:But S w w') (hs:¬S b):Lv w' b N:=by
 obtain⟨cur,e,h1,hn⟩:=h
 exact⟨cur,e,h1.but hb hs,hn⟩
theorem owns_lv {w:World} {e:TypeId} {size n c:Nat} {A:Option Addr} {xs:List Value} (h:w.ownsRow 0 e size (.slice A n c) n xs) (hn:0<n):∃ g,A=some ⟨g,0,none⟩∧Lv w g (n*size):=by
 rcases h.2 with⟨e1,h0⟩ | ⟨g,cap,cur,hv,_,hh,hc,_,hs,_⟩
 ·omega
 ·cases hv
  exact⟨g,rfl,cur,e,hh,by rw[hs];exact Nat.mul_le_mul_right _ hc⟩
def Ud (vs:List Value) (i z:Nat):Prop:=∃ (j:Nat) (u:Value),j<i∧vs[j]? = some u∧u.ownBlock=some z
theorem Ud.more {vs:List Value} {i z:Nat} (h:Ud vs i z):Ud vs (i+1) z:=by
 obtain⟨j,u,h1,h2⟩:=h
 exact⟨j,u,by omega,h2⟩
theorem Rl.but {w w':World} {A:Option Addr} {n:Nat} {zs:List Int} {S:Nat→Prop} (h:Rl w A n zs) (hb:But S w w') (hs:∀ b off,A=some ⟨b,off,none⟩→¬S b):Rl w' A n zs :=
 ⟨h.len,h.max,fun hn=>by
  obtain⟨b,off,e,hl,hc⟩:=h.at_ hn
  exact⟨b,off,e,Nat.lt_of_lt_of_le hl hb.size,fun k hk=>by rw[hb.cell hl (hs b off e)];exact hc k hk⟩⟩
theorem RoI.ud {w W:World} {v:Value} {vs:List Value} {Ls:List (List Int)} (h:RoI w W v vs Ls) {i z:Nat} (hz:Ud vs i z):w.heap.size≤z∧v.ownBlock≠some z:=by
 obtain⟨j,u,_,hu,e⟩:=hz
 obtain⟨l,hl⟩:∃ l,Ls[j]? = some l:=⟨_,List.getElem?_eq_getElem (by rw[←h.len];exact(List.getElem?_eq_some_iff.1 hu).1)⟩
 exact⟨(h.own j u l hu hl).2 z e,h.nb j u z hu e⟩
theorem RoP.ud {w W:World} {v:Value} {vs:List Value} {Ls:List (List Pc)} (h:RoP w W v vs Ls) {i z:Nat} (hz:Ud vs i z):w.heap.size≤z∧v.ownBlock≠some z:=by
 obtain⟨j,u,_,hu,e⟩:=hz
 obtain⟨l,hl⟩:∃ l,Ls[j]? = some l:=⟨_,List.getElem?_eq_getElem (by rw[←h.len];exact(List.getElem?_eq_some_iff.1 hu).1)⟩
 exact⟨(h.own j u l hu hl).2 z e,h.nb j u z hu e⟩
theorem RoI.row_at {w W:World} {g n c:Nat} {vs:List Value} {Ls:List (List Int)} {i:Nat} {l:List Int} (h:RoI w W (.slice (some ⟨g,0,none⟩) n c) vs Ls) (hn:n=Ls.length) (hl:Ls[i]? = some l) (hm:l.length≤1000) :
  ∃ A' c',W.cell? ⟨g,i,none⟩=some (.slice A' l.length c')∧Rl W A' l.length l∧(∀ z,(∃ o,A'=some ⟨z,o,none⟩)→0<l.length→¬Ud vs i z∧Ud vs (i+1) z)∧(0<l.length→∃ z,A'=some ⟨z,0,none⟩∧Lv W z l.length):=by
 subst hn
 have hi:i<vs.length:=by rw[h.len];exact(List.getElem?_eq_some_iff.1 hl).1
 obtain⟨u,hu⟩:∃ u,vs[i]? = some u:=⟨_,List.getElem?_eq_getElem hi⟩
 have hrow:W.ownsRow 0 39 1 (.slice (some ⟨g,0,none⟩) Ls.length c) Ls.length vs:=by have:=h.row;rw[h.len] at this;exact this
 have hc:=hrow.cells (g:=g) rfl i u hu
 rw[add_plain,Nat.zero_add] at hc
 have ho:=(h.own i u l hu hl).1
 obtain⟨A',c',e,hc'⟩:=ho.slice
 subst e
 refine⟨A',c',hc,(ho.rl (by omega)).1,fun z ⟨o,e⟩ hp=>?_,fun hp=>?_⟩
 ·subst e
  have hz:(Value.slice (some ⟨z,o,none⟩) l.length c').ownBlock=some z:=rfl
  exact⟨fun ⟨j,u2,h1,h2,h3⟩=>by have:=h.dis j i u2 _ z h2 hu h3 hz;omega,i,_,by omega,hu,hz⟩
 ·obtain⟨z,h1,h2⟩:=owns_lv (show W.ownsRow 0 3 1 (.slice A' l.length c') l.length _ from ho) hp
  exact⟨z,h1,by simpa using h2⟩
theorem RoP.row_at {w W:World} {g n c:Nat} {vs:List Value} {Ls:List (List Pc)} {i:Nat} {l:List Pc} (h:RoP w W (.slice (some ⟨g,0,none⟩) n c) vs Ls) (hn:n=Ls.length) (hl:Ls[i]? = some l) :
  ∃ A' c',W.cell? ⟨g,i,none⟩=some (.slice A' l.length c')∧(∀ z,(∃ o,A'=some ⟨z,o,none⟩)→0<l.length→¬Ud vs i z∧Ud vs (i+1) z)∧(0<l.length→∃ z,A'=some ⟨z,0,none⟩∧Lv W z (l.length*5)):=by
 subst hn
 have hi:i<vs.length:=by rw[h.len];exact(List.getElem?_eq_some_iff.1 hl).1
 obtain⟨u,hu⟩:∃ u,vs[i]? = some u:=⟨_,List.getElem?_eq_getElem hi⟩
 have hrow:W.ownsRow 0 40 1 (.slice (some ⟨g,0,none⟩) Ls.length c) Ls.length vs:=by have:=h.row;rw[h.len] at this;exact this
 have hc:=hrow.cells (g:=g) rfl i u hu
 rw[add_plain,Nat.zero_add] at hc
 have ho:=(h.own i u l hu hl).1
 obtain⟨A',c',e⟩:=owns_slice (show W.ownsRow 0 42 5 u l.length _ from ho)
 subst e
 refine⟨A',c',hc,fun z ⟨o,e⟩ hp=>?_,fun hp=>?_⟩
 ·subst e
  have hz:(Value.slice (some ⟨z,o,none⟩) l.length c').ownBlock=some z:=rfl
  exact⟨fun ⟨j,u2,h1,h2,h3⟩=>by have:=h.dis j i u2 _ z h2 hu h3 hz;omega,i,_,by omega,hu,hz⟩
 ·obtain⟨z,h1,h2⟩:=owns_lv (show W.ownsRow 0 42 5 (.slice A' l.length c') l.length _ from ho) hp
  exact⟨z,h1,h2⟩
theorem RoI.head {w W:World} {v:Value} {vs:List Value} {Ls:List (List Int)} (h:RoI w W v vs Ls) (hn:0<Ls.length):∃ g c,v=.slice (some ⟨g,0,none⟩) Ls.length c∧g<W.heap.size:=by
 obtain⟨h1,h2⟩:=h.row
 rcases h2 with⟨_,e⟩ | ⟨g,cap,cur,hv,_,hh,_⟩
 ·rw[h.len] at e;omega
 ·rw[h.len] at hv
  exact⟨g,cap,hv,(Array.getElem?_eq_some_iff.1 hh).1⟩
theorem RoP.head {w W:World} {v:Value} {vs:List Value} {Ls:List (List Pc)} (h:RoP w W v vs Ls) (hn:0<Ls.length):∃ g c,v=.slice (some ⟨g,0,none⟩) Ls.length c∧g<W.heap.size:=by
 obtain⟨h1,h2⟩:=h.row
 rcases h2 with⟨_,e⟩ | ⟨g,cap,cur,hv,_,hh,_⟩
 ·rw[h.len] at e;omega
 ·rw[h.len] at hv
  exact⟨g,cap,hv,(Array.getElem?_eq_some_iff.1 hh).1⟩
theorem RoP.rows {w W:World} {v:Value} {vs:List Value} {Ls:List (List Pc)} (h:RoP w W v vs Ls) {r:Nat} {u:Value} {k:Nat} (hu:vs[r]? = some u) (hk:u.ownBlock=some k):k<W.heap.size:=by
 obtain⟨l,hl⟩:∃ l,Ls[r]? = some l:=⟨_,List.getElem?_eq_getElem (by rw[←h.len];exact(List.getElem?_eq_some_iff.1 hu).1)⟩
 exact(World.ownsRow.lt (h.own r u l hu hl).1 k hk).2
theorem ro_five {W:World} {z o:Nat} {v0 v1 v2 v3 v4:Value} {N:Nat} {S:Nat→Prop} {w:World} (hb:But S w W) (hl:Lv W z N) (hS:S z):But S w (((((W.setCell ⟨z,o,none⟩ v0).setCell ⟨z,o+1,none⟩ v1).setCell ⟨z,o+2,none⟩ v2).setCell ⟨z,o+3,none⟩ v3).setCell ⟨z,o+4,none⟩ v4)∧Lv (((((W.setCell ⟨z,o,none⟩ v0).setCell ⟨z,o+1,none⟩ v1).setCell ⟨z,o+2,none⟩ v2).setCell ⟨z,o+3,none⟩ v3).setCell ⟨z,o+4,none⟩ v4) z N :=
 ⟨((((hb.setCell (p:=⟨z,o,none⟩) hS v0).setCell (p:=⟨z,o+1,none⟩) hS v1).setCell (p:=⟨z,o+2,none⟩) hS v2).setCell (p:=⟨z,o+3,none⟩) hS v3).setCell (p:=⟨z,o+4,none⟩) hS v4,((((hl.set v0).set v1).set v2).set v3).set v4⟩
end Go.Proofs.YtjfaiaipojfhgaaGreat.pln
end
