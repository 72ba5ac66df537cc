/- Part 41 of a proof: PeA. -/
import Derived.Test.YtlecikdjoekknaaGreatM39
set_option maxRecDepth 100000
set_option maxHeartbeats 16000000
set_option linter.unusedVariables false
set_option linter.unusedSimpArgs false
section
namespace Go.Proofs.YtlecikdjoekknaaGreat.pln
open Go.ChangeShapes Go.WideShapes Go.ChangeAt Go.RowKit Go.Deep
theorem run_append_back {P:Program} (w:World) (t ty e:TypeId) (i:TypeInfo) (z:Value) (size bytes:Nat) (ht:P.underlying t=some (.slice e)) (hi:P.info? e=some i) (hz:i.zero=some z)
  (hsize:i.size=size) (hby:i.bytes=bytes) (hzs:z.cells.size=size) (hsz:0<size) (v:Value) (n:Nat) (xs:List Value) (hown:w.ownsRow 0 e size v n xs)
  (a:Addr) (m c:Nat) (news:List Value) (hl:news.length=m*size) (hnews:∀ j u,news[j]? = some u->w.cell? (a.add j)=some u) (h1:∀ u ∈ news,u.oneCell'=true) (h63:n+m<=maxLen) (hbytes:(n+m)*bytes<=140737488355328) :
  ∃ A' c' w',(Builtin.append_ #[t,t] ty #[v,.slice (some a) m c]).run P w=.ok (.slice A' (n+m) c') w'/\w'.ownsRow 0 e size (.slice A' (n+m) c') (n+m) (xs ++ news)/\w.grownBy w' v.ownBlock /\
   ((Value.slice A' (n+m) c').ownBlock=v.ownBlock\/(Value.slice A' (n+m) c').ownBlock=some w.heap.size)/\w'.ownsRow 0 e size v n xs:=by
 have K:=run_append_own_at (P:=P) w 0 t ty e i z size bytes ht hi hz hsize hby hzs hsz v n xs hown a m c news hl hnews h1 h63 hbytes (Nat.zero_le _)
 obtain⟨v',w',hr,h2,h3,_,h5⟩:=K
 obtain⟨A',c',rfl⟩:=owns_slice h2
 refine⟨A',c',w',hr,h2,h3,h5,?_⟩
 obtain⟨g1,g2⟩:=hown
 rcases g2 with⟨rfl,rfl⟩ | ⟨g,cap,cur,rfl,hbg,hg,hnc,hcm,hcs,htake⟩
 ·exact⟨g1,.inl ⟨rfl,rfl⟩⟩
 ·by_cases hroom:n+m<=cap
  ·obtain⟨w2,hr2,h6,_⟩:=run_append_fits (P:=P) w 0 t ty e i size ht hi hsize g n cap xs ⟨g1,.inr ⟨g,cap,cur,rfl,hbg,hg,hnc,hcm,hcs,htake⟩⟩ a m c news hl hnews h1 hroom
   rw[hr] at hr2
   cases hr2
   refine⟨g1,?_⟩
   obtain⟨_,h7⟩:=h6
   rcases h7 with⟨h7,_⟩ | ⟨g',cap',cur',hv,_,hg',_,_,hcs',ht'⟩
   ·cases h7
   cases hv
   refine .inr ⟨g,_,cur',rfl,hbg,hg',hnc,hcm,hcs',?_⟩
   have e1:(cur'.toList.take ((n+m)*size)).take (n*size)=(xs ++ news).take (n*size):=by rw[ht']
   rw[List.take_take,Nat.min_eq_left (Nat.mul_le_mul_right _ (by omega))] at e1
   rw[e1,<-g1,List.take_left]
  ·subst hsize
   have holds:∀ j u,xs[j]? = some u->w.cell? ((⟨g,0,none⟩:Addr).add j)=some u:=World.ownsRow.cells (g:=g) ⟨g1,.inr ⟨g,cap,cur,rfl,hbg,hg,hnc,hcm,hcs,htake⟩⟩ rfl
   have hr2:=run_append_grow (P:=P) w t ty e i z ht hi hz ⟨g,0,none⟩ n cap xs g1 holds a m c news hl hnews (by omega) (by simp only[maxLen] at h63;omega) (growslice_fits (by omega) (by rw[hby];exact hbytes))
   rw[hr] at hr2
   cases hr2
   refine⟨g1,.inr ⟨g,cap,cur,rfl,hbg,?_,hnc,hcm,hcs,htake⟩⟩
   have hlt:g<w.heap.size:=(Array.getElem?_eq_some_iff.1 hg).1
   exact(Below.heap_alloc w.drew _ _ hlt).trans hg
theorem step_append_bk {P:Program} {ops:Array Oper} {o:Oper} {a:Act} {w:World} {K:Act->World->Prop} {Q:Exit->Act->World->Prop} {E:Prop} (hgd:o.guard=none) (s x:Operand) (t:TypeId)
  (ho:o.op=.call { callee:=.builtin .append,args:=#[s,x],argTypes:=#[t,t] })
  (e:TypeId) (i:TypeInfo) (z:Value) (size bytes:Nat) (ht:P.underlying t=some (.slice e)) (hi:P.info? e=some i) (hz:i.zero=some z)
  (hsize:i.size=size) (hby:i.bytes=bytes) (hzs:z.cells.size=size) (hsz:0<size)
  (v:Value) (n:Nat) (xs:List Value) (hs:a.eval s=v) (hown:w.ownsRow 0 e size v n xs)
  (ad:Addr) (m c:Nat) (news:List Value) (hx:a.eval x=.slice (some ad) m c) (hl:news.length=m*size) (hnews:∀ j u,news[j]? = some u->w.cell? (ad.add j)=some u) (h1:∀ u ∈ news,u.oneCell'=true)
  (h63:n+m<=maxLen) (hbytes:(n+m)*bytes<=140737488355328)
  (h:∀ A' c' w',Hid (w'.ownsRow 0 e size (.slice A' (n+m) c') (n+m) (xs ++ news))->Hid (w.grownBy w' v.ownBlock)->Hid ((Value.slice A' (n+m) c').ownBlock=v.ownBlock\/(Value.slice A' (n+m) c').ownBlock=some w.heap.size)->Hid (w'.ownsRow 0 e size v n xs)->K (a.put o.dst (.slice A' (n+m) c')) w') :
  if Region.wanted o (yielded ops a.tmps)=true then Oper.wp P o a w K Q else E:=by
 have hw:Region.wanted o (yielded ops a.tmps)=true:=by simp[Region.wanted,hgd]
 rw[if_pos hw]
 obtain⟨A',c',w',hr,h2,h3,h4,h5⟩:=run_append_back (P:=P) w t o.type e i z size bytes ht hi hz hsize hby hzs hsz v n xs hown ad m c news hl hnews h1 h63 hbytes
 unfold Oper.wp execOp
 simp only[ho,resolve,invoke,builtin,Sem.run_bind,Sem.run_pure,Result.andThen_ok,List.map_toArray,List.map_cons,List.map_nil,hs,hx,hr]
 exact h A' c' w' h2 h3 h4 h5
section
variable {w W W1 w5 W2:World} {g n c r:Nat} {u u5:Value} {vs:List Value} {Ls:List (List Pc)} {l l5:List Pc}
theorem _root_.List.set_getElem_self' {α:Type} {l:List α} {r:Nat} {u:α} (h:l[r]? = some u):l.set r u=l:=by
 apply List.ext_getElem?
 intro j
 rw[List.getElem?_set]
 by_cases e:r=j
 ·subst e;rw[if_pos rfl,h];simp[(List.getElem?_eq_some_iff.1 h).1]
 ·rw[if_neg e]
theorem RoP.back (h:RoP w W (.slice (some ⟨g,0,none⟩) n c) vs Ls) (hn:vs.length=n) (hr:r<n) (hur:vs[r]? = some u) (hlr:Ls[r]? = some l)
  (h2:RoP w W1 (.slice (some ⟨g,0,none⟩) n c) (vs.set r u5) (Ls.set r l5)) (hu:OPc W1 u l):RoP w (W1.setCell ⟨g,r,none⟩ u) (.slice (some ⟨g,0,none⟩) n c) vs Ls:=by
 subst hn
 have hug:u.ownBlock≠some g:=λ e=>h.nb r u g hur e rfl
 have hrw:=h2.row
 rw[List.length_set] at hrw
 have hst:=(hrw.stored r u).1
 rw[List.set_set,List.set_getElem_self' hur] at hst
 refine⟨h2.but.setNew (h.new g rfl) _,hst,h.new,h.len,λ q z l' a1 a2=>?_,h.nb,h.dis⟩
 by_cases e:q=r
 ·subst e
  rw[hur] at a1;cases a1
  rw[hlr] at a2;cases a2
  exact⟨ownsRow_setCell_other hu hug _,(h.own q u l hur hlr).2⟩
 ·obtain⟨b1,b2⟩:=h2.own q z l' (by rw[List.getElem?_set_ne (λ f=>e f.symm)];exact a1) (by rw[List.getElem?_set_ne (λ f=>e f.symm)];exact a2)
  exact⟨ownsRow_setCell_other b1 (λ e'=>h.nb q z g a1 e' rfl) _,b2⟩
end
end Go.Proofs.YtlecikdjoekknaaGreat.pln
end
