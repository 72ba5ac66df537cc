/- Part 3 of a proof: ReW. -/
import Derived.Test.YtlecikdjoekknaaGreatM01
set_option maxRecDepth 100000
set_option maxHeartbeats 16000000
set_option linter.unusedVariables false
set_option linter.unusedSimpArgs false
section
namespace Go.Proofs.YtlecikdjoekknaaGreat.rsp
open Go.ChangeShapes Go.WideShapes Go.ChangeAt Go.RowKit Go.Deep
section
variable {H:Type} {enc:TypeId × Value->H} {P:Program} {w:World} {base:Nat} {spare:Nat->Bool} {held:Bool}
theorem open_slice_fields {t e:TypeId} {fs:Array Field} {fuel:Nat} {cs:List Value} {x:DataW H × List MemPlace} (ht:P.underlying t=some (.slice e)) (he:P.underlying e=some (.struct fs))
  (hone:oneCellFields P fs=true) (hC:P.cellsOf e=fs.size) (h:DataW.trod enc P w base spare held fuel t cs=some x) :
  (cs = [.slice none 0 0]/\x=(.nil, [])) \/
  ∃ (a:Addr) (len cap m:Nat) (D:Nat->DataW H) (Pl:Nat->List MemPlace),cs = [.slice (some a) len cap]/\base<=a.block/\len<=cap/\cap<=maxLen/\m=(if spare a.block then cap else len) /\
   x=(.slice ((List.range len).map D) ((List.range (m-len)).map λ j=>D (len+j)),MemPlace.row a (m*fs.size) ++ (List.range m).flatMap Pl) /\
   ∀ i,i<m->∃ (ys:List (DataW H × List MemPlace)) (n:Nat),D i=.agg (ys.map (·.1))/\Pl i=ys.flatMap (·.2)/\ys.length=fs.size /\
    ∀ (j:Nat) (f:Field),fs[j]? = some f->∃ (v:Value) (y:DataW H × List MemPlace),w.cell? (a.add (i*fs.size+j))=some v/\ys[j]? = some y/\DataW.trod enc P w base spare held n f.type [v]=some y:=by
 rcases open_slice ht h with h0 | ⟨a,len,cap,m,n,D,Pl,hcs,hb,hl,hm,hmm,hx,hi⟩
 ·exact .inl h0
 ·refine .inr ⟨a,len,cap,m,D,Pl,hcs,hb,hl,hm,hmm,by rw[hC] at hx;exact hx,λ i him=>?_⟩
  obtain⟨cs',hc,ht'⟩:=hi i him
  rw[hC] at hc
  obtain⟨ys,n',hn',hy,hlen,hyl,hf⟩:=DataW.trod_struct he ht'
  obtain⟨_,hcl,hat⟩:=World.cells?_some hc
  simp only[Prod.mk.injEq] at hy
  refine⟨ys,n',hy.1,hy.2,hyl,λ j f hj=>?_⟩
  obtain⟨ho,hk⟩:=hone_of hone j f hj
  have hjl:j<fs.size:=(Array.getElem?_eq_some_iff.1 hj).1
  have hcell:=hat j hjl
  have hv:cs'[j]? = some (cs'[j]'(by omega)):=List.getElem?_eq_getElem (by omega)
  have h1:=hf j f hj
  rw[ho,hk] at h1
  have hone':(cs'.drop j).take 1 = [cs'[j]'(by omega)]:=by
   rw[List.drop_eq_getElem_cons (by omega)]
   rfl
  rw[hone'] at h1
  have hys:ys[j]? = some (ys[j]'(by omega)):=List.getElem?_eq_getElem (by omega)
  refine⟨_,_,?_,hys,h1.trans hys⟩
  rw[<-Go.Deep.add_add,hcell,hv]
end
structure RLd (w:World) (A:Option Addr) (n:Nat) (l:List Ld):Prop where
 len:l.length=n
 max:n<=9223372036854775807
 at_:0<n->∃ b off,A=some ⟨b,off,none⟩/\b<w.heap.size/\∀ k x,l[k]? = some x->w.cell? ⟨b,off+k*3,none⟩=some (.int .i64 x.w)/\w.cell? ⟨b,off+k*3+1,none⟩=some (.int .i64 x.p)/\w.cell? ⟨b,off+k*3+2,none⟩=some (.int .i64 x.j)
 fit:∀ x ∈ l,inR x.w/\inR x.p/\inR x.j
theorem RLd.but {w w':World} {A:Option Addr} {n:Nat} {l:List Ld} {S:Nat->Prop} (h:RLd w A n l) (hb:But S w w') (hs:0<n->∀ b off,A=some ⟨b,off,none⟩->¬S b):RLd w' A n l :=
 ⟨h.len,h.max,λ hn=>by
  obtain⟨b,off,e,hl,hc⟩:=h.at_ hn
  have h9:=hs hn b off e
  exact⟨b,off,e,Nat.lt_of_lt_of_le hl hb.size,λ k x hx=>by rw[hb.cell hl h9,hb.cell hl h9,hb.cell hl h9];exact hc k x hx⟩,h.fit⟩
theorem RLd.no {w w':World} {A:Option Addr} {n:Nat} {l:List Ld} (h:RLd w A n l) (hb:But No w w'):RLd w' A n l:=h.but hb (λ _ _ _ _ f=>f)
theorem RLd.at1 {w:World} {A:Option Addr} {n:Nat} {l:List Ld} (h:RLd w A n l) {k:Nat} {x:Ld} (hx:l[k]? = some x) :
  ∃ b off,A=some ⟨b,off,none⟩/\b<w.heap.size/\w.cell? ⟨b,off+k*3,none⟩=some (.int .i64 x.w)/\w.cell? ⟨b,off+k*3+1,none⟩=some (.int .i64 x.p)/\w.cell? ⟨b,off+k*3+2,none⟩=some (.int .i64 x.j):=by
 have hk:k<l.length:=(List.getElem?_eq_some_iff.1 hx).1
 obtain⟨b,off,e,hl,hc⟩:=h.at_ (by rw[<-h.len];omega)
 obtain⟨h1,h2,h3⟩:=hc k x hx
 exact⟨b,off,e,hl,h1,h2,h3⟩
def ldC (x:Ld):List Value:=[.int .i64 x.w,.int .i64 x.p,.int .i64 x.j]
end Go.Proofs.YtlecikdjoekknaaGreat.rsp
end
