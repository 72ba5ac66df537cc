/- Part 16 of a proof: DeW DeR1 DeR3 DeR4 DeR5 DeR6. -/
import Derived.Deep.DeepCutAuto
import Derived.Test.YtlecikdjoekknaaGreatM15
set_option maxRecDepth 100000
set_option maxHeartbeats 16000000
set_option linter.unusedVariables false
set_option linter.unusedSimpArgs false
section
namespace Go.Proofs.YtlecikdjoekknaaGreat.dem
open Go.ChangeShapes Go.WideShapes Go.ChangeAt Go.RowKit Go.Deep
section
variable {H:Type} {enc:TypeId × Value->H} {P:Program} {w:World} {base:Nat} {spare:Nat->Bool} {held:Bool}
theorem open_slice_fields {t e:TypeId} {fs:Array Field} {fuel:Nat} {cs:List Value} {x:DataW H × List MemPlace} (ht:P.underlying t=some (.slice e)) (he:P.underlying e=some (.struct fs))
  (hone:oneCellFields P fs=true) (hC:P.cellsOf e=fs.size) (h:DataW.trod enc P w base spare held fuel t cs=some x) :
  (cs = [.slice none 0 0]/\x=(.nil, [])) \/
  ∃ (a:Addr) (len cap m:Nat) (D:Nat->DataW H) (Pl:Nat->List MemPlace),cs = [.slice (some a) len cap]/\base<=a.block/\len<=cap/\cap<=maxLen/\m=(if spare a.block then cap else len) /\
   x=(.slice ((List.range len).map D) ((List.range (m-len)).map λ j=>D (len+j)),MemPlace.row a (m*fs.size) ++ (List.range m).flatMap Pl) /\
   ∀ i,i<m->∃ (ys:List (DataW H × List MemPlace)) (n:Nat),D i=.agg (ys.map (·.1))/\Pl i=ys.flatMap (·.2)/\ys.length=fs.size /\
    ∀ (j:Nat) (f:Field),fs[j]? = some f->∃ (v:Value) (y:DataW H × List MemPlace),w.cell? (a.add (i*fs.size+j))=some v/\ys[j]? = some y/\DataW.trod enc P w base spare held n f.type [v]=some y:=by
 rcases open_slice ht h with h0 | ⟨a,len,cap,m,n,D,Pl,hcs,hb,hl,hm,hmm,hx,hi⟩
 ·exact .inl h0
 ·refine .inr ⟨a,len,cap,m,D,Pl,hcs,hb,hl,hm,hmm,by rw[hC] at hx;exact hx,λ i him=>?_⟩
  obtain⟨cs',hc,ht'⟩:=hi i him
  rw[hC] at hc
  obtain⟨ys,n',hn',hy,hlen,hyl,hf⟩:=DataW.trod_struct he ht'
  obtain⟨_,hcl,hat⟩:=World.cells?_some hc
  simp only[Prod.mk.injEq] at hy
  refine⟨ys,n',hy.1,hy.2,hyl,λ j f hj=>?_⟩
  obtain⟨ho,hk⟩:=hone_of hone j f hj
  have hjl:j<fs.size:=(Array.getElem?_eq_some_iff.1 hj).1
  have hcell:=hat j hjl
  have hv:cs'[j]? = some (cs'[j]'(by omega)):=List.getElem?_eq_getElem (by omega)
  have h1:=hf j f hj
  rw[ho,hk] at h1
  have hone':(cs'.drop j).take 1 = [cs'[j]'(by omega)]:=by
   rw[List.drop_eq_getElem_cons (by omega)]
   rfl
  rw[hone'] at h1
  have hys:ys[j]? = some (ys[j]'(by omega)):=List.getElem?_eq_getElem (by omega)
  refine⟨_,_,?_,hys,h1.trans hys⟩
  rw[<-Go.Deep.add_add,hcell,hv]
end
structure RWk (w:World) (A:Option Addr) (n:Nat) (l:List Wk):Prop where
 len:l.length=n
 max:n<=9223372036854775807
 at_:0<n->∃ b off,A=some ⟨b,off,none⟩/\b<w.heap.size/\∀ k x,l[k]? = some x->w.cell? ⟨b,off+k*4,none⟩=some (.int .i64 x.w)/\w.cell? ⟨b,off+k*4+1,none⟩=some (.int .i64 x.p)/\w.cell? ⟨b,off+k*4+2,none⟩=some (.int .i64 x.d)/\w.cell? ⟨b,off+k*4+3,none⟩=some (.bool x.top)
 fit:∀ x ∈ l,inR x.w/\inR x.p/\inR x.d
theorem RWk.but {w w':World} {A:Option Addr} {n:Nat} {l:List Wk} {S:Nat->Prop} (h:RWk w A n l) (hb:But S w w') (hs:0<n->∀ b off,A=some ⟨b,off,none⟩->¬S b):RWk w' A n l :=
 ⟨h.len,h.max,λ hn=>by
  obtain⟨b,off,e,hl,hc⟩:=h.at_ hn
  have h9:=hs hn b off e
  exact⟨b,off,e,Nat.lt_of_lt_of_le hl hb.size,λ k x hx=>by rw[hb.cell hl h9,hb.cell hl h9,hb.cell hl h9,hb.cell hl h9];exact hc k x hx⟩,h.fit⟩
theorem RWk.no {w w':World} {A:Option Addr} {n:Nat} {l:List Wk} (h:RWk w A n l) (hb:But No w w'):RWk w' A n l:=h.but hb (λ _ _ _ _ f=>f)
theorem RWk.at1 {w:World} {A:Option Addr} {n:Nat} {l:List Wk} (h:RWk w A n l) {k:Nat} {x:Wk} (hx:l[k]? = some x) :
  ∃ b off,A=some ⟨b,off,none⟩/\b<w.heap.size/\w.cell? ⟨b,off+k*4,none⟩=some (.int .i64 x.w)/\w.cell? ⟨b,off+k*4+1,none⟩=some (.int .i64 x.p)/\w.cell? ⟨b,off+k*4+2,none⟩=some (.int .i64 x.d)/\w.cell? ⟨b,off+k*4+3,none⟩=some (.bool x.top):=by
 have hk:k<l.length:=(List.getElem?_eq_some_iff.1 hx).1
 obtain⟨b,off,e,hl,hc⟩:=h.at_ (by rw[<-h.len];omega)
 obtain⟨h1,h2,h3,h4⟩:=hc k x hx
 exact⟨b,off,e,hl,h1,h2,h3,h4⟩
theorem RWk.nil (w:World):RWk w none 0 []:=⟨rfl,by omega,λ h=>absurd h (by omega),by simp⟩
def wkC (x:Wk):List Value:=[.int .i64 x.w,.int .i64 x.p,.int .i64 x.d,.bool x.top]
def OWk (w:World) (e:TypeId) (v:Value) (l:List Wk):Prop:=w.ownsRow 0 e 4 v l.length (l.flatMap wkC)
theorem wkC_at {l:List Wk} {k:Nat} {x:Wk} (h:l[k]? = some x):(l.flatMap wkC)[k*4]? = some (.int .i64 x.w)/\(l.flatMap wkC)[k*4+1]? = some (.int .i64 x.p)/\(l.flatMap wkC)[k*4+2]? = some (.int .i64 x.d)/\(l.flatMap wkC)[k*4+3]? = some (.bool x.top):=by
 induction l generalizing k with
 | nil=>cases h
 | cons y l ih =>
  rw[List.flatMap_cons]
  cases k with
  | zero =>
   have e:y=x:=by simpa using h
   subst e
   exact⟨rfl,rfl,rfl,rfl⟩
  | succ k =>
   have:=ih (k:=k) (by simpa using h)
   have e:(wkC y).length=4:=rfl
   refine⟨?_,?_,?_,?_⟩ <;> rw[List.getElem?_append_right (by rw[e];omega),e]
   ·rw[show (k+1)*4-4=k*4 by omega];exact this.1
   ·rw[show (k+1)*4+1-4=k*4+1 by omega];exact this.2.1
   ·rw[show (k+1)*4+2-4=k*4+2 by omega];exact this.2.2.1
   ·rw[show (k+1)*4+3-4=k*4+3 by omega];exact this.2.2.2
theorem OWk.rd {w:World} {e:TypeId} {v:Value} {l:List Wk} (h:OWk w e v l) (hm:l.length<=9223372036854775807) (hf:∀ x ∈ l,inR x.w/\inR x.p/\inR x.d):∃ A c,v=.slice A l.length c/\RWk w A l.length l:=by
 obtain⟨h1,h2⟩:=h
 rcases h2 with⟨hv,hn⟩ | ⟨g,cap,cur,hv,_,hh,_,_,hs,ht⟩
 ·exact⟨none,0,by rw[hv,hn],by obtain rfl:=List.length_eq_zero_iff.1 hn;exact RWk.nil w⟩
 ·refine⟨some ⟨g,0,none⟩,cap,hv,rfl,hm,λ hn=>⟨g,0,rfl,Blk.lt hh,λ k x hx=>?_⟩,hf⟩
  have hk:k<l.length:=(List.getElem?_eq_some_iff.1 hx).1
  obtain⟨a0,a1,a2,a3⟩:=wkC_at hx
  have at_:∀ (j:Nat) (u:Value),j<l.length*4->(l.flatMap wkC)[j]? = some u->w.cell? ⟨g,j,none⟩=some u:=λ j u hj hu=>by
   rw[<-ht,List.getElem?_take,if_pos hj] at hu
   exact Blk.cell hh (by simpa using hu)
  rw[Nat.zero_add]
  exact⟨at_ _ _ (by omega) a0,at_ _ _ (by omega) a1,at_ _ _ (by omega) a2,at_ _ _ (by omega) a3⟩
end Go.Proofs.YtlecikdjoekknaaGreat.dem
end
section
namespace Go.Proofs.YtlecikdjoekknaaGreat.dem
open Go.ChangeShapes Go.WideShapes Go.ChangeAt Go.RowKit Go.Deep
theorem retp {a b c d:Int} (h:a=c) (k:b=d):Ending.returned (.tuple #[.int .i64 a,.int .i64 b])=.returned (.tuple #[.int .i64 c,.int .i64 d]):=by rw[h,k]
def comV (l:List Wk) (bl rl n:Int):Int:=if comO l bl rl n=true then 0 else comS l bl rl n
def comE (l:List Wk) (bl rl n:Int):Int:=if comO l bl rl n=true then 2 else 0
theorem com_out {l:List Wk} {bl rl n:Int} (h:comO l bl rl n=true):comV l bl rl n=0/\comE l bl rl n=2:=⟨if_pos h,if_pos h⟩
theorem com_in {l:List Wk} {bl rl n:Int} (h:comO l bl rl n=false):comV l bl rl n=comS l bl rl n/\comE l bl rl n=0:=⟨if_neg (by rw[h];simp),if_neg (by rw[h];simp)⟩
def wz (rl:Int) (l:List Wk):List Int:=l.flatMap λ x=>[x.w,rl]
def pz (l:List Wk):List Int:=l.flatMap λ x=>[x.p,x.p]
theorem wz_len (rl:Int) (l:List Wk):(wz rl l).length=2*l.length:=by
 induction l with
 | nil=>rfl
 | cons x l ih=>unfold wz at ih ⊢;rw[List.flatMap_cons,List.length_append,ih,List.length_cons];simp;omega
theorem pz_len (l:List Wk):(pz l).length=2*l.length:=by
 induction l with
 | nil=>rfl
 | cons x l ih=>unfold pz at ih ⊢;rw[List.flatMap_cons,List.length_append,ih,List.length_cons];simp;omega
theorem wz_snoc {rl:Int} {l:List Wk} {i:Nat} {x:Wk} (h:l[i]? = some x):wz rl (l.take (i+1))=wz rl (l.take i) ++ [x.w,rl]:=by
 unfold wz;rw[List.take_add_one,h,List.flatMap_append];simp
theorem pz_snoc {l:List Wk} {i:Nat} {x:Wk} (h:l[i]? = some x):pz (l.take (i+1))=pz (l.take i) ++ [x.p,x.p]:=by
 unfold pz;rw[List.take_add_one,h,List.flatMap_append];simp
def sumT : List (Int × Int)->Int
 | []=>0
 | x :: r=>qar.tm x.1 x.2+sumT r
theorem ldGo_sum : ∀ (ps:List (Int × Int)) (s:Int),0<=s->s<=9223372036854775807->(∀ p ∈ ps,0<=qar.tm p.1 p.2)->0<=sumT ps/\qar.ldGo s ps=if s+sumT ps<=9223372036854775807 then (s+sumT ps,0) else (0,2)
 | [],s,h0,h1,_=>⟨Int.le_refl 0,by rw[qar.ldGo,sumT,if_pos (by omega)];simp⟩
 | x :: r,s,h0,h1,hp=>by
  have hx:=hp x (by simp)
  rw[qar.ldGo,sumT]
  by_cases h2:s+qar.tm x.1 x.2<=9223372036854775807
  ·obtain⟨i1,i2⟩:=ldGo_sum r (s+qar.tm x.1 x.2) (by omega) h2 (λ p q=>hp p (by simp[q]))
   refine⟨by omega,?_⟩
   rw[if_pos (show inR (qar.tm x.1 x.2)by unfold inR;omega),if_pos (show inR (s+qar.tm x.1 x.2)by unfold inR;omega),i2]
   rw[show s+qar.tm x.1 x.2+sumT r=s+(qar.tm x.1 x.2+sumT r)by omega]
  ·obtain⟨i1,_⟩:=ldGo_sum r 0 (Int.le_refl 0) (by omega) (λ p q=>hp p (by simp[q]))
   refine⟨by omega,?_⟩
   rw[if_neg (show ¬s+(qar.tm x.1 x.2+sumT r)<=9223372036854775807 by omega)]
   by_cases h3:inR (qar.tm x.1 x.2)
   ·rw[if_pos h3,if_neg (show ¬inR (s+qar.tm x.1 x.2)by unfold inR;omega)]
   ·rw[if_neg h3]
theorem zip_wz (rl:Int) (l:List Wk):(wz rl l).zip (pz l)=l.flatMap λ x=>[(x.w,x.p),(rl,x.p)]:=by
 induction l with
 | nil=>rfl
 | cons x l ih =>
  unfold wz pz at ih ⊢
  simp only[List.flatMap_cons,List.cons_append,List.nil_append,List.zip_cons_cons,ih]
theorem sumT_wz (rl:Int) (l:List Wk):sumT ((wz rl l).zip (pz l))=sL (λ x=>qar.tm x.w x.p+qar.tm rl x.p) l:=by
 rw[zip_wz]
 induction l with
 | nil=>rfl
 | cons x l ih =>
  rw[List.flatMap_cons,sL]
  show qar.tm x.w x.p+(qar.tm rl x.p+sumT (l.flatMap λ x=>[(x.w,x.p),(rl,x.p)]))=_
  rw[ih];omega
theorem wz_at {rl:Int} {l:List Wk} {k:Nat} (h:k<2*l.length):∃ x ∈ l,((wz rl l).getD k 0=x.w\/(wz rl l).getD k 0=rl)/\(pz l).getD k 0=x.p:=by
 induction l generalizing k with
 | nil=>simp at h
 | cons x l ih =>
  match k with
  | 0=>exact⟨x,by simp,.inl rfl,rfl⟩
  | 1=>exact⟨x,by simp,.inr rfl,rfl⟩
  | k+2 =>
   obtain⟨y,hy,h1,h2⟩:=ih (k:=k) (by rw[List.length_cons] at h;omega)
   exact⟨y,by simp[hy],h1,h2⟩
theorem okL_wz {l:List Wk} {bl rl:Int} (h:right l bl rl=true):qar.okL (wz rl l) (pz l)=true:=by
 refine qar.okL_true (by rw[wz_len,pz_len]) (λ k hk=>?_)
 rw[wz_len] at hk
 obtain⟨x,hx,h1,h2⟩:=wz_at (rl:=rl) hk
 obtain⟨_,_,⟨r0,_⟩,ha⟩:=right_iff.1 h
 obtain⟨⟨w0,_⟩,⟨p0,_⟩,_⟩:=okW_iff.1 (ha x hx)
 rcases h1 with h1 | h1 <;> rw[h1,h2] <;> omega
theorem ld_is {l:List Wk} {bl rl:Int} (h:right l bl rl=true):(qar.ldE (wz rl l) (pz l)=0/\qar.ldV (wz rl l) (pz l)=ldS rl l/\0<=ldS rl l/\ldS rl l<=9223372036854775807)\/(qar.ldE (wz rl l) (pz l)=2/\qar.ldV (wz rl l) (pz l)=0/\4294967296<ldS rl l):=by
 obtain⟨e1,e2⟩:=qar.ld_good (okL_wz h)
 have hp:∀ p ∈ (wz rl l).zip (pz l),0<=qar.tm p.1 p.2:=λ p hp=>by
  rw[zip_wz] at hp
  obtain⟨x,hx,hm⟩:=List.mem_flatMap.1 hp
  obtain⟨_,_,⟨r0,_⟩,ha⟩:=right_iff.1 h
  obtain⟨⟨w0,_⟩,⟨p0,_⟩,_⟩:=okW_iff.1 (ha x hx)
  simp only[List.mem_cons,List.not_mem_nil,or_false] at hm
  rcases hm with rfl | rfl
  ·exact qar.tm_nonneg w0 (by dsimp only;omega)
  ·exact qar.tm_nonneg r0 (by dsimp only;omega)
 obtain⟨s0,hs⟩:=ldGo_sum _ 0 (Int.le_refl 0) (by omega) hp
 rw[sumT_wz,<-ldS_L] at hs s0
 rw[e1,e2,hs]
 by_cases hh:0+ldS rl l<=9223372036854775807
 ·rw[if_pos hh];exact .inl ⟨rfl,by dsimp only;omega,s0,by omega⟩
 ·rw[if_neg hh];exact .inr ⟨rfl,rfl,by omega⟩
theorem two_cell (a b:Int):∀ u ∈ [Value.int .i64 a,Value.int .i64 b],u.oneCell'=true:=by simp[Value.oneCell']
structure Two (w wr:World) (v u:Value) (zs ts:List Int):Prop where
 but:But No w wr
 o1:Ov wr v zs
 o2:Ov wr u ts
 n1:∀ k,v.ownBlock=some k->w.heap.size<=k
 n2:∀ k,u.ownBlock=some k->w.heap.size<=k
 ap:∀ k,v.ownBlock=some k->u.ownBlock≠some k
theorem Two.start (w:World):Two w w (.slice none 0 0) (.slice none 0 0) [] []:=⟨But.refl No w,Ov.nil w,Ov.nil w,own_none,own_none,λ k e=>by simp[Value.ownBlock] at e⟩
theorem own_lt {w:World} {v:Value} {zs:List Int} {k:Nat} (h:Ov w v zs) (e:v.ownBlock=some k):k<w.heap.size:=by
 obtain⟨_,h2⟩:=h
 rcases h2 with⟨rfl,_⟩ | ⟨g,cap,cur,rfl,_,hh,_⟩
 ·simp[Value.ownBlock] at e
 ·have:g=k:=by simpa [Value.ownBlock] using e
  subst this
  exact Blk.lt hh
theorem Two.no {w wr w2:World} {v u:Value} {zs ts:List Int} (h:Two w wr v u zs ts) (hb:But No wr w2):Two w w2 v u zs ts :=
 ⟨h.but.trans hb,h.o1.but hb (λ _ _ f=>f),h.o2.but hb (λ _ _ f=>f),h.n1,h.n2,h.ap⟩
theorem Two.swap {w wr:World} {v u:Value} {zs ts:List Int} (h:Two w wr v u zs ts):Two w wr u v ts zs:=⟨h.but,h.o2,h.o1,h.n2,h.n1,λ k e f=>h.ap k f e⟩
theorem Two.app {w wr w2:World} {v u:Value} {zs ts ns:List Int} {A:Option Addr} {c n:Nat} (h:Two w wr v u zs ts) (hn:n=zs.length+ns.length) (ho:w2.ownsRow 0 3 1 (.slice A n c) n (zs.map (Value.int .i64) ++ ns.map (Value.int .i64))) (hg:wr.grownBy w2 v.ownBlock)
  (hat:(Value.slice A n c).ownBlock=v.ownBlock\/(Value.slice A n c).ownBlock=some wr.heap.size):Two w w2 (.slice A n c) u (zs ++ ns) ts:=by
 refine⟨h.but.grown hg (λ k e=>.inr (h.n1 k e)),?_,?_,own_new h.n1 hat h.but.size,h.n2,λ k e f=>?_⟩
 ·unfold Ov;rw[List.length_append,List.map_append,<-hn];exact ho
 ·have hb:But (λ k=>v.ownBlock=some k) wr w2:=(But.refl _ wr).grown hg (λ k e=>.inl e)
  exact h.o2.but hb (λ k e f=>h.ap k f e)
 ·rcases hat with e1 | e1
  ·rw[e1] at e;exact h.ap k e f
  ·rw[e1] at e
   have hk:wr.heap.size=k:=by simpa using e
   have:=own_lt h.o2 f
   omega
theorem busy_fst (l:List Wk) (bl rl:Int):∀ (k:Nat) (n:Int),1<=n->n<=9223372036854775807->(busyGo l bl rl k n).2=0->1<=(busyGo l bl rl k n).1/\(busyGo l bl rl k n).1<=9223372036854775807
 | 0,_,_,_,h=>by rw[busyGo] at h;cases h
 | k+1,n,h1,h2,h=>by
  rw[busyGo] at h ⊢
  cases ho:comO l bl rl n with
  | true=>rw[ho,if_pos rfl] at h;cases h
  | false =>
   rw[ho,if_neg (by simp)] at h
   rw[if_neg (by simp)]
   by_cases hc:comS l bl rl n<=n
   ·rw[if_pos hc];exact⟨h1,h2⟩
   ·rw[if_neg hc] at h ⊢
    exact busy_fst l bl rl k _ (by omega) (ov_not ho).1 h
theorem fit_rd {zs:List Int} (h:∀ z ∈ zs,inR z):∀ k,inR (zs.getD k 0):=λ k=>by
 by_cases hk:k<zs.length
 ·have e:zs.getD k 0=zs[k]:=by simp[List.getD,hk]
  rw[e];exact h _ (List.getElem_mem hk)
 ·have e:zs.getD k 0=0:=by simp[List.getD,hk]
  rw[e];exact inR_small (by omega)
theorem Ov.rdv {w:World} {v:Value} {zs:List Int} (h:Ov w v zs) (hm:zs.length<=100000) (hf:∀ z ∈ zs,inR z):∃ A c,v=.slice A zs.length c/\Rd w A zs.length zs:=by
 obtain⟨A,c,e,_⟩:=Ov.slice h
 subst e
 obtain⟨hl,_⟩:=h.rl hm
 exact⟨A,c,rfl,hl.len,hl.max,hl.at_,fit_rd hf⟩
theorem busyP_le {l:List Wk} {bl rl:Int} (h:(busyP l bl rl).2=0):1<=(busyP l bl rl).1/\(busyP l bl rl).1<=9223372036854775807:=by
 unfold busyP at h ⊢
 by_cases hr:right l bl rl=true
 ·rw[if_pos hr] at h ⊢
  by_cases hm:4294967296<ldS rl l
  ·rw[if_pos hm] at h;cases h
  ·rw[if_neg hm] at h ⊢
   exact busy_fst l bl rl 5000 1 (by omega) (by omega) h
 ·rw[if_neg hr] at h;cases h
end Go.Proofs.YtlecikdjoekknaaGreat.dem
end
