/- Part 2 of a proof: TkM Sy PlW VdM PlM TeM Ky2. -/
import Derived.DeepKeys4
import Derived.Maps.OwnOps
import Derived.Maps.OwnSet
import Derived.Test.YtlecikdjoekknaaGreatM01
set_option maxRecDepth 100000
set_option maxHeartbeats 16000000
set_option linter.unusedVariables false
set_option linter.unusedSimpArgs false
section
namespace Go.Proofs.YtlecikdjoekknaaGreat
structure Tsk where
 p:Int
 d:Int
 w:Int
 secs:List (Int × Int × Int)
structure Sys where
 co:Int
 po:Int
 pr:Int
 re:Int
 sw:Int
 fi:Int
 la:Int
 rs:Int
 ts:List Tsk
def secN (x:Int × Int × Int):List Int:=[x.1,x.2.1,x.2.2]
def tskN (t:Tsk):List Int:=t.p :: t.d :: t.w :: (t.secs.length:Int) :: t.secs.flatMap secN
def nums (s:Sys):List Int:=1 :: s.co :: s.po :: s.pr :: s.re :: s.sw :: s.fi :: s.la :: s.rs :: (s.ts.length:Int) :: s.ts.flatMap tskN
structure Fit (s:Sys):Prop where
 tasks:s.ts.length<=24
 secs:∀ t ∈ s.ts,t.secs.length<=4
 pos:∀ z ∈ nums s,0<=z
open Go.ChangeShapes Go.WideShapes Go.ChangeAt Go.RowKit Go.Deep
section
variable {H:Type} {enc:TypeId × Value->H} {P:Program} {w:World} {base:Nat} {spare:Nat->Bool} {held:Bool}
theorem open_slice_fields {t e:TypeId} {fs:Array Field} {fuel:Nat} {cs:List Value} {x:DataW H × List MemPlace} (ht:P.underlying t=some (.slice e)) (he:P.underlying e=some (.struct fs))
  (hone:oneCellFields P fs=true) (hC:P.cellsOf e=fs.size) (h:DataW.trod enc P w base spare held fuel t cs=some x) :
  (cs = [.slice none 0 0]/\x=(.nil, [])) \/
  ∃ (a:Addr) (len cap m:Nat) (D:Nat->DataW H) (Pl:Nat->List MemPlace),cs = [.slice (some a) len cap]/\base<=a.block/\len<=cap/\cap<=maxLen/\m=(if spare a.block then cap else len) /\
   x=(.slice ((List.range len).map D) ((List.range (m-len)).map λ j=>D (len+j)),MemPlace.row a (m*fs.size) ++ (List.range m).flatMap Pl) /\
   ∀ i,i<m->∃ (ys:List (DataW H × List MemPlace)) (n:Nat),D i=.agg (ys.map (·.1))/\Pl i=ys.flatMap (·.2)/\ys.length=fs.size /\
    ∀ (j:Nat) (f:Field),fs[j]? = some f->∃ (v:Value) (y:DataW H × List MemPlace),w.cell? (a.add (i*fs.size+j))=some v/\ys[j]? = some y/\DataW.trod enc P w base spare held n f.type [v]=some y:=by
 rcases open_slice ht h with h0 | ⟨a,len,cap,m,n,D,Pl,hcs,hb,hl,hm,hmm,hx,hi⟩
 ·exact .inl h0
 ·refine .inr ⟨a,len,cap,m,D,Pl,hcs,hb,hl,hm,hmm,by rw[hC] at hx;exact hx,λ i him=>?_⟩
  obtain⟨cs',hc,ht'⟩:=hi i him
  rw[hC] at hc
  obtain⟨ys,n',hn',hy,hlen,hyl,hf⟩:=DataW.trod_struct he ht'
  obtain⟨_,hcl,hat⟩:=World.cells?_some hc
  simp only[Prod.mk.injEq] at hy
  refine⟨ys,n',hy.1,hy.2,hyl,λ j f hj=>?_⟩
  obtain⟨ho,hk⟩:=hone_of hone j f hj
  have hjl:j<fs.size:=(Array.getElem?_eq_some_iff.1 hj).1
  have hcell:=hat j hjl
  have hv:cs'[j]? = some (cs'[j]'(by omega)):=List.getElem?_eq_getElem (by omega)
  have h1:=hf j f hj
  rw[ho,hk] at h1
  have hone':(cs'.drop j).take 1 = [cs'[j]'(by omega)]:=by
   rw[List.drop_eq_getElem_cons (by omega)]
   rfl
  rw[hone'] at h1
  have hys:ys[j]? = some (ys[j]'(by omega)):=List.getElem?_eq_getElem (by omega)
  refine⟨_,_,?_,hys,h1.trans hys⟩
  rw[<-Go.Deep.add_add,hcell,hv]
theorem open_agg_fields {r:Reach} {b0:Nat} {t:TypeId} {fs:Array Field} {v:Value} {d:DataW H} {p:List MemPlace} (hs:P.underlying t=some (.struct fs)) (hone:oneCellFields P fs=true) (hC:P.cellsOf t=fs.size)
  (hv:Value.okWide P w r b0 t v) (h:DataW.Trod enc P w base spare held t v d p) :
  ∃ (l:List Value) (n:Nat),v=.agg l.toArray/\l.length=fs.size/\∀ (j:Nat) (f:Field),fs[j]? = some f->∃ (u:Value) (y:DataW H × List MemPlace),l[j]? = some u/\DataW.trod enc P w base spare held n f.type [u]=some y:=by
 obtain⟨cs,rfl,hsz⟩:=okWide_struct hs hv
 obtain⟨l⟩:=cs
 obtain⟨fuel,hf⟩:=h
 obtain⟨xs,n,_,hx,_,hlen,hg⟩:=DataW.trod_struct hs hf
 have hll:l.length=fs.size:=by rw[<-hC,<-hsz];rfl
 refine⟨l,n,rfl,hll,λ j f hj=>?_⟩
 obtain⟨ho,hk⟩:=hone_of hone j f hj
 have hjl:j<fs.size:=(Array.getElem?_eq_some_iff.1 hj).1
 have h1:=hg j f hj
 rw[ho,hk] at h1
 have hone':(l.drop j).take 1 = [l[j]'(by omega)]:=by
  rw[List.drop_eq_getElem_cons (by omega)]
  rfl
 have h2:DataW.trod enc P w base spare held n f.type [l[j]'(by omega)]=xs[j]?:=by rw[<-hone'];simpa [Value.cells] using h1
 have hys:xs[j]? = some (xs[j]'(by omega)):=List.getElem?_eq_getElem (by omega)
 exact⟨_,_,List.getElem?_eq_getElem (by omega),h2.trans hys⟩
theorem type_at {fs:Array Field} {ts:Array TypeId} (h:fs.map (·.type)=ts) {j:Nat} {t:TypeId} (hj:ts[j]? = some t):∃ f,fs[j]? = some f/\f.type=t:=by
 rw[<-h,Array.getElem?_map] at hj
 cases hf:fs[j]? with
 | none=>rw[hf] at hj;cases hj
 | some f=>rw[hf] at hj;exact⟨f,rfl,by simpa using hj⟩
theorem int_in {n:Nat} {v:Value} {y:DataW H × List MemPlace} (hi:P.underlying 3=some (.int .i64)) (h:DataW.trod enc P w base spare held n 3 [v]=some y):∃ z,v=.int .i64 z/\inR z:=by
 obtain⟨z,hz⟩:=DataW.trod_int hi h
 simp only[List.cons.injEq,and_true] at hz
 exact⟨z,hz.1,inR_of hz.2.2⟩
end
structure SysT (P:Program) (tS tT tt tC tc:TypeId) (fS ft fc:Array Field):Prop where
 uS:P.underlying tS=some (.struct fS)
 uT:P.underlying tT=some (.slice tt)
 ut:P.underlying tt=some (.struct ft)
 uC:P.underlying tC=some (.slice tc)
 uc:P.underlying tc=some (.struct fc)
 ui:P.underlying 3=some (.int .i64)
 oS:oneCellFields P fS=true
 ot:oneCellFields P ft=true
 oc:oneCellFields P fc=true
 cS:P.cellsOf tS=9
 ct:P.cellsOf tt=4
 cc:P.cellsOf tc=3
 yS:fS.map (·.type) = #[3,3,3,3,3,3,3,3,tT]
 yt:ft.map (·.type) = #[3,3,3,tC]
 yc:fc.map (·.type) = #[3,3,3]
structure RSec (w:World) (A:Option Addr) (n:Nat) (l:List (Int × Int × Int)):Prop where
 len:l.length=n
 max:n<=9223372036854775807
 at_:0<n->∃ b off,A=some ⟨b,off,none⟩/\b<w.heap.size/\∀ k x,l[k]? = some x->w.cell? ⟨b,off+k*3,none⟩=some (.int .i64 x.1)/\w.cell? ⟨b,off+k*3+1,none⟩=some (.int .i64 x.2.1)/\w.cell? ⟨b,off+k*3+2,none⟩=some (.int .i64 x.2.2)
 fit:∀ x ∈ l,inR x.1/\inR x.2.1/\inR x.2.2
theorem RSec.no {w w':World} {A:Option Addr} {n:Nat} {l:List (Int × Int × Int)} (h:RSec w A n l) (hb:But No w w'):RSec w' A n l :=
 ⟨h.len,h.max,λ hn=>by
  obtain⟨b,off,e,hl,hc⟩:=h.at_ hn
  exact⟨b,off,e,Nat.lt_of_lt_of_le hl hb.size,λ k x hx=>by rw[hb.cell hl (λ f=>f),hb.cell hl (λ f=>f),hb.cell hl (λ f=>f)];exact hc k x hx⟩,h.fit⟩
structure RTsk (w:World) (A:Option Addr) (n:Nat) (ts:List Tsk):Prop where
 len:ts.length=n
 max:n<=9223372036854775807
 at_:0<n->∃ b off,A=some ⟨b,off,none⟩/\b<w.heap.size/\∀ k t,ts[k]? = some t->w.cell? ⟨b,off+k*4,none⟩=some (.int .i64 t.p)/\w.cell? ⟨b,off+k*4+1,none⟩=some (.int .i64 t.d)/\w.cell? ⟨b,off+k*4+2,none⟩=some (.int .i64 t.w) /\
  ∃ A' c',w.cell? ⟨b,off+k*4+3,none⟩=some (.slice A' t.secs.length c')/\t.secs.length<=c'/\RSec w A' t.secs.length t.secs
 fit:∀ t ∈ ts,inR t.p/\inR t.d/\inR t.w
theorem RTsk.no {w w':World} {A:Option Addr} {n:Nat} {ts:List Tsk} (h:RTsk w A n ts) (hb:But No w w'):RTsk w' A n ts :=
 ⟨h.len,h.max,λ hn=>by
  obtain⟨b,off,e,hl,hc⟩:=h.at_ hn
  refine⟨b,off,e,Nat.lt_of_lt_of_le hl hb.size,λ k x hx=>?_⟩
  obtain⟨h1,h2,h3,A',c',h4,h5,h6⟩:=hc k x hx
  rw[hb.cell hl (λ f=>f),hb.cell hl (λ f=>f),hb.cell hl (λ f=>f),hb.cell hl (λ f=>f)]
  exact⟨h1,h2,h3,A',c',h4,h5,h6.no hb⟩,h.fit⟩
def sysV (s:Sys) (A:Option Addr) (n c:Nat):Value:=.agg #[.int .i64 s.co,.int .i64 s.po,.int .i64 s.pr,.int .i64 s.re,.int .i64 s.sw,.int .i64 s.fi,.int .i64 s.la,.int .i64 s.rs,.slice A n c]
structure RSys (w:World) (A:Option Addr) (n c:Nat) (s:Sys):Prop where
 cap:n<=c
 ts:RTsk w A n s.ts
 fit:inR s.co/\inR s.po/\inR s.pr/\inR s.re/\inR s.sw/\inR s.fi/\inR s.la/\inR s.rs
theorem RSys.no {w w':World} {A:Option Addr} {n c:Nat} {s:Sys} (h:RSys w A n c s) (hb:But No w w'):RSys w' A n c s:=⟨h.cap,h.ts.no hb,h.fit⟩
section
variable {H:Type} {enc:TypeId × Value->H} {P:Program} {w:World} {base:Nat} {spare:Nat->Bool} {held:Bool} {tS tT tt tC tc:TypeId} {fS ft fc:Array Field}
theorem sec_of (T:SysT P tS tT tt tC tc fS ft fc) {n:Nat} {v:Value} {y:DataW H × List MemPlace} (h:DataW.trod enc P w base spare held n tC [v]=some y):∃ A l c,v=.slice A l.length c/\l.length<=c/\RSec w A l.length l:=by
 have hsz:fc.size=3:=by have:=congrArg Array.size T.yc;simpa using this
 rcases open_slice_fields T.uC T.uc T.oc (by rw[T.cc,hsz]) h with⟨hcs,_⟩ | ⟨a,len,cap,m,DD,Pl,hcs,_,hl,hm,hmm,_,hi⟩
 ·simp only[List.cons.injEq,and_true] at hcs
  exact⟨none, [],0,hcs,Nat.le_refl _,rfl,by simp,λ h=>absurd h (by simp),by simp⟩
 ·simp only[List.cons.injEq,and_true] at hcs
  unfold maxLen at hm
  have hlm:len<=m:=by rw[hmm];split <;> omega
  obtain⟨f0,g0,e0⟩:=type_at T.yc (j:=0) rfl
  obtain⟨f1,g1,e1⟩:=type_at T.yc (j:=1) rfl
  obtain⟨f2,g2,e2⟩:=type_at T.yc (j:=2) rfl
  obtain⟨F,hF⟩:=choose_lt (α:=Int × Int × Int) (n:=len) (p:=λ k z=>(w.cell? (a.add (k*3))=some (.int .i64 z.1)/\w.cell? (a.add (k*3+1))=some (.int .i64 z.2.1)/\w.cell? (a.add (k*3+2))=some (.int .i64 z.2.2))/\inR z.1/\inR z.2.1/\inR z.2.2) (λ k hk=>by
   obtain⟨ys,nn,_,_,_,hff⟩:=hi k (by omega)
   rw[hsz] at hff
   obtain⟨v0,y0,c0,_,t0⟩:=hff 0 f0 g0
   obtain⟨v1,y1,c1,_,t1⟩:=hff 1 f1 g1
   obtain⟨v2,y2,c2,_,t2⟩:=hff 2 f2 g2
   rw[e0] at t0
   rw[e1] at t1
   rw[e2] at t2
   obtain⟨z0,rfl,r0⟩:=int_in T.ui t0
   obtain⟨z1,rfl,r1⟩:=int_in T.ui t1
   obtain⟨z2,rfl,r2⟩:=int_in T.ui t2
   exact⟨(z0,z1,z2),⟨c0,c1,c2⟩,r0,r1,r2⟩)
  have hlen:((List.range len).map F).length=len:=by simp
  refine⟨some a,(List.range len).map F,cap,by rw[hlen];exact hcs,by rw[hlen];exact hl,rfl,by rw[hlen];omega,λ hn=>?_,λ x hx=>?_⟩
  ·rw[hlen] at hn
   obtain⟨b,off,spot⟩:=a
   have hspot:spot=none:=by simpa [Addr.add] using World.cell?_spot (hF 0 hn).1.1
   subst hspot
   refine⟨b,off,rfl,World.block_lt_of_cell? w _ (hF 0 hn).1.1,λ k x hx=>?_⟩
   have hk:k<len:=by have:=(List.getElem?_eq_some_iff.1 hx).1;rw[hlen] at this;exact this
   have hxe:F k=x:=by simpa [hk] using hx
   have:=(hF k hk).1
   rw[hxe] at this
   simp only[add_plain] at this
   simpa only[Nat.add_assoc] using this
  ·obtain⟨k,hk,rfl⟩:=List.mem_map.1 hx
   exact(hF k (List.mem_range.1 hk)).2
instance : Inhabited Tsk:=⟨⟨0,0,0, []⟩⟩
theorem tsk_of (T:SysT P tS tT tt tC tc fS ft fc) {n:Nat} {v:Value} {y:DataW H × List MemPlace} (h:DataW.trod enc P w base spare held n tT [v]=some y):∃ A l c,v=.slice A l.length c/\l.length<=c/\RTsk w A l.length l:=by
 have hsz:ft.size=4:=by have:=congrArg Array.size T.yt;simpa using this
 rcases open_slice_fields T.uT T.ut T.ot (by rw[T.ct,hsz]) h with⟨hcs,_⟩ | ⟨a,len,cap,m,DD,Pl,hcs,_,hl,hm,hmm,_,hi⟩
 ·simp only[List.cons.injEq,and_true] at hcs
  exact⟨none, [],0,hcs,Nat.le_refl _,rfl,by simp,λ h=>absurd h (by simp),by simp⟩
 ·simp only[List.cons.injEq,and_true] at hcs
  unfold maxLen at hm
  have hlm:len<=m:=by rw[hmm];split <;> omega
  obtain⟨f0,g0,e0⟩:=type_at T.yt (j:=0) rfl
  obtain⟨f1,g1,e1⟩:=type_at T.yt (j:=1) rfl
  obtain⟨f2,g2,e2⟩:=type_at T.yt (j:=2) rfl
  obtain⟨f3,g3,e3⟩:=type_at T.yt (j:=3) rfl
  obtain⟨F,hF⟩:=choose_lt (α:=Tsk) (n:=len) (p:=λ k z=>(w.cell? (a.add (k*4))=some (.int .i64 z.p)/\w.cell? (a.add (k*4+1))=some (.int .i64 z.d)/\w.cell? (a.add (k*4+2))=some (.int .i64 z.w)/\∃ A' c',w.cell? (a.add (k*4+3))=some (.slice A' z.secs.length c')/\z.secs.length<=c'/\RSec w A' z.secs.length z.secs)/\inR z.p/\inR z.d/\inR z.w) (λ k hk=>by
   obtain⟨ys,nn,_,_,_,hff⟩:=hi k (by omega)
   rw[hsz] at hff
   obtain⟨v0,y0,c0,_,t0⟩:=hff 0 f0 g0
   obtain⟨v1,y1,c1,_,t1⟩:=hff 1 f1 g1
   obtain⟨v2,y2,c2,_,t2⟩:=hff 2 f2 g2
   obtain⟨v3,y3,c3,_,t3⟩:=hff 3 f3 g3
   rw[e0] at t0
   rw[e1] at t1
   rw[e2] at t2
   rw[e3] at t3
   obtain⟨z0,rfl,r0⟩:=int_in T.ui t0
   obtain⟨z1,rfl,r1⟩:=int_in T.ui t1
   obtain⟨z2,rfl,r2⟩:=int_in T.ui t2
   obtain⟨A',l,c',rfl,q1,q2⟩:=sec_of T t3
   exact⟨⟨z0,z1,z2,l⟩,⟨c0,c1,c2,A',c',c3,q1,q2⟩,r0,r1,r2⟩)
  have hlen:((List.range len).map F).length=len:=by simp
  refine⟨some a,(List.range len).map F,cap,by rw[hlen];exact hcs,by rw[hlen];exact hl,rfl,by rw[hlen];omega,λ hn=>?_,λ x hx=>?_⟩
  ·rw[hlen] at hn
   obtain⟨b,off,spot⟩:=a
   have hspot:spot=none:=by simpa [Addr.add] using World.cell?_spot (hF 0 hn).1.1
   subst hspot
   refine⟨b,off,rfl,World.block_lt_of_cell? w _ (hF 0 hn).1.1,λ k x hx=>?_⟩
   have hk:k<len:=by have:=(List.getElem?_eq_some_iff.1 hx).1;rw[hlen] at this;exact this
   have hxe:F k=x:=by simpa [hk] using hx
   obtain⟨h1,h2,h3,A',c',h4,h5,h6⟩:=(hF k hk).1
   rw[hxe] at h1 h2 h3 h4 h5 h6
   simp only[add_plain] at h1 h2 h3 h4
   exact⟨h1,by rw[Nat.add_assoc];exact h2,by rw[Nat.add_assoc];exact h3,A',c',by rw[Nat.add_assoc];exact h4,h5,h6⟩
  ·obtain⟨k,hk,rfl⟩:=List.mem_map.1 hx
   exact(hF k (List.mem_range.1 hk)).2
theorem sys_of (T:SysT P tS tT tt tC tc fS ft fc) {r:Reach} {b0:Nat} {v:Value} {d:DataW H} {p:List MemPlace} (hv:Value.okWide P w r b0 tS v) (h:DataW.Trod enc P w base spare held tS v d p):∃ s A c,v=sysV s A s.ts.length c/\RSys w A s.ts.length c s:=by
 have hsz:fS.size=9:=by have:=congrArg Array.size T.yS;simpa using this
 obtain⟨l,n,rfl,hll,hg⟩:=open_agg_fields T.uS T.oS (by rw[T.cS,hsz]) hv h
 rw[hsz] at hll
 have num:∀ j,j<8->∃ z,l[j]? = some (.int .i64 z)/\inR z:=λ j hj=>by
  have hj':(#[3,3,3,3,3,3,3,3,tT]:Array TypeId)[j]? = some 3:=by
   have:j=0\/j=1\/j=2\/j=3\/j=4\/j=5\/j=6\/j=7:=by omega
   rcases this with rfl | rfl | rfl | rfl | rfl | rfl | rfl | rfl <;> rfl
  obtain⟨f,g,e⟩:=type_at T.yS hj'
  obtain⟨u,y,hu,ht⟩:=hg j f g
  rw[e] at ht
  obtain⟨z,rfl,hz⟩:=int_in T.ui ht
  exact⟨z,hu,hz⟩
 obtain⟨z0,a0,r0⟩:=num 0 (by omega)
 obtain⟨z1,a1,r1⟩:=num 1 (by omega)
 obtain⟨z2,a2,r2⟩:=num 2 (by omega)
 obtain⟨z3,a3,r3⟩:=num 3 (by omega)
 obtain⟨z4,a4,r4⟩:=num 4 (by omega)
 obtain⟨z5,a5,r5⟩:=num 5 (by omega)
 obtain⟨z6,a6,r6⟩:=num 6 (by omega)
 obtain⟨z7,a7,r7⟩:=num 7 (by omega)
 obtain⟨f8,g8,e8⟩:=type_at T.yS (j:=8) rfl
 obtain⟨u8,y8,a8,t8⟩:=hg 8 f8 g8
 rw[e8] at t8
 obtain⟨A,ts,c,rfl,q1,q2⟩:=tsk_of T t8
 have hl:l = [.int .i64 z0,.int .i64 z1,.int .i64 z2,.int .i64 z3,.int .i64 z4,.int .i64 z5,.int .i64 z6,.int .i64 z7,.slice A ts.length c]:=by
  apply List.ext_getElem?
  intro j
  by_cases hj:j<9
  ·have:j=0\/j=1\/j=2\/j=3\/j=4\/j=5\/j=6\/j=7\/j=8:=by omega
   rcases this with rfl | rfl | rfl | rfl | rfl | rfl | rfl | rfl | rfl
   ·exact a0
   ·exact a1
   ·exact a2
   ·exact a3
   ·exact a4
   ·exact a5
   ·exact a6
   ·exact a7
   ·exact a8
  ·rw[List.getElem?_eq_none (by omega),List.getElem?_eq_none (by simp;omega)]
 subst hl
 exact⟨⟨z0,z1,z2,z3,z4,z5,z6,z7,ts⟩,A,c,rfl,q1,q2,r0,r1,r2,r3,r4,r5,r6,r7⟩
end
end Go.Proofs.YtlecikdjoekknaaGreat
end
section
namespace Go.Proofs.YtlecikdjoekknaaGreat.pln
open Go.ChangeShapes Go.WideShapes Go.ChangeAt Go.RowKit Go.Deep
structure Pc where
 co:Int
 bu:Int
 de:Int
 pr:Int
 ti:Bool
def pc0 : Pc:=⟨0,0,0,0,false⟩
instance : Inhabited Pc:=⟨pc0⟩
def pcV (x:Pc):Value:=.agg #[.int .i64 x.co,.int .i64 x.bu,.int .i64 x.de,.int .i64 x.pr,.bool x.ti]
structure RPc (w:World) (A:Option Addr) (n:Nat) (l:List Pc):Prop where
 len:l.length=n
 max:n<=9223372036854775807
 at_:0<n->∃ b off,A=some ⟨b,off,none⟩/\b<w.heap.size/\∀ k x,l[k]? = some x->w.cell? ⟨b,off+k*5,none⟩=some (.int .i64 x.co)/\w.cell? ⟨b,off+k*5+1,none⟩=some (.int .i64 x.bu)/\w.cell? ⟨b,off+k*5+2,none⟩=some (.int .i64 x.de)/\w.cell? ⟨b,off+k*5+3,none⟩=some (.int .i64 x.pr)/\w.cell? ⟨b,off+k*5+4,none⟩=some (.bool x.ti)
 fit:∀ x ∈ l,inR x.co/\inR x.bu/\inR x.de/\inR x.pr
theorem RPc.but {w w':World} {A:Option Addr} {n:Nat} {l:List Pc} {S:Nat->Prop} (h:RPc w A n l) (hb:But S w w') (hs:0<n->∀ b off,A=some ⟨b,off,none⟩->¬S b):RPc w' A n l :=
 ⟨h.len,h.max,λ hn=>by
  obtain⟨b,off,e,hl,hc⟩:=h.at_ hn
  have h9:=hs hn b off e
  exact⟨b,off,e,Nat.lt_of_lt_of_le hl hb.size,λ k x hx=>by rw[hb.cell hl h9,hb.cell hl h9,hb.cell hl h9,hb.cell hl h9,hb.cell hl h9];exact hc k x hx⟩,h.fit⟩
theorem RPc.no {w w':World} {A:Option Addr} {n:Nat} {l:List Pc} (h:RPc w A n l) (hb:But No w w'):RPc w' A n l:=h.but hb (λ _ _ _ _ f=>f)
theorem RPc.at1 {w:World} {A:Option Addr} {n:Nat} {l:List Pc} (h:RPc w A n l) {k:Nat} {x:Pc} (hx:l[k]? = some x) :
  ∃ b off,A=some ⟨b,off,none⟩/\b<w.heap.size/\w.cell? ⟨b,off+k*5,none⟩=some (.int .i64 x.co)/\w.cell? ⟨b,off+k*5+1,none⟩=some (.int .i64 x.bu)/\w.cell? ⟨b,off+k*5+2,none⟩=some (.int .i64 x.de)/\w.cell? ⟨b,off+k*5+3,none⟩=some (.int .i64 x.pr)/\w.cell? ⟨b,off+k*5+4,none⟩=some (.bool x.ti):=by
 have hk:k<l.length:=(List.getElem?_eq_some_iff.1 hx).1
 obtain⟨b,off,e,hl,hc⟩:=h.at_ (by rw[<-h.len];omega)
 exact⟨b,off,e,hl,hc k x hx⟩
structure RPl (w:World) (A:Option Addr) (n:Nat) (L:List (List Pc)):Prop where
 len:L.length=n
 max:n<=9223372036854775807
 at_:0<n->∃ b off,A=some ⟨b,off,none⟩/\b<w.heap.size/\∀ k l,L[k]? = some l->∃ A' c',w.cell? ⟨b,off+k,none⟩=some (.slice A' l.length c')/\l.length<=c'/\RPc w A' l.length l
theorem RPl.no {w w':World} {A:Option Addr} {n:Nat} {L:List (List Pc)} (h:RPl w A n L) (hb:But No w w'):RPl w' A n L :=
 ⟨h.len,h.max,λ hn=>by
  obtain⟨b,off,e,hl,hc⟩:=h.at_ hn
  refine⟨b,off,e,Nat.lt_of_lt_of_le hl hb.size,λ k l hx=>?_⟩
  obtain⟨A',c',h1,h2,h3⟩:=hc k l hx
  exact⟨A',c',by rw[hb.cell hl (λ f=>f)];exact h1,h2,h3.no hb⟩⟩
theorem RPl.at1 {w:World} {A:Option Addr} {n:Nat} {L:List (List Pc)} (h:RPl w A n L) {k:Nat} {l:List Pc} (hx:L[k]? = some l) :
  ∃ b off A' c',A=some ⟨b,off,none⟩/\b<w.heap.size/\w.cell? ⟨b,off+k,none⟩=some (.slice A' l.length c')/\l.length<=c'/\RPc w A' l.length l:=by
 have hk:k<L.length:=(List.getElem?_eq_some_iff.1 hx).1
 obtain⟨b,off,e,hl,hc⟩:=h.at_ (by rw[<-h.len];omega)
 obtain⟨A',c',h1,h2,h3⟩:=hc k l hx
 exact⟨b,off,A',c',e,hl,h1,h2,h3⟩
theorem RPl.nil (w:World):RPl w none 0 []:=⟨rfl,by omega,λ h=>absurd h (by omega)⟩
end Go.Proofs.YtlecikdjoekknaaGreat.pln
end
section
namespace Go.Proofs.YtlecikdjoekknaaGreat
def wi (n a b:Int):Bool:=decide (a<=n) && decide (n<=b)
theorem wi_true {n a b:Int}:wi n a b=true ↔ a<=n/\n<=b:=by unfold wi;simp
theorem wi_false {n a b:Int}:wi n a b=false ↔ n<a\/b<n:=by
 unfold wi
 rw[Bool.and_eq_false_iff,decide_eq_false_iff_not,decide_eq_false_iff_not];omega
def vWhole (s:Sys):Bool:=wi s.co 1 8 && (wi s.po 1 2 && (wi s.pr 1 2 && (!(decide (s.pr=2) && !decide (s.po=1)) && (wi s.re 0 50 && (wi s.sw 0 50 && (wi s.fi 0 50 && (wi s.la 1 50 && (wi s.rs 0 8 && wi (s.ts.length:Int) 1 24))))))))
def vHead (t:Tsk):Bool:=wi t.p 1 1099511627776 && (wi t.d 1 t.p && (wi t.w 1 t.d && decide (t.secs.length<=4)))
def vSec (res w e:Int) (x:Int × Int × Int):Bool:=wi x.1 e w && (wi x.2.1 0 (res-1) && wi x.2.2 1 (w-x.1))
def vSecs (res w:Int):Nat->Int->List (Int × Int × Int)->Option Nat
 | _,_, []=>none
 | k,e,x :: r=>if vSec res w e x=true then vSecs res w (k+1) (x.1+x.2.2) r else some k
def vEnd : Nat->List (Int × Int × Int)->Int
 | 0,_=>0
 | k+1,l=>(l.getD k (0,0,0)).1+(l.getD k (0,0,0)).2.2
def vTsk (res:Int) (t:Tsk):Bool:=vHead t && (vSecs res t.w 0 0 t.secs).isNone
def vTasks (res:Int):Nat->List Tsk->Option (Nat × Int)
 | _, []=>none
 | i,t :: r =>
  if vHead t=true then
   match vSecs res t.w 0 0 t.secs with
   | some k=>some (i,(k:Int))
   | none=>vTasks res (i+1) r
  else some (i, -1)
def vFind (s:Sys):Bool × Int × Int :=
 if vWhole s=true then
  match vTasks s.rs 0 s.ts with
  | some (i,k)=>(true,(i:Int),k)
  | none=>(false, -1, -1)
 else (true, -1, -1)
def right (s:Sys):Bool:=vWhole s && s.ts.all (vTsk s.rs)
theorem vTasks_none (res:Int):∀ (i:Nat) (ts:List Tsk),(vTasks res i ts).isNone=ts.all (vTsk res)
 | _, []=>rfl
 | i,t :: r=>by
  have ih:=vTasks_none res (i+1) r
  unfold vTasks
  rw[List.all_cons]
  by_cases h:vHead t=true
  ·rw[if_pos h]
   cases hs:vSecs res t.w 0 0 t.secs with
   | none =>
    have:vTsk res t=true:=by unfold vTsk;rw[h,hs];rfl
    rw[this,Bool.true_and]
    exact ih
   | some k =>
    have:vTsk res t=false:=by unfold vTsk;rw[h,hs];rfl
    rw[this];rfl
  ·rw[if_neg h]
   have:vTsk res t=false:=by
    unfold vTsk
    rw[Bool.not_eq_true] at h
    rw[h];rfl
   rw[this];rfl
theorem right_find (s:Sys):right s = !(vFind s).1:=by
 unfold right vFind
 by_cases h:vWhole s=true
 ·rw[if_pos h,h,Bool.true_and,<-vTasks_none s.rs 0]
  cases vTasks s.rs 0 s.ts with
  | none=>rfl
  | some x=>rfl
 ·rw[if_neg h]
  rw[Bool.not_eq_true] at h
  rw[h];rfl
theorem vTasks_skip {res:Int}:∀ {i k:Nat} {ts:List Tsk},(∀ j t,j<k->ts[j]? = some t->vTsk res t=true)->vTasks res i ts=vTasks res (i+k) (ts.drop k)
 | i,0,ts,_=>by simp
 | i,k+1, [],_=>by simp[vTasks]
 | i,k+1,t :: r,h=>by
  have h0:=h 0 t (by omega) rfl
  have ih:=vTasks_skip (res:=res) (i:=i+1) (k:=k) (ts:=r) (λ j x hj hx=>h (j+1) x (by omega) (by simpa using hx))
  unfold vTsk at h0
  rw[Bool.and_eq_true] at h0
  rw[vTasks,if_pos h0.1]
  cases hs:vSecs res t.w 0 0 t.secs with
  | none=>show vTasks res (i+1) r=_;rw[ih,List.drop_succ_cons,show i+1+k=i+(k+1)by omega]
  | some q=>rw[hs] at h0;simp at h0
theorem vTasks_head {res:Int} {ts:List Tsk} {k:Nat} {t:Tsk} (h:∀ j t,j<k->ts[j]? = some t->vTsk res t=true) (ht:ts[k]? = some t) (hh:vHead t=false):vTasks res 0 ts=some (k, -1):=by
 rw[vTasks_skip h]
 obtain⟨hk,rfl⟩:=List.getElem?_eq_some_iff.1 ht
 rw[List.drop_eq_getElem_cons hk,vTasks,if_neg (by rw[hh];simp),Nat.zero_add]
theorem vTasks_sec {res:Int} {ts:List Tsk} {k q:Nat} {t:Tsk} (h:∀ j t,j<k->ts[j]? = some t->vTsk res t=true) (ht:ts[k]? = some t) (hh:vHead t=true) (hs:vSecs res t.w 0 0 t.secs=some q):vTasks res 0 ts=some (k,(q:Int)):=by
 rw[vTasks_skip h]
 obtain⟨hk,rfl⟩:=List.getElem?_eq_some_iff.1 ht
 rw[List.drop_eq_getElem_cons hk,vTasks,if_pos hh,hs,Nat.zero_add]
theorem vSecs_skip {res w:Int}:∀ {i k:Nat} {e:Int} {l:List (Int × Int × Int)},k<=l.length->(∀ j x,j<k->l[j]? = some x->vSec res w (if j=0 then e else vEnd j l) x=true)->vSecs res w i e l=vSecs res w (i+k) (if k=0 then e else vEnd k l) (l.drop k)
 | i,0,e,l,_,_=>by simp
 | i,k+1,e, [],hk,_=>by simp at hk
 | i,k+1,e,x :: r,hk,h=>by
  have h0:=h 0 x (by omega) rfl
  rw[if_pos rfl] at h0
  have ih:=vSecs_skip (res:=res) (w:=w) (i:=i+1) (k:=k) (e:=x.1+x.2.2) (l:=r) (by simpa using hk) (λ j y hj hy=>by
   have:=h (j+1) y (by omega) (by simpa using hy)
   rw[if_neg (by omega)] at this
   cases j with
   | zero=>rw[if_pos rfl];simpa [vEnd] using this
   | succ j=>rw[if_neg (by omega)];simpa [vEnd] using this)
  have e1:(if k+1=0 then e else vEnd (k+1) (x :: r))=(if k=0 then x.1+x.2.2 else vEnd k r):=by
   cases k with
   | zero=>simp[vEnd]
   | succ k=>simp[vEnd]
  rw[vSecs,if_pos h0,ih,List.drop_succ_cons,e1,show i+1+k=i+(k+1)by omega]
theorem vSecs_bad {res w:Int} {k:Nat} {l:List (Int × Int × Int)} {x:Int × Int × Int} (h:∀ j y,j<k->l[j]? = some y->vSec res w (vEnd j l) y=true) (hx:l[k]? = some x) (hb:vSec res w (vEnd k l) x=false):vSecs res w 0 0 l=some k:=by
 obtain⟨hk,rfl⟩:=List.getElem?_eq_some_iff.1 hx
 have e0:∀ j,(if j=0 then (0:Int) else vEnd j l)=vEnd j l:=λ j=>by cases j <;> simp[vEnd]
 rw[vSecs_skip (i:=0) (k:=k) (e:=0) (by omega) (λ j y hj hy=>by rw[e0];exact h j y hj hy),e0,List.drop_eq_getElem_cons hk,vSecs,if_neg (by rw[hb];simp),Nat.zero_add]
theorem vSecs_good {res w:Int} {l:List (Int × Int × Int)} (h:∀ j y,l[j]? = some y->vSec res w (vEnd j l) y=true):vSecs res w 0 0 l=none:=by
 have e0:∀ j,(if j=0 then (0:Int) else vEnd j l)=vEnd j l:=λ j=>by cases j <;> simp[vEnd]
 rw[vSecs_skip (i:=0) (k:=l.length) (e:=0) (Nat.le_refl _) (λ j y _ hy=>by rw[e0];exact h j y hy),List.drop_length,vSecs]
theorem right_parts {s:Sys} (h:right s=true):vWhole s=true/\∀ t ∈ s.ts,vTsk s.rs t=true:=by
 unfold right at h
 rw[Bool.and_eq_true,List.all_eq_true] at h
 exact h
theorem right_of {s:Sys} (h1:vWhole s=true) (h2:∀ t ∈ s.ts,vTsk s.rs t=true):right s=true:=by
 unfold right
 rw[Bool.and_eq_true,List.all_eq_true]
 exact⟨h1,h2⟩
end Go.Proofs.YtlecikdjoekknaaGreat
end
section
namespace Go.Proofs.YtlecikdjoekknaaGreat.pln
def lfN (la d:Int) (l:List Pc):Nat->Int
 | 0=>d
 | i+1=>lfN la d l i-(l.getD i pc0).bu-(la-1)
def smN (l:List Pc):Nat->Int
 | 0=>0
 | i+1=>smN l i+(l.getD i pc0).bu
theorem getD_some {l:List Pc} {i:Nat} {x:Pc} (h:l[i]? = some x):l.getD i pc0=x:=by simp[List.getD,h]
def bad1 (s:Sys) (t:Tsk) (last:Bool) (x:Pc):Bool:=decide (x.co<0) || (decide (s.co<=x.co) || (decide (x.bu<1) || (decide (t.w<x.bu) || ((!x.ti && !last) || (x.ti && decide (0<t.secs.length))))))
def bad2 (l:List Pc) (i:Nat) (x:Pc):Bool:=(l.take i).any (λ y=>decide (y.co=x.co))
def bad3 (lf:Int) (x:Pc):Bool:=(x.ti && !decide (x.de=x.bu)) || (!x.ti && (!decide (x.de=lf) || decide (lf<1)))
def badP (s:Sys) (t:Tsk) (l:List Pc) (i:Nat) (x:Pc):Bool:=bad1 s t (decide (i+1=l.length)) x || (bad2 l i x || bad3 (lfN s.la t.d l i) x)
def okN (s:Sys) (t:Tsk) (l:List Pc):Nat->Bool
 | 0=>true
 | i+1=>okN s t l i && !badP s t l i (l.getD i pc0)
def okL (s:Sys) (t:Tsk) (l:List Pc):Bool:=decide (l.length<=8) && (okN s t l l.length && (decide (l = []) || if (l.getD (l.length-1) pc0).ti=true then decide (smN l l.length<t.w) else decide (smN l l.length=t.w)))
theorem okN_le {s:Sys} {t:Tsk} {l:List Pc} {i j:Nat} (hij:i<=j) (h:okN s t l j=true):okN s t l i=true:=by
 induction j with
 | zero =>
    obtain rfl:i=0:=by omega
    exact h
 | succ j ih =>
  by_cases e:i=j+1
  ·rw[e];exact h
  ·rw[okN,Bool.and_eq_true] at h
   exact ih (by omega) h.1
theorem okN_next {s:Sys} {t:Tsk} {l:List Pc} {i:Nat} {x:Pc} (hx:l[i]? = some x) (h0:okN s t l i=true) (h:badP s t l i x=false):okN s t l (i+1)=true:=by rw[okN,getD_some hx,h0,h];rfl
theorem smN_next {l:List Pc} {i:Nat} {x:Pc} (hx:l[i]? = some x):smN l (i+1)=smN l i+x.bu:=by rw[smN,getD_some hx]
theorem lfN_next {la d:Int} {l:List Pc} {i:Nat} {x:Pc} (hx:l[i]? = some x):lfN la d l (i+1)=lfN la d l i-x.bu-(la-1):=by rw[lfN,getD_some hx]
theorem bad2_next {l:List Pc} {i k:Nat} {x y:Pc} (hk:k<i) (hy:l[k]? = some y) (e:y.co=x.co):bad2 l i x=true:=by
 unfold bad2
 rw[List.any_eq_true]
 exact⟨y,List.mem_iff_getElem?.2 ⟨k,by rw[List.getElem?_take,if_pos hk];exact hy⟩,by simp[e]⟩
theorem bad2_none {l:List Pc} {i:Nat} {x:Pc} (h:∀ k y,k<i->l[k]? = some y->y.co≠x.co):bad2 l i x=false:=by
 unfold bad2
 rw[List.any_eq_false]
 intro y hy
 obtain⟨k,hk⟩:=List.mem_iff_getElem?.1 hy
 rw[List.getElem?_take] at hk
 by_cases hki:k<i
 ·rw[if_pos hki] at hk;simpa using h k y hki hk
 ·rw[if_neg hki] at hk;cases hk
end Go.Proofs.YtlecikdjoekknaaGreat.pln
end
section
namespace Go.Proofs.YtlecikdjoekknaaGreat.ter
abbrev Sec := Int × Int × Int
def cr (co:Int) (wh:List Int) (i:Nat):Int:=if i<wh.length/\0<=wh.getD i 0/\wh.getD i 0<co then wh.getD i 0 else -1
theorem cr_cases (co:Int) (wh:List Int) (i:Nat):(cr co wh i = -1/\¬(i<wh.length/\0<=wh.getD i 0/\wh.getD i 0<co))\/(i<wh.length/\cr co wh i=wh.getD i 0/\0<=cr co wh i/\cr co wh i<co):=by
 unfold cr
 by_cases h:i<wh.length/\0<=wh.getD i 0/\wh.getD i 0<co
 ·rw[if_pos h];exact .inr ⟨h.1,rfl,h.2⟩
 ·rw[if_neg h];exact .inl ⟨rfl,h⟩
def mx : List Sec->Int->Int->Int
 | [],_,_=>0
 | x :: L,c,r=>if x.1=c/\x.2.1=r then max x.2.2 (mx L c r) else mx L c r
theorem mx_pos (L:List Sec) (c r:Int):0<=mx L c r:=by
 induction L with
 | nil=>exact Int.le_refl 0
 | cons x L ih=>rw[mx];split <;> omega
theorem mx_ge {L:List Sec} {x:Sec} (h:x ∈ L):x.2.2<=mx L x.1 x.2.1:=by
 induction L with
 | nil=>cases h
 | cons y L ih =>
  rw[mx]
  rcases List.mem_cons.1 h with rfl | h
  ·rw[if_pos ⟨rfl,rfl⟩];omega
  ·have:=ih h
   split <;> omega
theorem mx_is (L:List Sec) (c r:Int):mx L c r=0\/∃ x ∈ L,x.1=c/\x.2.1=r/\x.2.2=mx L c r:=by
 induction L with
 | nil=>exact .inl rfl
 | cons y L ih =>
  rw[mx]
  by_cases h:y.1=c/\y.2.1=r
  ·rw[if_pos h]
   by_cases hm:mx L c r<=y.2.2
   ·exact .inr ⟨y,by simp,h.1,h.2,by omega⟩
   ·have e:max y.2.2 (mx L c r)=mx L c r:=by omega
    rw[e]
    rcases ih with h0 | ⟨x,hx,h1⟩
    ·exact .inl h0
    ·exact .inr ⟨x,by simp[hx],h1⟩
  ·rw[if_neg h]
   rcases ih with h0 | ⟨x,hx,h1⟩
   ·exact .inl h0
   ·exact .inr ⟨x,by simp[hx],h1⟩
theorem mx_snoc (L:List Sec) (x:Sec) (c r:Int):mx (L ++ [x]) c r=if x.1=c/\x.2.1=r then max (mx L c r) x.2.2 else mx L c r:=by
 induction L with
 | nil=>simp only[List.nil_append,mx];split <;> omega
 | cons y L ih =>
  rw[List.cons_append,mx,ih,mx]
  split <;> split <;> omega
theorem mx_mono {L M:List Sec} (h:∀ x ∈ L,x ∈ M) (c r:Int):mx L c r<=mx M c r:=by
 rcases mx_is L c r with e | ⟨x,hx,h1,h2,h3⟩
 ·rw[e];exact mx_pos M c r
 ·rw[<-h3,<-h1,<-h2];exact mx_ge (h x hx)
theorem mx_le {L:List Sec} {m:Int} (hm:0<=m) (h:∀ x ∈ L,x.2.2<=m) (c r:Int):mx L c r<=m:=by
 rcases mx_is L c r with e | ⟨x,hx,_,_,h3⟩
 ·omega
 ·rw[<-h3];exact h x hx
theorem mx_none {L:List Sec} {c:Int} (h:∀ x ∈ L,x.1≠c) (r:Int):mx L c r=0:=by
 rcases mx_is L c r with e | ⟨x,hx,h1,_,_⟩
 ·exact e
 ·exact absurd h1 (h x hx)
def enS (c:Int) (l:List Sec):List Sec:=if c = -1 then [] else l.map λ x=>(c,x.2.1,x.2.2)
theorem enS_mem {c:Int} {l:List Sec} {x:Sec}:x ∈ enS c l ↔ c ≠ -1/\x.1=c/\∃ y ∈ l,y.2.1=x.2.1/\y.2.2=x.2.2:=by
 unfold enS
 by_cases h:c = -1
 ·rw[if_pos h];simp[h]
 ·rw[if_neg h,List.mem_map]
  constructor
  ·rintro⟨y,hy,rfl⟩;exact⟨h,rfl,y,hy,rfl,rfl⟩
  ·rintro⟨_,h1,y,hy,h2,h3⟩;exact⟨y,hy,by rw[<-h1,h2,h3]⟩
def secsOf (ts:List Tsk) (i:Nat):List Sec:=(ts[i]?.map (·.secs)).getD []
theorem secsOf_some {ts:List Tsk} {i:Nat} {t:Tsk} (h:ts[i]? = some t):secsOf ts i=t.secs:=by unfold secsOf;rw[h];rfl
def fl (co:Int) (wh:List Int) (ts:List Tsk):Nat->List Sec
 | 0=>[]
 | i+1=>fl co wh ts i ++ enS (cr co wh i) (secsOf ts i)
theorem fl_mem {co:Int} {wh:List Int} {ts:List Tsk} {n:Nat} {x:Sec}:x ∈ fl co wh ts n ↔ ∃ i,i<n/\x ∈ enS (cr co wh i) (secsOf ts i):=by
 induction n with
 | zero=>simp[fl]
 | succ n ih =>
  rw[fl,List.mem_append,ih]
  constructor
  ·rintro(⟨i,hi,h⟩ | h)
   ·exact⟨i,by omega,h⟩
   ·exact⟨n,by omega,h⟩
  ·rintro⟨i,hi,h⟩
   by_cases e:i=n
   ·exact .inr (e▸h)
   ·exact .inl ⟨i,by omega,h⟩
theorem fl_sec {co:Int} {wh:List Int} {ts:List Tsk} {n:Nat} {x:Sec} (h:x ∈ fl co wh ts n):∃ t ∈ ts,∃ y ∈ t.secs,y.2.1=x.2.1/\y.2.2=x.2.2:=by
 obtain⟨i,_,h⟩:=fl_mem.1 h
 obtain⟨_,_,y,hy,h3⟩:=enS_mem.1 h
 cases ht:ts[i]? with
 | none=>unfold secsOf at hy;rw[ht] at hy;cases hy
 | some t=>rw[secsOf_some ht] at hy;exact⟨t,List.mem_of_getElem? ht,y,hy,h3⟩
def sm (L:List Sec) (own r:Int):Nat->Int
 | 0=>0
 | n+1=>sm L own r n+if 0<mx L n r/\(n:Int)≠own then mx L n r+1 else 0
theorem sm_pos (L:List Sec) (own r:Int) (n:Nat):0<=sm L own r n:=by
 induction n with
 | zero=>exact Int.le_refl 0
 | succ n ih=>rw[sm];split <;> omega
theorem sm_le {L:List Sec} {m:Int} (hm:0<=m) (h:∀ x ∈ L,x.2.2<=m) (own r:Int) (n:Nat):sm L own r n<=(n:Int)*(m+1):=by
 induction n with
 | zero=>simp[sm]
 | succ n ih =>
  rw[sm]
  have:=mx_le hm h n r
  have e:((n+1:Nat):Int)*(m+1)=(n:Int)*(m+1)+(m+1):=by push_cast;rw[Int.add_mul];omega
  rw[e]
  split <;> omega
theorem sm_mono {L M:List Sec} (h:∀ x ∈ L,x ∈ M) (own r:Int) (n:Nat):sm L own r n<=sm M own r n:=by
 induction n with
 | zero=>exact Int.le_refl 0
 | succ n ih =>
  rw[sm,sm]
  have:=mx_mono h n r
  have:=mx_pos L n r
  have:=mx_pos M n r
  split <;> split <;> omega
theorem sm_alone {L:List Sec} {own:Int} (h:∀ x ∈ L,x.1=own) (r:Int) (n:Nat):sm L own r n=0:=by
 induction n with
 | zero=>rfl
 | succ n ih =>
  rw[sm,ih]
  by_cases e:(n:Int)=own
  ·rw[if_neg (λ h=>h.2 e)];rfl
  ·rw[if_neg (λ hh=>by rw[mx_none (λ x hx=>by rw[h x hx];exact λ e'=>e e'.symm)] at hh;omega)];rfl
def F (s:Sys) (wh:List Int):List Sec:=fl s.co wh s.ts s.ts.length
def tsk? (s:Sys) (task:Int):Option Tsk:=if right s=true/\0<=task then s.ts[task.toNat]? else none
def sec? (s:Sys) (task k:Int):Option Sec:=(tsk? s task).bind λ t=>if 0<=k then t.secs[k.toNat]? else none
def smV (s:Sys) (wh:List Int) (task:Nat) (r:Int):Int:=sm (F s wh) (cr s.co wh task) r s.co.toNat
def waitV (s:Sys) (wh:List Int) (task k:Int):Int:=match sec? s task k with | some x=>smV s wh task.toNat x.2.1 | none=>0
def holdV (s:Sys) (wh:List Int) (task k:Int):Int:=match sec? s task k with | some x=>smV s wh task.toNat x.2.1+x.2.2 | none=>0
def exN (s:Sys) (wh:List Int) (task:Nat) (l:List Sec):Nat->Int
 | 0=>0
 | n+1=>exN s wh task l n+smV s wh task (l.getD n (0,0,0)).2.1
def extraV (s:Sys) (wh:List Int) (task:Int):Int:=match tsk? s task with | some t=>exN s wh task.toNat t.secs t.secs.length | none=>0
theorem vSecs_all {res w:Int}:∀ {i:Nat} {e:Int} {l:List Sec},vSecs res w i e l=none->0<=e->∀ x ∈ l,(0<=x.2.1/\x.2.1<res)/\1<=x.2.2/\x.2.2<=w:=by
 intro i e l
 induction l generalizing i e with
 | nil=>intro _ _ x hx;cases hx
 | cons y l ih =>
  intro h he x hx
  rw[vSecs] at h
  by_cases hv:vSec res w e y=true
  ·rw[if_pos hv] at h
   have hp:e<=y.1/\y.1<=w/\(0<=y.2.1/\y.2.1<=res-1)/\1<=y.2.2/\y.2.2<=w-y.1:=by
    unfold vSec at hv
    simp only[Bool.and_eq_true,wi_true] at hv
    omega
   rcases List.mem_cons.1 hx with rfl | hx
   ·omega
   ·exact ih h (by omega) x hx
  ·rw[if_neg hv] at h;cases h
theorem right_sec {s:Sys} (h:right s=true) {t:Tsk} (ht:t ∈ s.ts) {x:Sec} (hx:x ∈ t.secs):(0<=x.2.1/\x.2.1<s.rs)/\1<=x.2.2/\x.2.2<=1099511627776:=by
 obtain⟨_,h2⟩:=right_parts h
 have h3:=h2 t ht
 unfold vTsk at h3
 simp only[Bool.and_eq_true,Option.isNone_iff_eq_none] at h3
 have h4:=vSecs_all h3.2 (Int.le_refl 0) x hx
 have h5:=h3.1
 unfold vHead at h5
 simp only[Bool.and_eq_true,wi_true,decide_eq_true_eq] at h5
 omega
theorem right_len {s:Sys} (h:right s=true):(1<=s.co/\s.co<=8)/\(0<=s.rs/\s.rs<=8)/\1<=s.ts.length/\s.ts.length<=24/\∀ t ∈ s.ts,t.secs.length<=4:=by
 obtain⟨h1,h2⟩:=right_parts h
 unfold vWhole at h1
 simp only[Bool.and_eq_true,wi_true] at h1
 obtain⟨a1,_,_,_,_,_,_,_,a2,a3⟩:=h1
 refine⟨a1,a2,by omega,by omega,λ t ht=>?_⟩
 have h3:=h2 t ht
 unfold vTsk vHead at h3
 simp only[Bool.and_eq_true,wi_true,decide_eq_true_eq] at h3
 omega
theorem F_le {s:Sys} (h:right s=true) (wh:List Int) {x:Sec} (hx:x ∈ F s wh):1<=x.2.2/\x.2.2<=1099511627776:=by
 obtain⟨t,ht,y,hy,_,e⟩:=fl_sec hx
 have:=right_sec h ht hy
 omega
theorem mxF_le {s:Sys} (h:right s=true) (wh:List Int) (c r:Int):mx (F s wh) c r<=1099511627776:=mx_le (by omega) (λ _ hx=>(F_le h wh hx).2) c r
theorem smV_le {s:Sys} (h:right s=true) (wh:List Int) (task:Nat) (r:Int):0<=smV s wh task r/\smV s wh task r<=8796093022216:=by
 refine⟨sm_pos _ _ _ _,?_⟩
 have h1:=sm_le (m:=1099511627776) (by omega) (λ _ hx=>(F_le h wh hx).2) (cr s.co wh task) r s.co.toNat
 have h2:=(right_len h).1
 unfold smV
 omega
theorem exN_le {s:Sys} (h:right s=true) (wh:List Int) (task:Nat) (l:List Sec) (n:Nat):0<=exN s wh task l n/\exN s wh task l n<=(n:Int)*8796093022216:=by
 induction n with
 | zero=>simp[exN]
 | succ n ih =>
  rw[exN]
  have:=smV_le h wh task (l.getD n (0,0,0)).2.1
  push_cast
  omega
end Go.Proofs.YtlecikdjoekknaaGreat.ter
end
section
namespace Go.Proofs.YtlecikdjoekknaaGreat.ky2
open Go.ChangeShapes Go.WideShapes Go.ChangeAt Go.RowKit
theorem row : (225:TypeId)<Tryz.prog.types.size:=of_decide_eq_true (by kernel_rfl)
theorem wide : (match Tryz.prog.underlying 225 with | some (.array _ _) | some (.struct _)=>true | _=>false)=true:=by kernel_rfl
theorem law : WideMaps.KeyLaw Tryz.prog 225:=deep_law_laid laidOut (m:=2) (by omega) row (by kernel_rfl) wide
theorem keyed : Maps.Keyed Tryz.prog 225:=Maps.Keyed.of_law law
theorem deep : Tryz.prog.keyType 225=true:=by kernel_rfl
theorem sizes : ∃ m,Tryz.prog.types.size=m+1:=⟨Tryz.prog.types.size-1,(Nat.succ_pred_eq_of_pos (Nat.lt_of_le_of_lt (Nat.zero_le _) row)).symm⟩
theorem cells2 : Tryz.prog.cellsOf 225=2:=by kernel_rfl
theorem cells1 : Tryz.prog.cellsOf 3=1:=by kernel_rfl
def kp (a b:Int):Lit:=.string (keyBytes [.int .i64 a,.int .i64 b])
theorem keyOf_two {a b:Int} (ha:(Lit.int .i64 a).wf=true) (hb:(Lit.int .i64 b).wf=true):keyOf Tryz.prog 225 (.agg #[.int .i64 a,.int .i64 b])=some (kp a b):=by
 obtain⟨m,hm⟩:=sizes
 have hf:(Value.agg #[.int .i64 a,.int .i64 b]).formed Tryz.prog 225=true:=by simp[Value.formed,Tryz.underlying225,cells2]
 unfold keyOf
 simp only[Tryz.underlying225]
 rw[if_pos (by simp[deep,hf]),hm]
 unfold Program.keyLits kp
 simp[Tryz.underlying225,Value.cells,cells2,cells1,Program.keyLits,Tryz.underlying3,ha,hb]
theorem kp_ne {a b c d:Int} (ha:inR a) (hb:inR b) (hc:inR c) (hd:inR d) (h:a≠c\/b≠d):kp a b≠kp c d:=by
 intro e
 have h1:=keyOf_two (wf_of ha) (wf_of hb)
 have h2:=keyOf_two (wf_of hc) (wf_of hd)
 rw[e] at h1
 have:=keyed.inj h1 h2
 simp at this
 rcases h with h | h
 ·exact h this.1
 ·exact h this.2
theorem kp_key (a b:Int):WideAt.IsKeyLit (kp a b):=trivial
abbrev OM (w:World) (m N:Nat) (D:DataW Unit):Prop:=w.ownsMap Tryz.prog 225 (plainElem Tryz.prog 3) m N D
theorem OM.but {w w':World} {m N:Nat} {D:DataW Unit} {S:Nat->Prop} (h:OM w m N D) (hb:But S w w') (hs:¬S m):OM w' m N D:=by
 have hl:=World.ownsMap.lt h
 obtain⟨es,clock,h1,h2⟩:=h
 exact⟨es,clock,by rw[hb.block m hl hs];exact h1,h2⟩
theorem _root_.Go.Proofs.YtlecikdjoekknaaGreat.But.turnedK {S:Nat->Prop} {a b c:World} {m:Nat} (h:But S a b) (ht:b.mapTurned c m) (hm:S m):But S a c :=
 h.grown ht.grown (λ k e=>.inl (by cases e;exact hm))
theorem zero3 (w:World):(zeroValue 3).run Tryz.prog w=.ok (.int .i64 0) w:=by kernel_rfl
def vl (a:Int):DataW Unit:=.lit (.int .i64 a)
theorem at_eq {D:DataW Unit} {k:Lit} {z:DataW Unit} {c i:Int} (h:D.atKey k z=.lit (.int .i64 c)) (h':∀ z,D.atKey k z=vl i):c=i:=by
 have:=h.symm.trans (h' z)
 unfold vl at this
 cases this;rfl
end Go.Proofs.YtlecikdjoekknaaGreat.ky2
end
