/- Part 2 of a proof: QaQ QaQ2 TkM Sy PlW VdM PlM. -/
import Derived.ChangeSame
import Derived.Deep.Fields
import Derived.Deep.Slices
import Derived.IntWalk
import Derived.Laws.BitsAllLaws
import Derived.OwnWalk
import Derived.SizedLaws
import Derived.Test.YtjfaiaipojfhgaaGreatR01
section
namespace Go.Proofs.YtjfaiaipojfhgaaGreat.qar
instance (x : Int):Decidable (inR x):=by unfold inR;exact inferInstance
def exV (x:Int):Int:=if inR x then x else 0
def exE (x:Int):Int:=if inR x then 0 else 2
theorem exV_in {x:Int} (h:inR x):exV x=x:=if_pos h
theorem exE_in {x:Int} (h:inR x):exE x=0:=if_pos h
theorem exV_out {x:Int} (h:¬inR x):exV x=0:=if_neg h
theorem exE_out {x:Int} (h:¬inR x):exE x=2:=if_neg h
theorem eqV {x y:Int} (h:inR x→y=x) (k:¬inR x→y=0):y=exV x:=by unfold exV;split;exact h ‹_›;exact k ‹_›
theorem eqE {x y:Int} (h:inR x→y=0) (k:¬inR x→y=2):y=exE x:=by unfold exE;split;exact h ‹_›;exact k ‹_›
def d0 (n:Int):Int:=n % 4294967296
def d1 (n:Int):Int:=n/4294967296 % 4294967296
def d2 (n:Int):Int:=n/18446744073709551616 % 4294967296
def d3 (n:Int):Int:=n/79228162514264337593543950336
def hi (n:Int):Int:=n/18446744073709551616
def lo (n:Int):Int:=n % 18446744073709551616
theorem hi_eq (n:Int):d3 n*4294967296+d2 n=hi n:=by unfold d3 d2 hi;omega
theorem lo_eq (n:Int):d1 n*4294967296+d0 n=lo n:=by unfold d1 d0 lo;omega
theorem d0_bd (n:Int):0≤d0 n∧d0 n<4294967296:=by unfold d0;omega
theorem d1_bd (n:Int):0≤d1 n∧d1 n<4294967296:=by unfold d1;omega
theorem d2_bd (n:Int):0≤d2 n∧d2 n<4294967296:=by unfold d2;omega
theorem d3_bd (n:Int) (h:0≤n) (k:n<340282366920938463463374607431768211456):0≤d3 n∧d3 n<4294967296:=by unfold d3;omega
theorem lo_bd (n:Int):0≤lo n∧lo n<18446744073709551616:=by unfold lo;omega
theorem hi_bd (n:Int) (h:0≤n) (k:n<340282366920938463463374607431768211456):0≤hi n∧hi n<18446744073709551616:=by unfold hi;omega
theorem or_mul (a b i m:Nat) (hm:m=2 ^ i) (h:a<m):(b*m) ||| a=b*m+a:=by
 subst hm
 rw[←Nat.shiftLeft_eq,Nat.shiftLeft_add_eq_or_of_lt h]
theorem or_join (a b:Int) (a0:0≤a) (a1:a<4294967296) (b0:0≤b) (b1:b<4294967296):bits BinOp.or IntKind.u64 (a*4294967296) b=a*4294967296+b:=by
 obtain⟨n,rfl⟩:=Int.eq_ofNat_of_zero_le a0
 obtain⟨m,rfl⟩:=Int.eq_ofNat_of_zero_le b0
 have e:((n:Int)*4294967296)=((n*4294967296:Nat):Int):=by omega
 rw[e,u64_or_nat _ _ (by omega) (by omega),or_mul m n 32 4294967296 (by decide) (by omega)]
 omega
theorem or_bit (a b:Int) (a0:0≤a) (a1:a<9223372036854775808) (b0:0≤b) (b1:b<2):bits BinOp.or IntKind.u64 (a*2) b=a*2+b:=by
 obtain⟨n,rfl⟩:=Int.eq_ofNat_of_zero_le a0
 obtain⟨m,rfl⟩:=Int.eq_ofNat_of_zero_le b0
 have e:((n:Int)*2)=((n*2:Nat):Int):=by omega
 rw[e,u64_or_nat _ _ (by omega) (by omega),or_mul m n 1 2 (by decide) (by omega)]
 omega
theorem school (a b:Int) (a0:0≤a) (a1:a<18446744073709551616) (b0:0≤b) (b1:b<18446744073709551616) (x0 x1 y0 y1 s0 s1 s2 s3:Int)
  (hx0:x0=a % 4294967296) (hx1:x1=a/4294967296 % 4294967296) (hy0:y0=b % 4294967296) (hy1:y1=b/4294967296 % 4294967296)
  (h0:s0=x0*y0) (h1:s1=x0*y1+s0/4294967296 % 4294967296) (h2:s2=x1*y0+s1 % 4294967296) (h3:s3=x1*y1+s1/4294967296 % 4294967296+s2/4294967296 % 4294967296) :
  s0 % 4294967296=d0 (a*b)∧s2 % 4294967296=d1 (a*b)∧s3 % 4294967296=d2 (a*b)∧s3/4294967296 % 4294967296=d3 (a*b)
  ∧ (0≤s0∧s0<18446744073709551616)∧(0≤s1∧s1<18446744073709551616)∧(0≤s2∧s2<18446744073709551616)∧(0≤s3∧s3<18446744073709551616):=by
 have ea:a=x1*4294967296+x0:=by omega
 have eb:b=y1*4294967296+y0:=by omega
 have bx0:0≤x0∧x0≤4294967295:=by omega
 have bx1:0≤x1∧x1≤4294967295:=by omega
 have by0:0≤y0∧y0≤4294967295:=by omega
 have by1:0≤y1∧y1≤4294967295:=by omega
 have em:a*b=x1*y1*18446744073709551616+(x0*y1+x1*y0)*4294967296+x0*y0:=by
  rw[ea,eb];simp only[Int.add_mul,Int.mul_add];
  have q1:x1*4294967296*(y1*4294967296)=x1*y1*18446744073709551616:=by rw[Int.mul_assoc,Int.mul_left_comm 4294967296 y1 4294967296,←Int.mul_assoc];rfl
  have q2:x1*4294967296*y0=x1*y0*4294967296:=by rw[Int.mul_assoc,Int.mul_comm 4294967296 y0,←Int.mul_assoc]
  have q3:x0*(y1*4294967296)=x0*y1*4294967296:=by rw[Int.mul_assoc]
  rw[q1,q2,q3];omega
 have m00:0≤x0*y0∧x0*y0≤4294967295*4294967295:=⟨Int.mul_nonneg bx0.1 by0.1,Int.mul_le_mul bx0.2 by0.2 by0.1 (by omega)⟩
 have m01:0≤x0*y1∧x0*y1≤4294967295*4294967295:=⟨Int.mul_nonneg bx0.1 by1.1,Int.mul_le_mul bx0.2 by1.2 by1.1 (by omega)⟩
 have m10:0≤x1*y0∧x1*y0≤4294967295*4294967295:=⟨Int.mul_nonneg bx1.1 by0.1,Int.mul_le_mul bx1.2 by0.2 by0.1 (by omega)⟩
 have m11:0≤x1*y1∧x1*y1≤4294967295*4294967295:=⟨Int.mul_nonneg bx1.1 by1.1,Int.mul_le_mul bx1.2 by1.2 by1.1 (by omega)⟩
 rw[em]
 generalize x0*y0=X at *
 generalize x0*y1=Y at *
 generalize x1*y0=Z at *
 generalize x1*y1=U at *
 clear hx0 hx1 hy0 hy1 ea eb em
 have t0:0≤s0∧s0<18446744073709551616:=by omega
 have t1:0≤s1∧s1<18446744073709551616:=by omega
 have t2:0≤s2∧s2<18446744073709551616:=by omega
 have t3:0≤s3∧s3<18446744073709551616:=by omega
 have eN:U*18446744073709551616+(Y+Z)*4294967296+X=s3*18446744073709551616+(s2 % 4294967296)*4294967296+s0 % 4294967296:=by omega
 rw[eN]
 unfold d0 d1 d2 d3
 refine⟨by omega,by omega,by omega,by omega,t0,t1,t2,t3⟩
end Go.Proofs.YtjfaiaipojfhgaaGreat.qar
end
section
namespace Go.Proofs.YtjfaiaipojfhgaaGreat.qar
theorem divmod_of {x c q r:Int} (h:q*c+r=x) (r0:0≤r) (r1:r<c):x/c=q∧x % c=r:=by
 have hc:0<c:=by omega
 have:=(Int.ediv_emod_unique (a:=x) (b:=c) (r:=r) (q:=q) hc).2 ⟨by rw[Int.mul_comm c q];omega,r0,r1⟩
 exact this
def nk (L:Int):Nat→Int
 | 0=>L
 | k+1=>nk L k*2 % 18446744073709551616
def Mk (H L:Int):Nat→Int
 | 0=>H
 | k+1=>Mk H L k*2+nk L k/9223372036854775808
theorem nk_bd (L:Int) (h:0≤L∧L<18446744073709551616):∀ k,0≤nk L k∧nk L k<18446744073709551616
 | 0=>h
 | k+1=>by unfold nk;omega
theorem Mk_eq (H L:Int) (h:0≤L∧L<18446744073709551616):∀ k,Mk H L k*18446744073709551616+nk L k=(H*18446744073709551616+L)*2 ^ k
 | 0=>by simp[Mk,nk]
 | k+1=>by
  have:=Mk_eq H L h k
  have b:=nk_bd L h k
  rw[Int.pow_succ,←Int.mul_assoc,←this]
  show (Mk H L k*2+nk L k/9223372036854775808)*18446744073709551616+nk L k*2 % 18446744073709551616=_
  omega
structure DivRel (H L c:Int) (k:Nat) (q r n:Int):Prop where
 eq:q*c+r=Mk H L k
 r0:0≤r
 r1:r<c
 q0:0≤q
 q1:q<2 ^ k
 n:n=nk L k
theorem DivRel.start {H L c:Int} (h0:0≤H) (h1:H<c):DivRel H L c 0 0 H L:=⟨by simp[Mk],h0,h1,by omega,by simp,rfl⟩
theorem DivRel.nbd {H L c q r n:Int} {k:Nat} (h:DivRel H L c k q r n) (hL:0≤L∧L<18446744073709551616):0≤n∧n<18446744073709551616:=by
 rw[h.n];exact nk_bd L hL k
theorem DivRel.qbd {H L c q r n:Int} {k:Nat} (h:DivRel H L c k q r n) (hk:k<64):q<9223372036854775808:=by
 have hp:(2:Nat) ^ k≤2 ^ 63:=Nat.pow_le_pow_right (by decide) (by omega)
 have:(2:Int) ^ k≤2 ^ 63:=by exact_mod_cast hp
 have:=h.q1
 omega
theorem DivRel.less {H L c q r n:Int} {k:Nat} (h:DivRel H L c k q r n) (hs:r*2+n/9223372036854775808<c) (hL:0≤L∧L<18446744073709551616) :
  DivRel H L c (k+1) (q*2) (r*2+n/9223372036854775808) (n*2 % 18446744073709551616):=by
 have hn:=h.nbd hL
 have h0:=h.r0
 refine⟨?_,by omega,hs,by have:=h.q0;omega,?_,?_⟩
 ·unfold Mk;rw[←h.eq,←h.n,Int.add_mul,Int.mul_right_comm];omega
 ·have:=h.q1;rw[Int.pow_succ];omega
 ·rw[h.n];rfl
theorem DivRel.more {H L c q r n:Int} {k:Nat} (h:DivRel H L c k q r n) (hs:c≤r*2+n/9223372036854775808) (hL:0≤L∧L<18446744073709551616) :
  DivRel H L c (k+1) (q*2+1) (r*2+n/9223372036854775808-c) (n*2 % 18446744073709551616):=by
 have hn:=h.nbd hL
 have h0:=h.r0
 have h1:=h.r1
 refine⟨?_,by omega,by omega,by have:=h.q0;omega,?_,?_⟩
 ·unfold Mk;rw[←h.eq,←h.n,Int.add_mul,Int.add_mul,Int.mul_right_comm];omega
 ·have:=h.q1;rw[Int.pow_succ];omega
 ·rw[h.n];rfl
theorem DivRel.done {H L c q r n:Int} (h:DivRel H L c 64 q r n) (hL:0≤L∧L<18446744073709551616) :
  (H*18446744073709551616+L)/c=q∧(H*18446744073709551616+L) % c=r:=by
 refine divmod_of ?_ h.r0 h.r1
 rw[h.eq]
 have e:=Mk_eq H L hL 64
 have b:=nk_bd L hL 64
 have p:(2:Int) ^ 64=18446744073709551616:=by decide
 rw[p] at e
 omega
def mdQ (a b c:Int) (up:Bool):Int:=if up=true∧a*b % c≠0 then a*b/c+1 else a*b/c
def mdV (a b c:Int) (up:Bool):Int:=if a<0∨b<0∨c≤0 then 0 else exV (mdQ a b c up)
def mdE (a b c:Int) (up:Bool):Int:=if a<0∨b<0∨c≤0 then 1 else exE (mdQ a b c up)
theorem md_bad {a b c:Int} {up:Bool} (h:a<0∨b<0∨c≤0):mdV a b c up=0∧mdE a b c up=1:=⟨if_pos h,if_pos h⟩
theorem md_good {a b c:Int} {up:Bool} (h0:0≤a) (h1:0≤b) (h2:0<c):mdV a b c up=exV (mdQ a b c up)∧mdE a b c up=exE (mdQ a b c up) :=
 ⟨if_neg (by omega),if_neg (by omega)⟩
def cdV (a b:Int):Int:=if a<0∨b≤0 then 0 else if a % b=0 then a/b else a/b+1
def cdE (a b:Int):Int:=if a<0∨b≤0 then 1 else 0
end Go.Proofs.YtjfaiaipojfhgaaGreat.qar
end
section
namespace Go.Proofs.YtjfaiaipojfhgaaGreat
structure Tsk where
 p:Int
 d:Int
 w:Int
 secs:List (Int × Int × Int)
structure Sys where
 co:Int
 po:Int
 pr:Int
 re:Int
 sw:Int
 fi:Int
 la:Int
 rs:Int
 ts:List Tsk
def secN (x:Int × Int × Int):List Int:=[x.1,x.2.1,x.2.2]
def tskN (t:Tsk):List Int:=t.p :: t.d :: t.w :: (t.secs.length:Int) :: t.secs.flatMap secN
def nums (s:Sys):List Int:=1 :: s.co :: s.po :: s.pr :: s.re :: s.sw :: s.fi :: s.la :: s.rs :: (s.ts.length:Int) :: s.ts.flatMap tskN
structure Fit (s:Sys):Prop where
 tasks:s.ts.length≤24
 secs:∀ t ∈ s.ts,t.secs.length≤4
 pos:∀ z ∈ nums s,0≤z
end Go.Proofs.YtjfaiaipojfhgaaGreat
end
section
namespace Go.Proofs.YtjfaiaipojfhgaaGreat
open Go.ChangeShapes Go.WideShapes Go.ChangeAt Go.RowKit Go.Deep
section
variable {H:Type} {enc:TypeId × Value→H} {P:Program} {w:World} {base:Nat} {spare:Nat→Bool} {held:Bool}
theorem open_slice_fields {t e:TypeId} {fs:Array Field} {fuel:Nat} {cs:List Value} {x:DataW H × List MemPlace} (ht:P.underlying t=some (.slice e)) (he:P.underlying e=some (.struct fs))
  (hone:oneCellFields P fs=true) (hC:P.cellsOf e=fs.size) (h:DataW.trod enc P w base spare held fuel t cs=some x) :
  (cs = [.slice none 0 0]∧x=(.nil, [])) ∨
  ∃ (a:Addr) (len cap m:Nat) (D:Nat→DataW H) (Pl:Nat→List MemPlace),cs = [.slice (some a) len cap]∧base≤a.block∧len≤cap∧cap≤maxLen∧m=(if spare a.block then cap else len) ∧
   x=(.slice ((List.range len).map D) ((List.range (m-len)).map fun j=>D (len+j)),MemPlace.row a (m*fs.size) ++ (List.range m).flatMap Pl) ∧
   ∀ i,i<m→∃ (ys:List (DataW H × List MemPlace)) (n:Nat),D i=.agg (ys.map (·.1))∧Pl i=ys.flatMap (·.2)∧ys.length=fs.size ∧
    ∀ (j:Nat) (f:Field),fs[j]? = some f→∃ (v:Value) (y:DataW H × List MemPlace),w.cell? (a.add (i*fs.size+j))=some v∧ys[j]? = some y∧DataW.trod enc P w base spare held n f.type [v]=some y:=by
 rcases open_slice ht h with h0 | ⟨a,len,cap,m,n,D,Pl,hcs,hb,hl,hm,hmm,hx,hi⟩
 ·exact .inl h0
 ·refine .inr ⟨a,len,cap,m,D,Pl,hcs,hb,hl,hm,hmm,by rw[hC] at hx;exact hx,fun i him=>?_⟩
  obtain⟨cs',hc,ht'⟩:=hi i him
  rw[hC] at hc
  obtain⟨ys,n',hn',hy,hlen,hyl,hf⟩:=DataW.trod_struct he ht'
  obtain⟨_,hcl,hat⟩:=World.cells?_some hc
  simp only[Prod.mk.injEq] at hy
  refine⟨ys,n',hy.1,hy.2,hyl,fun j f hj=>?_⟩
  obtain⟨ho,hk⟩:=hone_of hone j f hj
  have hjl:j<fs.size:=(Array.getElem?_eq_some_iff.1 hj).1
  have hcell:=hat j hjl
  have hv:cs'[j]? = some (cs'[j]'(by omega)):=List.getElem?_eq_getElem (by omega)
  have h1:=hf j f hj
  rw[ho,hk] at h1
  have hone':(cs'.drop j).take 1 = [cs'[j]'(by omega)]:=by
   rw[List.drop_eq_getElem_cons (by omega)]
   rfl
  rw[hone'] at h1
  have hys:ys[j]? = some (ys[j]'(by omega)):=List.getElem?_eq_getElem (by omega)
  refine⟨_,_,?_,hys,h1.trans hys⟩
  rw[←Go.Deep.add_add,hcell,hv]
theorem open_agg_fields {r:Reach} {b0:Nat} {t:TypeId} {fs:Array Field} {v:Value} {d:DataW H} {p:List MemPlace} (hs:P.underlying t=some (.struct fs)) (hone:oneCellFields P fs=true) (hC:P.cellsOf t=fs.size)
  (hv:Value.okWide P w r b0 t v) (h:DataW.Trod enc P w base spare held t v d p) :
  ∃ (l:List Value) (n:Nat),v=.agg l.toArray∧l.length=fs.size∧∀ (j:Nat) (f:Field),fs[j]? = some f→∃ (u:Value) (y:DataW H × List MemPlace),l[j]? = some u∧DataW.trod enc P w base spare held n f.type [u]=some y:=by
 obtain⟨cs,rfl,hsz⟩:=okWide_struct hs hv
 obtain⟨l⟩:=cs
 obtain⟨fuel,hf⟩:=h
 obtain⟨xs,n,_,hx,_,hlen,hg⟩:=DataW.trod_struct hs hf
 have hll:l.length=fs.size:=by rw[←hC,←hsz];rfl
 refine⟨l,n,rfl,hll,fun j f hj=>?_⟩
 obtain⟨ho,hk⟩:=hone_of hone j f hj
 have hjl:j<fs.size:=(Array.getElem?_eq_some_iff.1 hj).1
 have h1:=hg j f hj
 rw[ho,hk] at h1
 have hone':(l.drop j).take 1 = [l[j]'(by omega)]:=by
  rw[List.drop_eq_getElem_cons (by omega)]
  rfl
 have h2:DataW.trod enc P w base spare held n f.type [l[j]'(by omega)]=xs[j]?:=by rw[←hone'];simpa [Value.cells] using h1
 have hys:xs[j]? = some (xs[j]'(by omega)):=List.getElem?_eq_getElem (by omega)
 exact⟨_,_,List.getElem?_eq_getElem (by omega),h2.trans hys⟩
theorem type_at {fs:Array Field} {ts:Array TypeId} (h:fs.map (·.type)=ts) {j:Nat} {t:TypeId} (hj:ts[j]? = some t):∃ f,fs[j]? = some f∧f.type=t:=by
 rw[←h,Array.getElem?_map] at hj
 cases hf:fs[j]? with
 | none=>rw[hf] at hj;cases hj
 | some f=>rw[hf] at hj;exact⟨f,rfl,by simpa using hj⟩
theorem int_in {n:Nat} {v:Value} {y:DataW H × List MemPlace} (hi:P.underlying 3=some (.int .i64)) (h:DataW.trod enc P w base spare held n 3 [v]=some y):∃ z,v=.int .i64 z∧inR z:=by
 obtain⟨z,hz⟩:=DataW.trod_int hi h
 simp only[List.cons.injEq,and_true] at hz
 exact⟨z,hz.1,inR_of hz.2.2⟩
end
structure SysT (P:Program) (tS tT tt tC tc:TypeId) (fS ft fc:Array Field):Prop where
 uS:P.underlying tS=some (.struct fS)
 uT:P.underlying tT=some (.slice tt)
 ut:P.underlying tt=some (.struct ft)
 uC:P.underlying tC=some (.slice tc)
 uc:P.underlying tc=some (.struct fc)
 ui:P.underlying 3=some (.int .i64)
 oS:oneCellFields P fS=true
 ot:oneCellFields P ft=true
 oc:oneCellFields P fc=true
 cS:P.cellsOf tS=9
 ct:P.cellsOf tt=4
 cc:P.cellsOf tc=3
 yS:fS.map (·.type) = #[3,3,3,3,3,3,3,3,tT]
 yt:ft.map (·.type) = #[3,3,3,tC]
 yc:fc.map (·.type) = #[3,3,3]
structure RSec (w:World) (A:Option Addr) (n:Nat) (l:List (Int × Int × Int)):Prop where
 len:l.length=n
 max:n≤9223372036854775807
 at_:0<n→∃ b off,A=some ⟨b,off,none⟩∧b<w.heap.size∧∀ k x,l[k]? = some x→w.cell? ⟨b,off+k*3,none⟩=some (.int .i64 x.1)∧w.cell? ⟨b,off+k*3+1,none⟩=some (.int .i64 x.2.1)∧w.cell? ⟨b,off+k*3+2,none⟩=some (.int .i64 x.2.2)
 fit:∀ x ∈ l,inR x.1∧inR x.2.1∧inR x.2.2
theorem RSec.no {w w':World} {A:Option Addr} {n:Nat} {l:List (Int × Int × Int)} (h:RSec w A n l) (hb:But No w w'):RSec w' A n l :=
 ⟨h.len,h.max,fun hn=>by
  obtain⟨b,off,e,hl,hc⟩:=h.at_ hn
  exact⟨b,off,e,Nat.lt_of_lt_of_le hl hb.size,fun k x hx=>by rw[hb.cell hl (fun f=>f),hb.cell hl (fun f=>f),hb.cell hl (fun f=>f)];exact hc k x hx⟩,h.fit⟩
structure RTsk (w:World) (A:Option Addr) (n:Nat) (ts:List Tsk):Prop where
 len:ts.length=n
 max:n≤9223372036854775807
 at_:0<n→∃ b off,A=some ⟨b,off,none⟩∧b<w.heap.size∧∀ k t,ts[k]? = some t→w.cell? ⟨b,off+k*4,none⟩=some (.int .i64 t.p)∧w.cell? ⟨b,off+k*4+1,none⟩=some (.int .i64 t.d)∧w.cell? ⟨b,off+k*4+2,none⟩=some (.int .i64 t.w) ∧
  ∃ A' c',w.cell? ⟨b,off+k*4+3,none⟩=some (.slice A' t.secs.length c')∧t.secs.length≤c'∧RSec w A' t.secs.length t.secs
 fit:∀ t ∈ ts,inR t.p∧inR t.d∧inR t.w
theorem RTsk.no {w w':World} {A:Option Addr} {n:Nat} {ts:List Tsk} (h:RTsk w A n ts) (hb:But No w w'):RTsk w' A n ts :=
 ⟨h.len,h.max,fun hn=>by
  obtain⟨b,off,e,hl,hc⟩:=h.at_ hn
  refine⟨b,off,e,Nat.lt_of_lt_of_le hl hb.size,fun k x hx=>?_⟩
  obtain⟨h1,h2,h3,A',c',h4,h5,h6⟩:=hc k x hx
  rw[hb.cell hl (fun f=>f),hb.cell hl (fun f=>f),hb.cell hl (fun f=>f),hb.cell hl (fun f=>f)]
  exact⟨h1,h2,h3,A',c',h4,h5,h6.no hb⟩,h.fit⟩
def sysV (s:Sys) (A:Option Addr) (n c:Nat):Value:=.agg #[.int .i64 s.co,.int .i64 s.po,.int .i64 s.pr,.int .i64 s.re,.int .i64 s.sw,.int .i64 s.fi,.int .i64 s.la,.int .i64 s.rs,.slice A n c]
structure RSys (w:World) (A:Option Addr) (n c:Nat) (s:Sys):Prop where
 cap:n≤c
 ts:RTsk w A n s.ts
 fit:inR s.co∧inR s.po∧inR s.pr∧inR s.re∧inR s.sw∧inR s.fi∧inR s.la∧inR s.rs
theorem RSys.no {w w':World} {A:Option Addr} {n c:Nat} {s:Sys} (h:RSys w A n c s) (hb:But No w w'):RSys w' A n c s:=⟨h.cap,h.ts.no hb,h.fit⟩
section
variable {H:Type} {enc:TypeId × Value→H} {P:Program} {w:World} {base:Nat} {spare:Nat→Bool} {held:Bool} {tS tT tt tC tc:TypeId} {fS ft fc:Array Field}
theorem sec_of (T:SysT P tS tT tt tC tc fS ft fc) {n:Nat} {v:Value} {y:DataW H × List MemPlace} (h:DataW.trod enc P w base spare held n tC [v]=some y):∃ A l c,v=.slice A l.length c∧l.length≤c∧RSec w A l.length l:=by
 have hsz:fc.size=3:=by have:=congrArg Array.size T.yc;simpa using this
 rcases open_slice_fields T.uC T.uc T.oc (by rw[T.cc,hsz]) h with⟨hcs,_⟩ | ⟨a,len,cap,m,DD,Pl,hcs,_,hl,hm,hmm,_,hi⟩
 ·simp only[List.cons.injEq,and_true] at hcs
  exact⟨none, [],0,hcs,Nat.le_refl _,rfl,by simp,fun h=>absurd h (by simp),by simp⟩
 ·simp only[List.cons.injEq,and_true] at hcs
  unfold maxLen at hm
  have hlm:len≤m:=by rw[hmm];split <;> omega
  obtain⟨f0,g0,e0⟩:=type_at T.yc (j:=0) rfl
  obtain⟨f1,g1,e1⟩:=type_at T.yc (j:=1) rfl
  obtain⟨f2,g2,e2⟩:=type_at T.yc (j:=2) rfl
  obtain⟨F,hF⟩:=choose_lt (α:=Int × Int × Int) (n:=len) (p:=fun k z=>(w.cell? (a.add (k*3))=some (.int .i64 z.1)∧w.cell? (a.add (k*3+1))=some (.int .i64 z.2.1)∧w.cell? (a.add (k*3+2))=some (.int .i64 z.2.2))∧inR z.1∧inR z.2.1∧inR z.2.2) (fun k hk=>by
   obtain⟨ys,nn,_,_,_,hff⟩:=hi k (by omega)
   rw[hsz] at hff
   obtain⟨v0,y0,c0,_,t0⟩:=hff 0 f0 g0
   obtain⟨v1,y1,c1,_,t1⟩:=hff 1 f1 g1
   obtain⟨v2,y2,c2,_,t2⟩:=hff 2 f2 g2
   rw[e0] at t0
   rw[e1] at t1
   rw[e2] at t2
   obtain⟨z0,rfl,r0⟩:=int_in T.ui t0
   obtain⟨z1,rfl,r1⟩:=int_in T.ui t1
   obtain⟨z2,rfl,r2⟩:=int_in T.ui t2
   exact⟨(z0,z1,z2),⟨c0,c1,c2⟩,r0,r1,r2⟩)
  have hlen:((List.range len).map F).length=len:=by simp
  refine⟨some a,(List.range len).map F,cap,by rw[hlen];exact hcs,by rw[hlen];exact hl,rfl,by rw[hlen];omega,fun hn=>?_,fun x hx=>?_⟩
  ·rw[hlen] at hn
   obtain⟨b,off,spot⟩:=a
   have hspot:spot=none:=by simpa [Addr.add] using World.cell?_spot (hF 0 hn).1.1
   subst hspot
   refine⟨b,off,rfl,World.block_lt_of_cell? w _ (hF 0 hn).1.1,fun k x hx=>?_⟩
   have hk:k<len:=by have:=(List.getElem?_eq_some_iff.1 hx).1;rw[hlen] at this;exact this
   have hxe:F k=x:=by simpa [hk] using hx
   have:=(hF k hk).1
   rw[hxe] at this
   simp only[add_plain] at this
   simpa only[Nat.add_assoc] using this
  ·obtain⟨k,hk,rfl⟩:=List.mem_map.1 hx
   exact(hF k (List.mem_range.1 hk)).2
instance : Inhabited Tsk:=⟨⟨0,0,0, []⟩⟩
theorem tsk_of (T:SysT P tS tT tt tC tc fS ft fc) {n:Nat} {v:Value} {y:DataW H × List MemPlace} (h:DataW.trod enc P w base spare held n tT [v]=some y):∃ A l c,v=.slice A l.length c∧l.length≤c∧RTsk w A l.length l:=by
 have hsz:ft.size=4:=by have:=congrArg Array.size T.yt;simpa using this
 rcases open_slice_fields T.uT T.ut T.ot (by rw[T.ct,hsz]) h with⟨hcs,_⟩ | ⟨a,len,cap,m,DD,Pl,hcs,_,hl,hm,hmm,_,hi⟩
 ·simp only[List.cons.injEq,and_true] at hcs
  exact⟨none, [],0,hcs,Nat.le_refl _,rfl,by simp,fun h=>absurd h (by simp),by simp⟩
 ·simp only[List.cons.injEq,and_true] at hcs
  unfold maxLen at hm
  have hlm:len≤m:=by rw[hmm];split <;> omega
  obtain⟨f0,g0,e0⟩:=type_at T.yt (j:=0) rfl
  obtain⟨f1,g1,e1⟩:=type_at T.yt (j:=1) rfl
  obtain⟨f2,g2,e2⟩:=type_at T.yt (j:=2) rfl
  obtain⟨f3,g3,e3⟩:=type_at T.yt (j:=3) rfl
  obtain⟨F,hF⟩:=choose_lt (α:=Tsk) (n:=len) (p:=fun k z=>(w.cell? (a.add (k*4))=some (.int .i64 z.p)∧w.cell? (a.add (k*4+1))=some (.int .i64 z.d)∧w.cell? (a.add (k*4+2))=some (.int .i64 z.w)∧∃ A' c',w.cell? (a.add (k*4+3))=some (.slice A' z.secs.length c')∧z.secs.length≤c'∧RSec w A' z.secs.length z.secs)∧inR z.p∧inR z.d∧inR z.w) (fun k hk=>by
   obtain⟨ys,nn,_,_,_,hff⟩:=hi k (by omega)
   rw[hsz] at hff
   obtain⟨v0,y0,c0,_,t0⟩:=hff 0 f0 g0
   obtain⟨v1,y1,c1,_,t1⟩:=hff 1 f1 g1
   obtain⟨v2,y2,c2,_,t2⟩:=hff 2 f2 g2
   obtain⟨v3,y3,c3,_,t3⟩:=hff 3 f3 g3
   rw[e0] at t0
   rw[e1] at t1
   rw[e2] at t2
   rw[e3] at t3
   obtain⟨z0,rfl,r0⟩:=int_in T.ui t0
   obtain⟨z1,rfl,r1⟩:=int_in T.ui t1
   obtain⟨z2,rfl,r2⟩:=int_in T.ui t2
   obtain⟨A',l,c',rfl,q1,q2⟩:=sec_of T t3
   exact⟨⟨z0,z1,z2,l⟩,⟨c0,c1,c2,A',c',c3,q1,q2⟩,r0,r1,r2⟩)
  have hlen:((List.range len).map F).length=len:=by simp
  refine⟨some a,(List.range len).map F,cap,by rw[hlen];exact hcs,by rw[hlen];exact hl,rfl,by rw[hlen];omega,fun hn=>?_,fun x hx=>?_⟩
  ·rw[hlen] at hn
   obtain⟨b,off,spot⟩:=a
   have hspot:spot=none:=by simpa [Addr.add] using World.cell?_spot (hF 0 hn).1.1
   subst hspot
   refine⟨b,off,rfl,World.block_lt_of_cell? w _ (hF 0 hn).1.1,fun k x hx=>?_⟩
   have hk:k<len:=by have:=(List.getElem?_eq_some_iff.1 hx).1;rw[hlen] at this;exact this
   have hxe:F k=x:=by simpa [hk] using hx
   obtain⟨h1,h2,h3,A',c',h4,h5,h6⟩:=(hF k hk).1
   rw[hxe] at h1 h2 h3 h4 h5 h6
   simp only[add_plain] at h1 h2 h3 h4
   exact⟨h1,by rw[Nat.add_assoc];exact h2,by rw[Nat.add_assoc];exact h3,A',c',by rw[Nat.add_assoc];exact h4,h5,h6⟩
  ·obtain⟨k,hk,rfl⟩:=List.mem_map.1 hx
   exact(hF k (List.mem_range.1 hk)).2
theorem sys_of (T:SysT P tS tT tt tC tc fS ft fc) {r:Reach} {b0:Nat} {v:Value} {d:DataW H} {p:List MemPlace} (hv:Value.okWide P w r b0 tS v) (h:DataW.Trod enc P w base spare held tS v d p):∃ s A c,v=sysV s A s.ts.length c∧RSys w A s.ts.length c s:=by
 have hsz:fS.size=9:=by have:=congrArg Array.size T.yS;simpa using this
 obtain⟨l,n,rfl,hll,hg⟩:=open_agg_fields T.uS T.oS (by rw[T.cS,hsz]) hv h
 rw[hsz] at hll
 have num:∀ j,j<8→∃ z,l[j]? = some (.int .i64 z)∧inR z:=fun j hj=>by
  have hj':(#[3,3,3,3,3,3,3,3,tT]:Array TypeId)[j]? = some 3:=by
   have:j=0∨j=1∨j=2∨j=3∨j=4∨j=5∨j=6∨j=7:=by omega
   rcases this with rfl | rfl | rfl | rfl | rfl | rfl | rfl | rfl <;> rfl
  obtain⟨f,g,e⟩:=type_at T.yS hj'
  obtain⟨u,y,hu,ht⟩:=hg j f g
  rw[e] at ht
  obtain⟨z,rfl,hz⟩:=int_in T.ui ht
  exact⟨z,hu,hz⟩
 obtain⟨z0,a0,r0⟩:=num 0 (by omega)
 obtain⟨z1,a1,r1⟩:=num 1 (by omega)
 obtain⟨z2,a2,r2⟩:=num 2 (by omega)
 obtain⟨z3,a3,r3⟩:=num 3 (by omega)
 obtain⟨z4,a4,r4⟩:=num 4 (by omega)
 obtain⟨z5,a5,r5⟩:=num 5 (by omega)
 obtain⟨z6,a6,r6⟩:=num 6 (by omega)
 obtain⟨z7,a7,r7⟩:=num 7 (by omega)
 obtain⟨f8,g8,e8⟩:=type_at T.yS (j:=8) rfl
 obtain⟨u8,y8,a8,t8⟩:=hg 8 f8 g8
 rw[e8] at t8
 obtain⟨A,ts,c,rfl,q1,q2⟩:=tsk_of T t8
 have hl:l = [.int .i64 z0,.int .i64 z1,.int .i64 z2,.int .i64 z3,.int .i64 z4,.int .i64 z5,.int .i64 z6,.int .i64 z7,.slice A ts.length c]:=by
  apply List.ext_getElem?
  intro j
  by_cases hj:j<9
  ·have:j=0∨j=1∨j=2∨j=3∨j=4∨j=5∨j=6∨j=7∨j=8:=by omega
   rcases this with rfl | rfl | rfl | rfl | rfl | rfl | rfl | rfl | rfl
   ·exact a0
   ·exact a1
   ·exact a2
   ·exact a3
   ·exact a4
   ·exact a5
   ·exact a6
   ·exact a7
   ·exact a8
  ·rw[List.getElem?_eq_none (by omega),List.getElem?_eq_none (by simp;omega)]
 subst hl
 exact⟨⟨z0,z1,z2,z3,z4,z5,z6,z7,ts⟩,A,c,rfl,q1,q2,r0,r1,r2,r3,r4,r5,r6,r7⟩
end
end Go.Proofs.YtjfaiaipojfhgaaGreat
end
section
namespace Go.Proofs.YtjfaiaipojfhgaaGreat.pln
open Go.ChangeShapes Go.WideShapes Go.ChangeAt Go.RowKit Go.Deep
structure Pc where
 co:Int
 bu:Int
 de:Int
 pr:Int
 ti:Bool
def pc0 : Pc:=⟨0,0,0,0,false⟩
instance : Inhabited Pc:=⟨pc0⟩
def pcV (x:Pc):Value:=.agg #[.int .i64 x.co,.int .i64 x.bu,.int .i64 x.de,.int .i64 x.pr,.bool x.ti]
structure RPc (w:World) (A:Option Addr) (n:Nat) (l:List Pc):Prop where
 len:l.length=n
 max:n≤9223372036854775807
 at_:0<n→∃ b off,A=some ⟨b,off,none⟩∧b<w.heap.size∧∀ k x,l[k]? = some x→w.cell? ⟨b,off+k*5,none⟩=some (.int .i64 x.co)∧w.cell? ⟨b,off+k*5+1,none⟩=some (.int .i64 x.bu)∧w.cell? ⟨b,off+k*5+2,none⟩=some (.int .i64 x.de)∧w.cell? ⟨b,off+k*5+3,none⟩=some (.int .i64 x.pr)∧w.cell? ⟨b,off+k*5+4,none⟩=some (.bool x.ti)
 fit:∀ x ∈ l,inR x.co∧inR x.bu∧inR x.de∧inR x.pr
theorem RPc.but {w w':World} {A:Option Addr} {n:Nat} {l:List Pc} {S:Nat→Prop} (h:RPc w A n l) (hb:But S w w') (hs:0<n→∀ b off,A=some ⟨b,off,none⟩→¬S b):RPc w' A n l :=
 ⟨h.len,h.max,fun hn=>by
  obtain⟨b,off,e,hl,hc⟩:=h.at_ hn
  have h9:=hs hn b off e
  exact⟨b,off,e,Nat.lt_of_lt_of_le hl hb.size,fun k x hx=>by rw[hb.cell hl h9,hb.cell hl h9,hb.cell hl h9,hb.cell hl h9,hb.cell hl h9];exact hc k x hx⟩,h.fit⟩
theorem RPc.no {w w':World} {A:Option Addr} {n:Nat} {l:List Pc} (h:RPc w A n l) (hb:But No w w'):RPc w' A n l:=h.but hb (fun _ _ _ _ f=>f)
theorem RPc.at1 {w:World} {A:Option Addr} {n:Nat} {l:List Pc} (h:RPc w A n l) {k:Nat} {x:Pc} (hx:l[k]? = some x) :
  ∃ b off,A=some ⟨b,off,none⟩∧b<w.heap.size∧w.cell? ⟨b,off+k*5,none⟩=some (.int .i64 x.co)∧w.cell? ⟨b,off+k*5+1,none⟩=some (.int .i64 x.bu)∧w.cell? ⟨b,off+k*5+2,none⟩=some (.int .i64 x.de)∧w.cell? ⟨b,off+k*5+3,none⟩=some (.int .i64 x.pr)∧w.cell? ⟨b,off+k*5+4,none⟩=some (.bool x.ti):=by
 have hk:k<l.length:=(List.getElem?_eq_some_iff.1 hx).1
 obtain⟨b,off,e,hl,hc⟩:=h.at_ (by rw[←h.len];omega)
 exact⟨b,off,e,hl,hc k x hx⟩
theorem RPc.nil (w:World):RPc w none 0 []:=⟨rfl,by omega,fun h=>absurd h (by omega),by simp⟩
structure RPl (w:World) (A:Option Addr) (n:Nat) (L:List (List Pc)):Prop where
 len:L.length=n
 max:n≤9223372036854775807
 at_:0<n→∃ b off,A=some ⟨b,off,none⟩∧b<w.heap.size∧∀ k l,L[k]? = some l→∃ A' c',w.cell? ⟨b,off+k,none⟩=some (.slice A' l.length c')∧l.length≤c'∧RPc w A' l.length l
theorem RPl.no {w w':World} {A:Option Addr} {n:Nat} {L:List (List Pc)} (h:RPl w A n L) (hb:But No w w'):RPl w' A n L :=
 ⟨h.len,h.max,fun hn=>by
  obtain⟨b,off,e,hl,hc⟩:=h.at_ hn
  refine⟨b,off,e,Nat.lt_of_lt_of_le hl hb.size,fun k l hx=>?_⟩
  obtain⟨A',c',h1,h2,h3⟩:=hc k l hx
  exact⟨A',c',by rw[hb.cell hl (fun f=>f)];exact h1,h2,h3.no hb⟩⟩
theorem RPl.at1 {w:World} {A:Option Addr} {n:Nat} {L:List (List Pc)} (h:RPl w A n L) {k:Nat} {l:List Pc} (hx:L[k]? = some l) :
  ∃ b off A' c',A=some ⟨b,off,none⟩∧b<w.heap.size∧w.cell? ⟨b,off+k,none⟩=some (.slice A' l.length c')∧l.length≤c'∧RPc w A' l.length l:=by
 have hk:k<L.length:=(List.getElem?_eq_some_iff.1 hx).1
 obtain⟨b,off,e,hl,hc⟩:=h.at_ (by rw[←h.len];omega)
 obtain⟨A',c',h1,h2,h3⟩:=hc k l hx
 exact⟨b,off,A',c',e,hl,h1,h2,h3⟩
theorem RPl.nil (w:World):RPl w none 0 []:=⟨rfl,by omega,fun h=>absurd h (by omega)⟩
theorem int_of {H:Type} {enc:TypeId × Value→H} {W:World} {base n:Nat} {sp:Nat→Bool} {held:Bool} {v:Value} {y:DataW H × List MemPlace} (h:DataW.trod enc Tryz.prog W base sp held n 3 [v]=some y):∃ z,v=.int .i64 z∧inR z:=by
 obtain⟨z,hz⟩:=DataW.trod_int Tryz.underlying3 h
 simp only[List.cons.injEq,and_true] at hz
 exact⟨z,hz.1,inR_of hz.2.2⟩
theorem bool_of {H:Type} {enc:TypeId × Value→H} {W:World} {base n:Nat} {sp:Nat→Bool} {held:Bool} {v:Value} {y:DataW H × List MemPlace} (h:DataW.trod enc Tryz.prog W base sp held n 4 [v]=some y):∃ z,v=.bool z:=by
 obtain⟨z,hz⟩:=DataW.trod_bool Tryz.underlying4 h
 simp only[List.cons.injEq,and_true] at hz
 exact⟨z,hz.1⟩
set_option maxRecDepth 100000 in
theorem pc_of {H:Type} {enc:TypeId × Value→H} {W:World} {base n:Nat} {sp:Nat→Bool} {held:Bool} {v:Value} {y:DataW H × List MemPlace} (hf:DataW.trod enc Tryz.prog W base sp held n 40 [v]=some y) :
  ∃ (A:Option Addr) (l:List Pc) (c:Nat),v=.slice A l.length c∧l.length≤c∧RPc W A l.length l:=by
 rcases open_slice_fields Tryz.underlying40 Tryz.underlying42 (by kernel_rfl) (by kernel_rfl) hf with⟨hcs,hx⟩ | ⟨a,len,cap,m,DD,Pl,hcs,_,hl,hm,hmm,hx,hi⟩
 ·simp only[List.cons.injEq,and_true] at hcs
  exact⟨none, [],0,hcs,Nat.le_refl _,RPc.nil W⟩
 ·simp only[List.cons.injEq,and_true] at hcs
  unfold maxLen at hm
  have hlm:len≤m:=by rw[hmm];split <;> omega
  have key:∀ k,∃ z:Pc,k<len→(W.cell? (a.add (k*5))=some (.int .i64 z.co)∧W.cell? (a.add (k*5+1))=some (.int .i64 z.bu)∧W.cell? (a.add (k*5+2))=some (.int .i64 z.de)∧W.cell? (a.add (k*5+3))=some (.int .i64 z.pr)∧W.cell? (a.add (k*5+4))=some (.bool z.ti))∧inR z.co∧inR z.bu∧inR z.de∧inR z.pr:=by
   intro k
   by_cases hk:k<len
   ·obtain⟨ys,nn,_,_,_,hff⟩:=hi k (by omega)
    obtain⟨v0,y0,c0,_,t0⟩:=hff 0 _ rfl
    obtain⟨v1,y1,c1,_,t1⟩:=hff 1 _ rfl
    obtain⟨v2,y2,c2,_,t2⟩:=hff 2 _ rfl
    obtain⟨v3,y3,c3,_,t3⟩:=hff 3 _ rfl
    obtain⟨v4,y4,c4,_,t4⟩:=hff 4 _ rfl
    obtain⟨z0,rfl,r0⟩:=int_of t0
    obtain⟨z1,rfl,r1⟩:=int_of t1
    obtain⟨z2,rfl,r2⟩:=int_of t2
    obtain⟨z3,rfl,r3⟩:=int_of t3
    obtain⟨z4,rfl⟩:=bool_of t4
    exact⟨⟨z0,z1,z2,z3,z4⟩,fun _=>⟨⟨c0,c1,c2,c3,c4⟩,r0,r1,r2,r3⟩⟩
   ·exact⟨pc0,fun h=>absurd h hk⟩
  obtain⟨zf,hz⟩:=Classical.axiomOfChoice key
  have hlen:((List.range len).map zf).length=len:=by simp
  refine⟨some a,(List.range len).map zf,cap,by rw[hlen];exact hcs,by rw[hlen];exact hl,⟨rfl,by rw[hlen];omega,fun hn=>?_,fun x hx=>?_⟩⟩
  ·rw[hlen] at hn
   obtain⟨b,off,spot⟩:=a
   have hspot:spot=none:=by simpa [Addr.add] using World.cell?_spot (hz 0 hn).1.1
   subst hspot
   refine⟨b,off,rfl,World.block_lt_of_cell? W _ (hz 0 hn).1.1,fun k x hx=>?_⟩
   have hk:k<len:=by have:=(List.getElem?_eq_some_iff.1 hx).1;rw[hlen] at this;exact this
   have hxe:zf k=x:=by simpa [hk] using hx
   have:=(hz k hk).1
   rw[hxe] at this
   simp only[add_plain] at this
   simpa only[Nat.add_assoc] using this
  ·obtain⟨k,hk,rfl⟩:=List.mem_map.1 hx
   exact(hz k (List.mem_range.1 hk)).2
set_option maxRecDepth 100000 in
theorem pl_of {H:Type} {enc:TypeId × Value→H} {W:World} {base:Nat} {v:Value} {d:DataW H} {p:List MemPlace} (hv:Value.okWide Tryz.prog W .any base 25 v) (h:DataW.Trod enc Tryz.prog W 0 (fun _=>true) true 25 v d p) :
  ∃ (A:Option Addr) (n c:Nat) (L:List (List Pc)),v=.slice A n c∧RPl W A n L∧n≤c:=by
 obtain⟨a0,len,cap,rfl⟩:=okWide_slice Tryz.underlying25 hv
 obtain⟨fuel,hf⟩:=h
 refine⟨a0,len,cap,?_⟩
 rcases open_slice1 Tryz.underlying25 (by kernel_rfl) hf with⟨hcs,hx⟩ | ⟨a,len',cap',m,nn,V,DD,Pl,hcs,_,hl,hm,hmm,hx,hi⟩
 ·simp[Value.cells] at hcs
  obtain⟨rfl,rfl,rfl⟩:=hcs
  exact⟨[],rfl,RPl.nil W,Nat.le_refl _⟩
 ·simp[Value.cells] at hcs
  obtain⟨rfl,rfl,rfl⟩:=hcs
  simp only[if_true] at hmm
  unfold maxLen at hm
  have key:∀ k,∃ l:List Pc,k<len→∃ A' c',W.cell? (a.add k)=some (.slice A' l.length c')∧l.length≤c'∧RPc W A' l.length l:=by
   intro k
   by_cases hk:k<len
   ·obtain⟨h1,h2⟩:=hi k (by omega)
    obtain⟨A',l,c',e,q1,q2⟩:=pc_of h2
    exact⟨l,fun _=>⟨A',c',by rw[h1,e],q1,q2⟩⟩
   ·exact⟨[],fun h=>absurd h hk⟩
  obtain⟨zf,hz⟩:=Classical.axiomOfChoice key
  have hlen:((List.range len).map zf).length=len:=by simp
  refine⟨(List.range len).map zf,rfl,⟨hlen,by omega,fun hn=>?_⟩,hl⟩
  obtain⟨b,off,spot⟩:=a
  obtain⟨A0,c0,e0,_⟩:=hz 0 hn
  have hspot:spot=none:=by simpa [Addr.add] using World.cell?_spot e0
  subst hspot
  refine⟨b,off,rfl,World.block_lt_of_cell? W _ e0,fun k l hx=>?_⟩
  have hk:k<len:=by have:=(List.getElem?_eq_some_iff.1 hx).1;rw[hlen] at this;exact this
  have hxe:zf k=l:=by simpa [hk] using hx
  obtain⟨A',c',h1,h2,h3⟩:=hz k hk
  rw[hxe] at h1 h2 h3
  simp only[add_plain] at h1
  exact⟨A',c',h1,h2,h3⟩
end Go.Proofs.YtjfaiaipojfhgaaGreat.pln
end
section
namespace Go.Proofs.YtjfaiaipojfhgaaGreat
def wi (n a b:Int):Bool:=decide (a≤n) && decide (n≤b)
theorem wi_true {n a b:Int}:wi n a b=true ↔ a≤n∧n≤b:=by unfold wi;simp
theorem wi_false {n a b:Int}:wi n a b=false ↔ n<a∨b<n:=by
 unfold wi
 rw[Bool.and_eq_false_iff,decide_eq_false_iff_not,decide_eq_false_iff_not];omega
def vWhole (s:Sys):Bool:=wi s.co 1 8 && (wi s.po 1 2 && (wi s.pr 1 2 && (!(decide (s.pr=2) && !decide (s.po=1)) && (wi s.re 0 50 && (wi s.sw 0 50 && (wi s.fi 0 50 && (wi s.la 1 50 && (wi s.rs 0 8 && wi (s.ts.length:Int) 1 24))))))))
def vHead (t:Tsk):Bool:=wi t.p 1 1099511627776 && (wi t.d 1 t.p && (wi t.w 1 t.d && decide (t.secs.length≤4)))
def vSec (res w e:Int) (x:Int × Int × Int):Bool:=wi x.1 e w && (wi x.2.1 0 (res-1) && wi x.2.2 1 (w-x.1))
def vSecs (res w:Int):Nat→Int→List (Int × Int × Int)→Option Nat
 | _,_, []=>none
 | k,e,x :: r=>if vSec res w e x=true then vSecs res w (k+1) (x.1+x.2.2) r else some k
def vEnd : Nat→List (Int × Int × Int)→Int
 | 0,_=>0
 | k+1,l=>(l.getD k (0,0,0)).1+(l.getD k (0,0,0)).2.2
def vTsk (res:Int) (t:Tsk):Bool:=vHead t && (vSecs res t.w 0 0 t.secs).isNone
def vTasks (res:Int):Nat→List Tsk→Option (Nat × Int)
 | _, []=>none
 | i,t :: r =>
  if vHead t=true then
   match vSecs res t.w 0 0 t.secs with
   | some k=>some (i,(k:Int))
   | none=>vTasks res (i+1) r
  else some (i, -1)
def vFind (s:Sys):Bool × Int × Int :=
 if vWhole s=true then
  match vTasks s.rs 0 s.ts with
  | some (i,k)=>(true,(i:Int),k)
  | none=>(false, -1, -1)
 else (true, -1, -1)
def right (s:Sys):Bool:=vWhole s && s.ts.all (vTsk s.rs)
theorem vTasks_none (res:Int):∀ (i:Nat) (ts:List Tsk),(vTasks res i ts).isNone=ts.all (vTsk res)
 | _, []=>rfl
 | i,t :: r=>by
  have ih:=vTasks_none res (i+1) r
  unfold vTasks
  rw[List.all_cons]
  by_cases h:vHead t=true
  ·rw[if_pos h]
   cases hs:vSecs res t.w 0 0 t.secs with
   | none =>
    have:vTsk res t=true:=by unfold vTsk;rw[h,hs];rfl
    rw[this,Bool.true_and]
    exact ih
   | some k =>
    have:vTsk res t=false:=by unfold vTsk;rw[h,hs];rfl
    rw[this];rfl
  ·rw[if_neg h]
   have:vTsk res t=false:=by
    unfold vTsk
    rw[Bool.not_eq_true] at h
    rw[h];rfl
   rw[this];rfl
theorem right_find (s:Sys):right s = !(vFind s).1:=by
 unfold right vFind
 by_cases h:vWhole s=true
 ·rw[if_pos h,h,Bool.true_and,←vTasks_none s.rs 0]
  cases vTasks s.rs 0 s.ts with
  | none=>rfl
  | some x=>rfl
 ·rw[if_neg h]
  rw[Bool.not_eq_true] at h
  rw[h];rfl
theorem vTasks_skip {res:Int}:∀ {i k:Nat} {ts:List Tsk},(∀ j t,j<k→ts[j]? = some t→vTsk res t=true)→vTasks res i ts=vTasks res (i+k) (ts.drop k)
 | i,0,ts,_=>by simp
 | i,k+1, [],_=>by simp[vTasks]
 | i,k+1,t :: r,h=>by
  have h0:=h 0 t (by omega) rfl
  have ih:=vTasks_skip (res:=res) (i:=i+1) (k:=k) (ts:=r) (fun j x hj hx=>h (j+1) x (by omega) (by simpa using hx))
  unfold vTsk at h0
  rw[Bool.and_eq_true] at h0
  rw[vTasks,if_pos h0.1]
  cases hs:vSecs res t.w 0 0 t.secs with
  | none=>show vTasks res (i+1) r=_;rw[ih,List.drop_succ_cons,show i+1+k=i+(k+1)by omega]
  | some q=>rw[hs] at h0;simp at h0
theorem vTasks_head {res:Int} {ts:List Tsk} {k:Nat} {t:Tsk} (h:∀ j t,j<k→ts[j]? = some t→vTsk res t=true) (ht:ts[k]? = some t) (hh:vHead t=false):vTasks res 0 ts=some (k, -1):=by
 rw[vTasks_skip h]
 obtain⟨hk,rfl⟩:=List.getElem?_eq_some_iff.1 ht
 rw[List.drop_eq_getElem_cons hk,vTasks,if_neg (by rw[hh];simp),Nat.zero_add]
theorem vTasks_sec {res:Int} {ts:List Tsk} {k q:Nat} {t:Tsk} (h:∀ j t,j<k→ts[j]? = some t→vTsk res t=true) (ht:ts[k]? = some t) (hh:vHead t=true) (hs:vSecs res t.w 0 0 t.secs=some q):vTasks res 0 ts=some (k,(q:Int)):=by
 rw[vTasks_skip h]
 obtain⟨hk,rfl⟩:=List.getElem?_eq_some_iff.1 ht
 rw[List.drop_eq_getElem_cons hk,vTasks,if_pos hh,hs,Nat.zero_add]
theorem vSecs_skip {res w:Int}:∀ {i k:Nat} {e:Int} {l:List (Int × Int × Int)},k≤l.length→(∀ j x,j<k→l[j]? = some x→vSec res w (if j=0 then e else vEnd j l) x=true)→vSecs res w i e l=vSecs res w (i+k) (if k=0 then e else vEnd k l) (l.drop k)
 | i,0,e,l,_,_=>by simp
 | i,k+1,e, [],hk,_=>by simp at hk
 | i,k+1,e,x :: r,hk,h=>by
  have h0:=h 0 x (by omega) rfl
  rw[if_pos rfl] at h0
  have ih:=vSecs_skip (res:=res) (w:=w) (i:=i+1) (k:=k) (e:=x.1+x.2.2) (l:=r) (by simpa using hk) (fun j y hj hy=>by
   have:=h (j+1) y (by omega) (by simpa using hy)
   rw[if_neg (by omega)] at this
   cases j with
   | zero=>rw[if_pos rfl];simpa [vEnd] using this
   | succ j=>rw[if_neg (by omega)];simpa [vEnd] using this)
  have e1:(if k+1=0 then e else vEnd (k+1) (x :: r))=(if k=0 then x.1+x.2.2 else vEnd k r):=by
   cases k with
   | zero=>simp[vEnd]
   | succ k=>simp[vEnd]
  rw[vSecs,if_pos h0,ih,List.drop_succ_cons,e1,show i+1+k=i+(k+1)by omega]
theorem vSecs_bad {res w:Int} {k:Nat} {l:List (Int × Int × Int)} {x:Int × Int × Int} (h:∀ j y,j<k→l[j]? = some y→vSec res w (vEnd j l) y=true) (hx:l[k]? = some x) (hb:vSec res w (vEnd k l) x=false):vSecs res w 0 0 l=some k:=by
 obtain⟨hk,rfl⟩:=List.getElem?_eq_some_iff.1 hx
 have e0:∀ j,(if j=0 then (0:Int) else vEnd j l)=vEnd j l:=fun j=>by cases j <;> simp[vEnd]
 rw[vSecs_skip (i:=0) (k:=k) (e:=0) (by omega) (fun j y hj hy=>by rw[e0];exact h j y hj hy),e0,List.drop_eq_getElem_cons hk,vSecs,if_neg (by rw[hb];simp),Nat.zero_add]
theorem vSecs_good {res w:Int} {l:List (Int × Int × Int)} (h:∀ j y,l[j]? = some y→vSec res w (vEnd j l) y=true):vSecs res w 0 0 l=none:=by
 have e0:∀ j,(if j=0 then (0:Int) else vEnd j l)=vEnd j l:=fun j=>by cases j <;> simp[vEnd]
 rw[vSecs_skip (i:=0) (k:=l.length) (e:=0) (Nat.le_refl _) (fun j y _ hy=>by rw[e0];exact h j y hy),List.drop_length,vSecs]
theorem right_parts {s:Sys} (h:right s=true):vWhole s=true∧∀ t ∈ s.ts,vTsk s.rs t=true:=by
 unfold right at h
 rw[Bool.and_eq_true,List.all_eq_true] at h
 exact h
end Go.Proofs.YtjfaiaipojfhgaaGreat
end
section
namespace Go.Proofs.YtjfaiaipojfhgaaGreat.pln
def lfN (la d:Int) (l:List Pc):Nat→Int
 | 0=>d
 | i+1=>lfN la d l i-(l.getD i pc0).bu-(la-1)
def smN (l:List Pc):Nat→Int
 | 0=>0
 | i+1=>smN l i+(l.getD i pc0).bu
theorem getD_some {l:List Pc} {i:Nat} {x:Pc} (h:l[i]? = some x):l.getD i pc0=x:=by simp[List.getD,h]
def bad1 (s:Sys) (t:Tsk) (last:Bool) (x:Pc):Bool:=decide (x.co<0) || (decide (s.co≤x.co) || (decide (x.bu<1) || (decide (t.w<x.bu) || ((!x.ti && !last) || (x.ti && decide (0<t.secs.length))))))
def bad2 (l:List Pc) (i:Nat) (x:Pc):Bool:=(l.take i).any (fun y=>decide (y.co=x.co))
def bad3 (lf:Int) (x:Pc):Bool:=(x.ti && !decide (x.de=x.bu)) || (!x.ti && (!decide (x.de=lf) || decide (lf<1)))
def badP (s:Sys) (t:Tsk) (l:List Pc) (i:Nat) (x:Pc):Bool:=bad1 s t (decide (i+1=l.length)) x || (bad2 l i x || bad3 (lfN s.la t.d l i) x)
def okN (s:Sys) (t:Tsk) (l:List Pc):Nat→Bool
 | 0=>true
 | i+1=>okN s t l i && !badP s t l i (l.getD i pc0)
def okL (s:Sys) (t:Tsk) (l:List Pc):Bool:=decide (l.length≤8) && (okN s t l l.length && (decide (l = []) || if (l.getD (l.length-1) pc0).ti=true then decide (smN l l.length<t.w) else decide (smN l l.length=t.w)))
theorem okN_le {s:Sys} {t:Tsk} {l:List Pc} {i j:Nat} (hij:i≤j) (h:okN s t l j=true):okN s t l i=true:=by
 induction j with
 | zero =>
    obtain rfl:i=0:=by omega
    exact h
 | succ j ih =>
  by_cases e:i=j+1
  ·rw[e];exact h
  ·rw[okN,Bool.and_eq_true] at h
   exact ih (by omega) h.1
theorem okL_bad {s:Sys} {t:Tsk} {l:List Pc} {i:Nat} {x:Pc} (hx:l[i]? = some x) (h:badP s t l i x=true):okL s t l=false:=by
 have hi:i<l.length:=(List.getElem?_eq_some_iff.1 hx).1
 have h1:okN s t l (i+1)=false:=by rw[okN,getD_some hx,h];simp
 have h2:okN s t l l.length=false:=by
  cases e:okN s t l l.length with
  | false=>rfl
  | true=>rw[okN_le (show i+1≤l.length by omega) e] at h1;cases h1
 unfold okL;rw[h2];simp
theorem okN_next {s:Sys} {t:Tsk} {l:List Pc} {i:Nat} {x:Pc} (hx:l[i]? = some x) (h0:okN s t l i=true) (h:badP s t l i x=false):okN s t l (i+1)=true:=by rw[okN,getD_some hx,h0,h];rfl
theorem smN_next {l:List Pc} {i:Nat} {x:Pc} (hx:l[i]? = some x):smN l (i+1)=smN l i+x.bu:=by rw[smN,getD_some hx]
theorem lfN_next {la d:Int} {l:List Pc} {i:Nat} {x:Pc} (hx:l[i]? = some x):lfN la d l (i+1)=lfN la d l i-x.bu-(la-1):=by rw[lfN,getD_some hx]
theorem bad2_next {l:List Pc} {i k:Nat} {x y:Pc} (hk:k<i) (hy:l[k]? = some y) (e:y.co=x.co):bad2 l i x=true:=by
 unfold bad2
 rw[List.any_eq_true]
 exact⟨y,List.mem_iff_getElem?.2 ⟨k,by rw[List.getElem?_take,if_pos hk];exact hy⟩,by simp[e]⟩
theorem bad2_none {l:List Pc} {i:Nat} {x:Pc} (h:∀ k y,k<i→l[k]? = some y→y.co≠x.co):bad2 l i x=false:=by
 unfold bad2
 rw[List.any_eq_false]
 intro y hy
 obtain⟨k,hk⟩:=List.mem_iff_getElem?.1 hy
 rw[List.getElem?_take] at hk
 by_cases hki:k<i
 ·rw[if_pos hki] at hk;simpa using h k y hki hk
 ·rw[if_neg hki] at hk;cases hk
end Go.Proofs.YtjfaiaipojfhgaaGreat.pln
end
