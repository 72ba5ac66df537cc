/- Part 18 of a proof: PlR12 PlS1 PlE PlS2 PlS4 PlS6 PlS8 PlS9 PlX PlX2. -/
import Derived.Test.YtlecikdjoekknaaGreatM17
set_option maxRecDepth 100000
set_option maxHeartbeats 16000000
set_option linter.unusedVariables false
set_option linter.unusedSimpArgs false
section
namespace Go.Proofs.YtlecikdjoekknaaGreat.pln
open Go.ChangeShapes Go.WideShapes Go.ChangeAt Go.RowKit Go.Deep val ter
def sumB (s:Sys) (l:List Pc):Nat->Int
 | 0=>0
 | k+1=>sumB s l k+(l.getD k pc0).bu+s.la-1
def ap0 : Ap:=⟨pc0,0,0⟩
def bndX (s:Sys) (R:List (List Pc)) (Z:List (List Int)) (l:List Ap) (c:Nat) (x:Ap):Int:=if s.po=2 then (s.ts.getD x.i ts0).d else (fixV s R Z l c x).1+sumB s (R.getD x.i []) x.k
def bdJ (s:Sys) (R:List (List Pc)) (Z:List (List Int)) (l:List Ap) (c:Nat) (f:Nat->Int):Nat->Nat->Int
 | 0=>f
 | j+1=>if (l.getD j ap0).p.ti=true then bdJ s R Z l c f j else λ i=>if i=(l.getD j ap0).i then bndX s R Z l c (l.getD j ap0) else bdJ s R Z l c f j i
def erX (s:Sys) (R:List (List Pc)) (Z:List (List Int)) (l:List Ap) (c:Nat) (x:Ap):Int:=if x.p.ti=true\/s.po=2 then 0 else (fixV s R Z l c x).2
def erJ (s:Sys) (R:List (List Pc)) (Z:List (List Int)) (l:List Ap) (c:Nat):Nat->Int
 | 0=>0
 | j+1=>if erJ s R Z l c j≠0 then erJ s R Z l c j else erX s R Z l c (l.getD j ap0)
def erC (s:Sys) (R:List (List Pc)) (Z:List (List Int)) (l:List Ap) (c:Nat):Int:=if s.po=2/\l ≠ []/\edfV s R Z l c≠0 then edfV s R Z l c else erJ s R Z l c l.length
def bdC (s:Sys) (R:List (List Pc)) (Z:List (List Int)):Nat->Nat->Int
 | 0=>λ _=>0
 | c+1=>bdJ s R Z (apS (c:Int) R) c (bdC s R Z c) (apS (c:Int) R).length
def erN (s:Sys) (R:List (List Pc)) (Z:List (List Int)):Nat->Int × Int
 | 0=>(-1,0)
 | c+1=>if (erN s R Z c).2≠0 then erN s R Z c else if erC s R Z (apS (c:Int) R) c≠0 then ((c:Int),erC s R Z (apS (c:Int) R) c) else (-1,0)
def chkV (s:Sys) (L:List (List Pc)):List Int × Int × Int :=
 if plR s L=true then (if (erN s (rkV s L) (ceV s L) s.co.toNat).2≠0 then ([],erN s (rkV s L) (ceV s L) s.co.toNat) else ((List.range L.length).map (bdC s (rkV s L) (ceV s L) s.co.toNat), -1,0)) else ([], -1,1)
theorem erJ_le {s:Sys} {R:List (List Pc)} {Z:List (List Int)} {l:List Ap} {c:Nat}:∀ {m j:Nat},j<=m->erJ s R Z l c j≠0->erJ s R Z l c m=erJ s R Z l c j
 | 0,j,h,_=>by
    obtain rfl:j=0:=by omega
    rfl
 | m+1,j,h,h0=>by
  by_cases e:j=m+1
  ·rw[e]
  ·have ih:=erJ_le (m:=m) (by omega) h0
   rw[erJ,if_pos (by rw[ih];exact h0),ih]
theorem erN_le {s:Sys} {R:List (List Pc)} {Z:List (List Int)}:∀ {m j:Nat},j<=m->(erN s R Z j).2≠0->erN s R Z m=erN s R Z j
 | 0,j,h,_=>by
    obtain rfl:j=0:=by omega
    rfl
 | m+1,j,h,h0=>by
  by_cases e:j=m+1
  ·rw[e]
  ·have ih:=erN_le (m:=m) (by omega) h0
   rw[erN,if_pos (by rw[ih];exact h0),ih]
theorem getA {l:List Ap} {j:Nat} {x:Ap} (h:l[j]? = some x):l.getD j ap0=x:=by simp[List.getD,h]
theorem okL_bu {s:Sys} {t:Tsk} {l:List Pc} {k:Nat} {x:Pc} (h:okL s t l=true) (hx:l[k]? = some x):1<=x.bu/\x.bu<=t.w:=by
 have hk:k<l.length:=(List.getElem?_eq_some_iff.1 hx).1
 unfold okL at h
 simp only[Bool.and_eq_true] at h
 have h1:=okN_le (show k+1<=l.length by omega) h.2.1
 rw[okN,getD_some hx,Bool.and_eq_true] at h1
 have h2:=h1.2
 unfold badP bad1 at h2
 simp only[Bool.not_eq_true',Bool.or_eq_false_iff,decide_eq_false_iff_not] at h2
 omega
theorem rkL_at {s:Sys} {L:List (List Pc)} {i:Nat} {l:List Pc} {k:Nat} {y:Pc} (h:(rkL s L i l)[k]? = some y):∃ x,l[k]? = some x/\y=rkP s L i x:=by
 unfold rkL at h
 rw[List.getElem?_map] at h
 cases e:l[k]? with
 | none=>rw[e] at h;cases h
 | some x=>rw[e] at h;exact⟨x,rfl,by simpa using h.symm⟩
theorem rk_ap {s:Sys} {L:List (List Pc)} {w:World} {A:Option Addr} {N:Nat} (hl:RPl w A N L) (h:plR s L=true) {c:Int} {y:Ap} (hy:y ∈ apS c (rkV s L)):∃ l x t,L[y.i]? = some l/\l[y.k]? = some x/\s.ts[y.i]? = some t/\y.p=rkP s L y.i x/\(rkV s L)[y.i]? = some (rkL s L y.i l)/\(rkL s L y.i l)[y.k]? = some y.p/\y.p.co=c/\(1<=x.bu/\x.bu<=t.w)/\inR x.de/\y.k<8:=by
 obtain⟨hr,hlen,hok⟩:=plR_parts h
 obtain⟨ls,h1,h2,h3⟩:=apS_mem hy
 have hi:y.i<L.length:=by have:=(List.getElem?_eq_some_iff.1 h1).1;rw[rkV_len] at this;exact this
 obtain⟨l,hli⟩:∃ l,L[y.i]? = some l:=⟨_,List.getElem?_eq_getElem hi⟩
 obtain⟨t,hti⟩:∃ t,s.ts[y.i]? = some t:=⟨_,List.getElem?_eq_getElem (by omega)⟩
 have h4:=rkV_at (s:=s) hli
 rw[h4] at h1
 cases h1
 obtain⟨x,hx,hxp⟩:=rkL_at h2
 have h5:=okS_at hok hli
 rw[getT hti] at h5
 obtain⟨_,_,_,_,_,_,_,_,hp⟩:=hl.at1 hli
 have h8:=okL_len h5
 have hk:=(List.getElem?_eq_some_iff.1 hx).1
 exact⟨l,x,t,hli,hx,hti,hxp,h4,h2,h3,okL_bu h5 hx,(hp.fit x (List.mem_of_getElem? hx)).2.2.1,by omega⟩
theorem sumB_next {s:Sys} {l:List Pc} {k:Nat} {x:Pc} (h:l[k]? = some x):sumB s l (k+1)=sumB s l k+x.bu+s.la-1:=by rw[sumB,getD_some h]
end Go.Proofs.YtlecikdjoekknaaGreat.pln
end
section
namespace Go.Proofs.YtlecikdjoekknaaGreat.pln
open val ter
def fpL (i:Nat) (l:List Pc):Nat->List (Nat × Pc)
 | 0=>[]
 | k+1=>fpL i l k ++ [(i,l.getD k pc0)]
def fpN (L:List (List Pc)):Nat->List (Nat × Pc)
 | 0=>[]
 | i+1=>fpN L i ++ fpL i (L.getD i []) (L.getD i []).length
theorem aL_count (task:Int) (p:Pc) (i:Nat) (l:List Pc):∀ k,aL task p i l k=(((fpL i l k).countP λ z=>aC task p z.1 z.2:Nat):Int)
 | 0=>rfl
 | k+1=>by
  rw[aL,aL_count task p i l k,fpL,List.countP_append]
  by_cases h:aC task p i (l.getD k pc0)=true
  ·rw[if_pos h,List.countP_cons_of_pos (by exact h)];simp
  ·rw[if_neg h,List.countP_cons_of_neg (by exact h)];simp
theorem aN_count (task:Int) (p:Pc) (L:List (List Pc)):∀ i,aN task p L i=(((fpN L i).countP λ z=>aC task p z.1 z.2:Nat):Int)
 | 0=>rfl
 | i+1=>by
  rw[aN,aN_count task p L i,aL_count,fpN,List.countP_append];simp
theorem fpL_mem {i:Nat} {l:List Pc} {z:Nat × Pc}:∀ {k:Nat},k<=l.length->(z ∈ fpL i l k ↔ z.1=i/\∃ j,j<k/\l[j]? = some z.2)
 | 0,_=>by simp[fpL]
 | k+1,hk=>by
  have hx:l[k]? = some l[k]:=List.getElem?_eq_getElem (by omega)
  rw[fpL,List.mem_append,fpL_mem (by omega),List.mem_singleton,getD_some hx]
  constructor
  ·rintro(⟨h1,j,hj,h2⟩ | rfl)
   ·exact⟨h1,j,by omega,h2⟩
   ·exact⟨rfl,k,by omega,hx⟩
  ·rintro⟨h1,j,hj,h2⟩
   by_cases e:j=k
   ·subst e
    rw[hx] at h2
    right
    obtain⟨a,b⟩:=z
    dsimp only at h1 h2
    rw[h1,Option.some.inj h2]
   ·exact .inl ⟨h1,j,by omega,h2⟩
theorem fpN_mem {L:List (List Pc)} {z:Nat × Pc}:∀ {i:Nat},i<=L.length->(z ∈ fpN L i ↔ z.1<i/\∃ (l:List Pc) (j:Nat),L[z.1]? = some l/\l[j]? = some z.2)
 | 0,_=>by simp[fpN]
 | i+1,hi=>by
  have hl:L[i]? = some L[i]:=List.getElem?_eq_getElem (by omega)
  rw[fpN,List.mem_append,fpN_mem (by omega),getL hl,fpL_mem (Nat.le_refl _)]
  constructor
  ·rintro(⟨h1,h2⟩ | ⟨h1,j,hj,h2⟩)
   ·exact⟨by omega,h2⟩
   ·exact⟨by omega,L[i],j,by rw[h1];exact hl,h2⟩
  ·rintro⟨h1,l,j,h2,h3⟩
   by_cases e:z.1=i
   ·rw[e,hl] at h2
    cases h2
    exact .inr ⟨e,j,(List.getElem?_eq_some_iff.1 h3).1,h3⟩
   ·exact .inl ⟨by omega,l,j,h2,h3⟩
theorem countP_lt {α:Type} {p q:α->Bool}:∀ {l:List α},(∀ z ∈ l,p z=true->q z=true)->(∃ z ∈ l,q z=true/\p z=false)->l.countP p<l.countP q
 | [],_,⟨z,hz,_⟩=>by cases hz
 | x :: l,h,⟨z,hz,hq,hp⟩=>by
  have hle:l.countP p<=l.countP q:=List.countP_mono_left (λ y hy=>h y (by simp[hy]))
  rw[List.countP_cons,List.countP_cons]
  rcases List.mem_cons.1 hz with rfl | hz
  ·rw[hp,hq];simp;omega
  ·have ih:=countP_lt (l:=l) (λ y hy=>h y (by simp[hy])) ⟨z,hz,hq,hp⟩
   by_cases e:p x=true
   ·rw[e,h x (by simp) e];simp;omega
   ·split <;> split <;> simp_all <;> omega
theorem okL_piece {s:Sys} {t:Tsk} {l:List Pc} {k:Nat} {x:Pc} (h:okL s t l=true) (hx:l[k]? = some x):badP s t l k x=false:=by
 have hk:k<l.length:=(List.getElem?_eq_some_iff.1 hx).1
 unfold okL at h
 simp only[Bool.and_eq_true] at h
 have h1:=okN_le (show k+1<=l.length by omega) h.2.1
 rw[okN,getD_some hx,Bool.and_eq_true] at h1
 simpa using h1.2
theorem okL_core_one {s:Sys} {t:Tsk} {l:List Pc} {k k':Nat} {x y:Pc} (h:okL s t l=true) (hx:l[k]? = some x) (hy:l[k']? = some y) (hc:x.co=y.co):k=k':=by
 have aux:∀ {k k':Nat} {x y:Pc},l[k]? = some x->l[k']? = some y->x.co=y.co->¬k<k':=λ {k k' x y} hx hy hc hlt=>by
  have h1:=okL_piece h hy
  unfold badP at h1
  rw[bad2_next hlt hx hc] at h1
  simp at h1
 have h1:=aux hx hy hc
 have h2:=aux hy hx hc.symm
 omega
theorem okL_tight {s:Sys} {t:Tsk} {l:List Pc} {k:Nat} {x:Pc} (h:okL s t l=true) (hx:l[k]? = some x) (ht:x.ti=false):k+1=l.length:=by
 have h1:=okL_piece h hx
 unfold badP bad1 at h1
 rw[ht] at h1
 simp only[Bool.or_eq_false_iff] at h1
 have h2:=h1.1.2.2.2.2.1
 simpa using h2
def Bf (i:Nat) (x:Pc) (j:Nat) (y:Pc):Prop:=x.de<y.de\/(x.de=y.de/\i<j)
theorem aC_iff {j:Nat} {y:Pc} {i:Nat} {x:Pc}:aC (j:Int) y i x=true ↔ x.co=y.co/\x.ti=false/\i≠j/\Bf i x j y:=by
 unfold aC Bf
 simp only[Bool.and_eq_true,decide_eq_true_eq,Bool.not_eq_true',decide_eq_false_iff_not,Bool.or_eq_true]
 constructor <;> rintro⟨h1,h2,h3,h4⟩ <;> refine⟨h1,h2,?_,?_⟩ <;> omega
theorem ahead_lt {s:Sys} {L:List (List Pc)} (h:plR s L=true) {i j k m:Nat} {li lj:List Pc} {x y:Pc} (hli:L[i]? = some li) (hlj:L[j]? = some lj) (hx:li[k]? = some x) (hy:lj[m]? = some y) (tx:x.ti=false) (ty:y.ti=false) (hc:x.co=y.co) (hne:i≠j) (hb:Bf i x j y) :
  aheadV (i:Int) x L<aheadV (j:Int) y L:=by
 obtain⟨_,hlen,hok⟩:=plR_parts h
 unfold aheadV
 rw[aN_count,aN_count]
 have:(fpN L L.length).countP (λ z=>aC (i:Int) x z.1 z.2)<(fpN L L.length).countP (λ z=>aC (j:Int) y z.1 z.2):=by
  refine countP_lt (λ z hz hp=>?_) ⟨(i,x),(fpN_mem (Nat.le_refl _)).2 ⟨(List.getElem?_eq_some_iff.1 hli).1,li,k,hli,hx⟩,?_,?_⟩
  ·obtain⟨h1,h2,h3,h4⟩:=aC_iff.1 hp
   obtain⟨_,lz,mz,hlz,hz2⟩:=(fpN_mem (Nat.le_refl _)).1 hz
   refine aC_iff.2 ⟨by rw[h1,hc],h2,λ e=>?_,?_⟩
   ·rw[e,hlj] at hlz
    cases hlz
    have h5:=okS_at hok hlj
    have h6:=okL_core_one h5 hz2 hy (by rw[h1,hc])
    rw[h6,hy] at hz2
    cases hz2
    rw[e] at h4
    unfold Bf at h4 hb
    omega
   ·unfold Bf at h4 hb ⊢;omega
  ·exact aC_iff.2 ⟨hc,tx,hne,hb⟩
  ·cases e:aC (i:Int) x (i,x).1 (i,x).2 with
   | false=>rfl
   | true=>exact absurd rfl (aC_iff.1 e).2.2.1
 omega
theorem ahead_iff {s:Sys} {L:List (List Pc)} (h:plR s L=true) {i j k m:Nat} {li lj:List Pc} {x y:Pc} (hli:L[i]? = some li) (hlj:L[j]? = some lj) (hx:li[k]? = some x) (hy:lj[m]? = some y) (tx:x.ti=false) (ty:y.ti=false) (hc:x.co=y.co) (hne:i≠j) :
  aheadV (i:Int) x L<aheadV (j:Int) y L ↔ Bf i x j y:=by
 constructor
 ·intro hlt
  apply Classical.byContradiction
  intro hb
  have hb2:Bf j y i x:=by unfold Bf at hb ⊢;omega
  have:=ahead_lt h hlj hli hy hx ty tx hc.symm (Ne.symm hne) hb2
  omega
 ·exact ahead_lt h hli hlj hx hy tx ty hc hne
theorem ahead_zp (i:Nat) (x:Pc) (L:List (List Pc)):aheadV (i:Int) (zp x) L=aheadV (i:Int) x L:=by
 unfold aheadV
 rw[aN_count,aN_count]
 rfl
theorem rk_lt {s:Sys} {L:List (List Pc)} (h:plR s L=true) (hpo:s.po=1) {i j k m:Nat} {li lj:List Pc} {x y:Pc} (hli:L[i]? = some li) (hlj:L[j]? = some lj) (hx:li[k]? = some x) (hy:lj[m]? = some y) (ty:y.ti=false) (hc:x.co=y.co) :
  (rkP s L i x).pr<(rkP s L j y).pr ↔ (x.ti=true\/(i≠j/\Bf i x j y)):=by
 obtain⟨hL,h8⟩:=plR_small h
 have hyp:(rkP s L j y).pr=1+aheadV (j:Int) y L:=by unfold rkP;rw[if_pos ⟨hpo,ty⟩,ahead_zp]
 have h0:∀ (a:Nat) (z:Pc),0<=aheadV (a:Int) z L:=λ a z=>by unfold aheadV;rw[aN_count];omega
 cases tx:x.ti with
 | true =>
  have hxp:(rkP s L i x).pr=0:=by unfold rkP;rw[if_neg (by rw[tx];simp)]
  have:=h0 j y
  rw[hxp,hyp]
  simp;omega
 | false =>
  have hxp:(rkP s L i x).pr=1+aheadV (i:Int) x L:=by unfold rkP;rw[if_pos ⟨hpo,tx⟩,ahead_zp]
  rw[hxp,hyp]
  by_cases hne:i=j
  ·subst hne
   rw[hli] at hlj
   cases hlj
   have:=okL_core_one (okS_at (plR_parts h).2.2 hli) hx hy hc
   subst this
   rw[hx] at hy
   cases hy
   simp
  ·have:=ahead_iff h hli hlj hx hy tx ty hc hne
   constructor
   ·intro hl;exact .inr ⟨hne,this.1 (by omega)⟩
   ·rintro(e | ⟨_,hb⟩)
    ·cases e
    ·have:=this.2 hb;omega
end Go.Proofs.YtlecikdjoekknaaGreat.pln
end
section
namespace Go.Proofs.YtlecikdjoekknaaGreat.dem
structure Less2 (l l':List Wk) (bl bl' rl rl':Int):Prop where
 right:right l' bl' rl'=true
 ask:∀ m,1<=m->askS l' bl' rl' m<=askS l bl rl m
 com:∀ m,1<=m->comS l' bl' rl' m<=comS l bl rl m
 fac:∀ x ∈ l',∃ y ∈ l,y.p=x.p
 ld:ldS rl' l'<=ldS rl l
 least:least l'=0\/(least l≠0/\least l<=least l')
def Emb {α:Type} (r:α->α->Prop):List α->List α->Prop
 | [],m=>m = []
 | y :: l,m=>Emb r l m\/∃ x t,m=x :: t/\r x y/\Emb r l t
theorem emb_len {α:Type} {r:α->α->Prop}:∀ {l m:List α},Emb r l m->m.length<=l.length
 | [],m,h=>by rw[Emb] at h;rw[h];exact Nat.le_refl _
 | y :: l,m,h=>by
  rw[Emb] at h
  rcases h with h | ⟨x,t,rfl,_,h⟩
  ·have:=emb_len h;rw[List.length_cons];omega
  ·have:=emb_len h;rw[List.length_cons,List.length_cons];omega
theorem emb_mem {α:Type} {r:α->α->Prop}:∀ {l m:List α},Emb r l m->∀ x ∈ m,∃ y ∈ l,r x y
 | [],m,h,x,hx=>by rw[Emb] at h;rw[h] at hx;cases hx
 | y :: l,m,h,x,hx=>by
  rw[Emb] at h
  rcases h with h | ⟨x',t,rfl,hr,h⟩
  ·obtain⟨z,hz,hq⟩:=emb_mem h x hx;exact⟨z,by simp[hz],hq⟩
  ·rcases List.mem_cons.1 hx with rfl | hx
   ·exact⟨y,by simp,hr⟩
   ·obtain⟨z,hz,hq⟩:=emb_mem h x hx;exact⟨z,by simp[hz],hq⟩
end Go.Proofs.YtlecikdjoekknaaGreat.dem
namespace Go.Proofs.YtlecikdjoekknaaGreat.rsp
open dem (Emb emb_mem emb_len)
end Go.Proofs.YtlecikdjoekknaaGreat.rsp
end
section
namespace Go.Proofs.YtlecikdjoekknaaGreat.pln
open val ter
structure RelA (s s':Sys) (L L':List (List Pc)):Prop where
 ok:plR s L=true
 ok':plR s' L'=true
 po:s'.po=s.po
 pr:s'.pr=s.pr
 la:s'.la=s.la
 co:s'.co=s.co
 rs:s'.rs=s.rs
 ts:s'.ts=s.ts
 re:0<=s'.re/\s'.re<=s.re
 sw:0<=s'.sw/\s'.sw<=s.sw
 fi:0<=s'.fi/\s'.fi<=s.fi
 len:L'.length=L.length
 at_:∀ (i:Nat) (l:List Pc),L'[i]? = some l->l = []\/L[i]? = some l
theorem wh_at {L:List (List Pc)} {i:Nat} {l:List Pc} (h:L[i]? = some l):(L.map whO).getD i 0=whO l:=by simp[List.getD,h]
theorem whO_rk (s:Sys) (L:List (List Pc)) (i:Nat) (l:List Pc):whO (rkL s L i l)=whO l:=by
 unfold whO rkL
 rw[List.length_map]
 cases l with
 | nil=>rfl
 | cons x l=>rfl
theorem wh_rk (s:Sys) (L:List (List Pc)):(rkV s L).map whO=L.map whO:=by
 apply List.ext_getElem?
 intro i
 rw[List.getElem?_map,List.getElem?_map]
 cases h:L[i]? with
 | none =>
  have h1:(rkV s L)[i]? = none:=by
   rw[List.getElem?_eq_none_iff] at h ⊢
   rw[rkV_len];exact h
  rw[h1]
 | some l =>
  rw[rkV_at h]
  show some (whO (rkL s L i l))=some (whO l)
  rw[whO_rk]
structure CmpA (s s':Sys) (L L':List (List Pc)) (c:Nat) (pr pr':Int):Prop where
 lt:s.po=1->∀ (i:Nat) (y:Pc),L'[i]? = some [y]->L[i]? = some [y]->y.ti=false->y.co=(c:Int)->((rkP s' L' i y).pr<pr' ↔ (rkP s L i y).pr<pr)
 gt:s.pr=2->∀ (i:Nat) (y:Pc),L'[i]? = some [y]->L[i]? = some [y]->y.ti=false->y.co=(c:Int)->(pr'<(rkP s' L' i y).pr ↔ pr<(rkP s L i y).pr)
 ce:s.pr=2->∀ (i:Nat) (y:Pc),L'[i]? = some [y]->L[i]? = some [y]->y.ti=false->y.co=(c:Int)->(pr'<ceP s' L' i [y] ↔ pr<ceP s L i [y])
theorem erJ_zero {s:Sys} {R:List (List Pc)} {Z:List (List Int)} {l:List Ap} {c:Nat} (h:erJ s R Z l c l.length=0) {j:Nat} {x:Ap} (hx:l[j]? = some x):erX s R Z l c x=0:=by
 have hj:j<l.length:=(List.getElem?_eq_some_iff.1 hx).1
 apply Classical.byContradiction
 intro hne
 have h1:erJ s R Z l c (j+1)≠0:=by
  rw[erJ,getA hx]
  split
  ·next h=>exact h
  ·exact hne
 exact h1 (by rw[<-erJ_le (show j+1<=l.length by omega) h1];exact h)
theorem erN_zero {s:Sys} {R:List (List Pc)} {Z:List (List Int)} {m:Nat} (h:(erN s R Z m).2=0) {c:Nat} (hc:c<m):erC s R Z (apS (c:Int) R) c=0:=by
 apply Classical.byContradiction
 intro hne
 have h1:(erN s R Z (c+1)).2≠0:=by
  rw[erN]
  split
  ·next h=>exact h
  ·exact hne
 exact h1 (by rw[<-erN_le (show c+1<=m by omega) h1];exact h)
theorem erC_parts {s:Sys} {R:List (List Pc)} {Z:List (List Int)} {l:List Ap} {c:Nat} (h:erC s R Z l c=0):(s.po=2->l ≠ []->edfV s R Z l c=0)/\erJ s R Z l c l.length=0:=by
 unfold erC at h
 split at h
 ·next h1=>exact absurd h h1.2.2
 ·next h1=>exact⟨λ h2 h3=>Classical.byContradiction λ h4=>h1 ⟨h2,h3,h4⟩,h⟩
theorem bdJ_val {s:Sys} {R:List (List Pc)} {Z:List (List Int)} {l:List Ap} {c:Nat} {f:Nat->Int} (k:Nat):∀ n,n<=l.length->(∃ x ∈ l,x.i=k/\x.p.ti=false/\bdJ s R Z l c f n k=bndX s R Z l c x)\/((∀ (j:Nat) (x:Ap),j<n->l[j]? = some x->x.i=k->x.p.ti=true)/\bdJ s R Z l c f n k=f k)
 | 0,_=>.inr ⟨λ j x h=>absurd h (by omega),rfl⟩
 | n+1,hn=>by
  have ih:=bdJ_val (s:=s) (R:=R) (Z:=Z) (l:=l) (c:=c) (f:=f) k n (by omega)
  have hx:l[n]? = some l[n]:=List.getElem?_eq_getElem (by omega)
  rw[bdJ,getA hx]
  by_cases ht:l[n].p.ti=true
  ·rw[if_pos ht]
   rcases ih with h | ⟨h1,h2⟩
   ·exact .inl h
   ·refine .inr ⟨λ j x hj hjx hk=>?_,h2⟩
    by_cases e:j=n
    ·subst e;rw[hx] at hjx;cases hjx;exact ht
    ·exact h1 j x (by omega) hjx hk
  ·rw[if_neg ht]
   by_cases hk:k=l[n].i
   ·rw[if_pos hk]
    exact .inl ⟨l[n],List.getElem_mem _,hk.symm,by simpa using ht,rfl⟩
   ·rw[if_neg hk]
    rcases ih with h | ⟨h1,h2⟩
    ·exact .inl h
    ·refine .inr ⟨λ j x hj hjx hki=>?_,h2⟩
     by_cases e:j=n
     ·subst e;rw[hx] at hjx;cases hjx;exact absurd hki.symm hk
     ·exact h1 j x (by omega) hjx hki
theorem apL_in {c:Int} {i:Nat} {l:List Pc} {k:Nat} {x:Pc} (hx:l[k]? = some x) (hc:x.co=c):∀ {n:Nat},k<n->n<=l.length->(⟨x,i,k⟩:Ap) ∈ apL c i l n
 | 0,h,_=>absurd h (by omega)
 | n+1,h,hn=>by
  have hy:l[n]? = some l[n]:=List.getElem?_eq_getElem (by omega)
  rw[apL_next hy,List.mem_append]
  by_cases e:k=n
  ·subst e
   rw[hx] at hy
   right
   rw[<-Option.some.inj hy,if_pos hc]
   simp
  ·exact .inl (apL_in hx hc (by omega) (by omega))
theorem apN_in {c:Int} {L:List (List Pc)} {i k:Nat} {l:List Pc} {x:Pc} (hl:L[i]? = some l) (hx:l[k]? = some x) (hc:x.co=c):∀ {n:Nat},i<n->n<=L.length->(⟨x,i,k⟩:Ap) ∈ apN c L n
 | 0,h,_=>absurd h (by omega)
 | n+1,h,hn=>by
  obtain⟨m,hm⟩:∃ m,L[n]? = some m:=⟨_,List.getElem?_eq_getElem (by omega)⟩
  rw[apN_next hm,List.mem_append]
  by_cases e:i=n
  ·subst e
   rw[hl] at hm
   cases hm
   exact .inr (apL_in hx hc (List.getElem?_eq_some_iff.1 hx).1 (Nat.le_refl _))
  ·exact .inl (apN_in hl hx hc (by omega) (by omega))
theorem apS_in {c:Int} {L:List (List Pc)} {i k:Nat} {l:List Pc} {x:Pc} (hl:L[i]? = some l) (hx:l[k]? = some x) (hc:x.co=c):(⟨x,i,k⟩:Ap) ∈ apS c L:=apN_in hl hx hc (List.getElem?_eq_some_iff.1 hl).1 (Nat.le_refl _)
theorem ap_one {s:Sys} {L:List (List Pc)} (h:plR s L=true) {c:Int} {x y:Ap} (hx:x ∈ apS c (rkV s L)) (hy:y ∈ apS c (rkV s L)) (he:x.i=y.i):x=y:=by
 obtain⟨l1,a1,a2,a3⟩:=apS_mem hx
 obtain⟨l2,b1,b2,b3⟩:=apS_mem hy
 have hi:x.i<L.length:=by have:=(List.getElem?_eq_some_iff.1 a1).1;rw[rkV_len] at this;exact this
 obtain⟨l,hl⟩:∃ l,L[x.i]? = some l:=⟨_,List.getElem?_eq_getElem hi⟩
 have hv:=rkV_at (s:=s) hl
 rw[hv] at a1
 cases a1
 rw[<-he,hv] at b1
 cases b1
 obtain⟨p,hp,e1⟩:=rkL_at a2
 obtain⟨q,hq,e2⟩:=rkL_at b2
 have hk:=okL_core_one (okS_at (plR_parts h).2.2 hl) hp hq (by rw[e1] at a3;rw[e2] at b3;exact a3.trans b3.symm)
 obtain⟨xp,xi,xk⟩:=x
 obtain⟨yp,yi,yk⟩:=y
 dsimp only at *
 subst he
 subst hk
 rw[a2] at b2
 cases b2
 rfl
theorem sumB_rk (s:Sys) (L:List (List Pc)) (i:Nat) (l:List Pc) (s2:Sys) (hla:s2.la=s.la):∀ k,k<=l.length->sumB s2 (rkL s2 L i l) k=sumB s l k
 | 0,_=>rfl
 | k+1,hk=>by
  have ih:=sumB_rk s L i l s2 hla k (by omega)
  have hx:l[k]? = some l[k]:=List.getElem?_eq_getElem (by omega)
  have h1:(rkL s2 L i l)[k]? = some (rkP s2 L i l[k]):=by unfold rkL;rw[List.getElem?_map,hx];rfl
  rw[sumB_next h1,sumB_next hx,ih,hla]
  rfl
theorem lfN_sum (s:Sys) (d:Int) (l:List Pc):∀ k,lfN s.la d l k=d-sumB s l k
 | 0=>by rw[lfN,sumB];omega
 | k+1=>by rw[lfN,sumB,lfN_sum s d l k];omega
theorem okL_de {s:Sys} {t:Tsk} {l:List Pc} {k:Nat} {x:Pc} (h:okL s t l=true) (hx:l[k]? = some x) (ht:x.ti=false):x.de=t.d-sumB s l k/\1<=x.de:=by
 have h1:=okL_piece h hx
 unfold badP bad3 at h1
 rw[ht] at h1
 simp only[Bool.or_eq_false_iff,Bool.false_and,Bool.not_false,Bool.true_and,Bool.not_eq_false',decide_eq_true_eq,decide_eq_false_iff_not] at h1
 have h2:=lfN_sum s t.d l k
 have h3:=h1.2.2.2
 omega
theorem bnd_dead {s:Sys} {L:List (List Pc)} {w:Go.World} {A:Option Go.Addr} {N:Nat} (hl:RPl w A N L) (h:plR s L=true) (h0:(erN s (rkV s L) (ceV s L) s.co.toNat).2=0) {k:Nat} {t:Tsk} (ht:s.ts[k]? = some t):∀ c,c<=s.co.toNat->bdC s (rkV s L) (ceV s L) c k<=t.d
 | 0,_=>by have:=((right_nums (plR_parts h).1).2.2.2 t (List.mem_of_getElem? ht)).2;rw[bdC];show (0:Int)<=t.d;omega
 | c+1,hc=>by
  have ih:=bnd_dead hl h h0 ht c (by omega)
  obtain⟨hE,hJ⟩:=erC_parts (erN_zero h0 (show c<s.co.toNat by omega))
  rw[bdC]
  rcases bdJ_val (s:=s) (R:=rkV s L) (Z:=ceV s L) (l:=apS (c:Int) (rkV s L)) (c:=c) (f:=bdC s (rkV s L) (ceV s L) c) k _ (Nat.le_refl _)with⟨y,hy,hyi,hyt,e⟩ | ⟨_,e⟩
  ·rw[e]
   obtain⟨l,x,t',e1,e2,e3,e4,e5,e6,e7,_⟩:=rk_ap hl h hy
   rw[hyi,ht] at e3
   cases e3
   unfold bndX
   by_cases hpo:s.po=2
   ·rw[if_pos hpo,hyi,getT ht];exact Int.le_refl _
   ·rw[if_neg hpo]
    obtain⟨j,hj⟩:=List.mem_iff_getElem?.1 hy
    have z:=erJ_zero hJ hj
    unfold erX at z
    rw[if_neg (by rintro(e | e);rw[hyt] at e;cases e;exact hpo e)] at z
    have b:=rsp.bn_ok z
    have hxt:x.ti=false:=by rw[e4] at hyt;exact hyt
    have ho:=okS_at (plR_parts h).2.2 e1
    rw[hyi,getT ht] at ho
    obtain⟨d1,d2⟩:=okL_de ho e2 hxt
    have hde:y.p.de=x.de:=by rw[e4];rfl
    have hk:=(List.getElem?_eq_some_iff.1 e2).1
    have q:=sumB_rk s L y.i l s rfl y.k (by omega)
    have hg:(rkV s L).getD y.i []=rkL s L y.i l:=by simp[List.getD,e5]
    rw[hg,q]
    have b5:=b.2.2.2.2.1
    have b1:=b.2.1
    unfold fixV
    rw[hde] at b5 b1 ⊢
    rcases b5 with b5 | b5 <;> omega
  ·rw[e];exact ih
def ups (l m:List Pc):Prop:=l.length=m.length/\∀ (k:Nat) (x y:Pc),l[k]? = some x->m[k]? = some y->zp x=zp y
theorem ups_rk (s:Sys) (L:List (List Pc)) (i:Nat) (l:List Pc):ups (rkL s L i l) l:=by
 refine⟨by unfold rkL;rw[List.length_map],λ k x y hx hy=>?_⟩
 obtain⟨x',h1,rfl⟩:=rkL_at hx
 rw[hy] at h1
 cases h1
 rfl
theorem zp_get {l m:List Pc} (h:ups l m) (k:Nat):zp (l.getD k pc0)=zp (m.getD k pc0):=by
 by_cases hk:k<l.length
 ·have h1:l[k]? = some l[k]:=List.getElem?_eq_getElem hk
  have hk2:k<m.length:=by rw[<-h.1];exact hk
  have h2:m[k]? = some m[k]:=List.getElem?_eq_getElem hk2
  rw[getD_some h1,getD_some h2]
  exact h.2 k _ _ h1 h2
 ·have hk2:¬k<m.length:=by rw[<-h.1];exact hk
  simp[List.getD,hk,hk2]
theorem zp_co {x y:Pc} (h:zp x=zp y):x.co=y.co/\x.bu=y.bu/\x.de=y.de/\x.ti=y.ti:=by
 unfold zp at h
 simp only[Pc.mk.injEq] at h
 exact⟨h.1,h.2.1,h.2.2.1,h.2.2.2.2⟩
theorem smN_ups {l m:List Pc} (h:ups l m):∀ k,smN l k=smN m k
 | 0=>rfl
 | k+1=>by rw[smN,smN,smN_ups h k,(zp_co (zp_get h k)).2.1]
theorem lfN_ups {la d:Int} {l m:List Pc} (h:ups l m):∀ k,lfN la d l k=lfN la d m k
 | 0=>rfl
 | k+1=>by rw[lfN,lfN,lfN_ups h k,(zp_co (zp_get h k)).2.1]
theorem bad2_ups {l m:List Pc} (h:ups l m) (i:Nat) {x y:Pc} (hxy:zp x=zp y):bad2 l i x=bad2 m i y:=by
 have e:∀ {l m:List Pc} {x y:Pc},ups l m->zp x=zp y->bad2 l i x=true->bad2 m i y=true:=λ {l m x y} h hxy hb=>by
  unfold bad2 at hb
  rw[List.any_eq_true] at hb
  obtain⟨u,hu,hc⟩:=hb
  obtain⟨k,hk⟩:=List.mem_iff_getElem?.1 hu
  rw[List.getElem?_take] at hk
  split at hk
  ·next hki =>
   have hkl:=(List.getElem?_eq_some_iff.1 hk).1
   have h2:m[k]? = some (m[k]'(by rw[<-h.1];exact hkl)):=List.getElem?_eq_getElem _
   have h3:=(zp_co (h.2 k _ _ hk h2)).1
   refine bad2_next hki h2 ?_
   rw[<-h3,<-(zp_co hxy).1]
   simpa using hc
  ·cases hk
 have h':ups m l:=⟨h.1.symm,λ k a b ha hb=>(h.2 k b a hb ha).symm⟩
 cases e1:bad2 l i x with
 | true=>exact(e h hxy e1).symm
 | false =>
  cases e2:bad2 m i y with
  | false=>rfl
  | true=>rw[e h' hxy.symm e2] at e1;cases e1
theorem okN_ups {s:Sys} {t:Tsk} {l m:List Pc} (h:ups l m):∀ k,okN s t l k=okN s t m k
 | 0=>rfl
 | k+1=>by
  have hz:=zp_get h k
  obtain⟨h1,h2,h3,h4⟩:=zp_co hz
  rw[okN,okN,okN_ups h k]
  unfold badP bad1 bad3
  rw[bad2_ups h k hz,lfN_ups h k,h.1,h1,h2,h3,h4]
theorem okL_ups {s:Sys} {t:Tsk} {l m:List Pc} (h:ups l m):okL s t l=okL s t m:=by
 unfold okL
 have e:decide (l = [])=decide (m = []):=by
  by_cases hl:l = []
  ·have:m = []:=List.length_eq_zero_iff.1 (by rw[<-h.1,hl];rfl)
   simp[hl,this]
  ·have:m ≠ []:=λ hm=>hl (List.length_eq_zero_iff.1 (by rw[h.1,hm];rfl))
   simp[hl,this]
 rw[okN_ups h,smN_ups h,h.1,e,(zp_co (zp_get h (m.length-1))).2.2.2]
theorem tL_ups {c:Int} {l m:List Pc} (h:ups l m):∀ k,tL c l k=tL c m k/\uL c l k=uL c m k
 | 0=>⟨rfl,rfl⟩
 | k+1=>by
  obtain⟨h1,h2,h3,h4⟩:=zp_co (zp_get h k)
  obtain⟨e1,e2⟩:=tL_ups (c:=c) h k
  rw[tL,tL,uL,uL,e1,e2,h1,h4]
  exact⟨rfl,rfl⟩
theorem rk_ups (s:Sys) (L:List (List Pc)) (i:Nat):ups ((rkV s L).getD i []) (L.getD i []):=by
 cases h:L[i]? with
 | none =>
  have h1:(rkV s L)[i]? = none:=by rw[List.getElem?_eq_none_iff] at h ⊢;rw[rkV_len];exact h
  simp only[List.getD,h,h1]
  exact⟨rfl,λ k x y hx=>by cases hx⟩
 | some l =>
  have h1:=rkV_at (s:=s) h
  simp only[List.getD,h,h1]
  exact ups_rk s L i l
theorem plR_rk (s:Sys) (L:List (List Pc)):plR s (rkV s L)=plR s L:=by
 have hS:∀ n,okS s (rkV s L) n=okS s L n:=λ n=>by
  induction n with
  | zero=>rfl
  | succ n ih=>rw[okS,okS,ih,okL_ups (rk_ups s L n)]
 have hT:∀ c n,tN (rkV s L) c n=tN L c n/\uN s (rkV s L) c n=uN s L c n:=λ c n=>by
  induction n with
  | zero=>exact⟨rfl,rfl⟩
  | succ n ih =>
   have h:=rk_ups s L n
   rw[tN,tN,uN,uN,ih.1,ih.2,(tL_ups h _).1,(tL_ups h _).2,h.1]
   exact⟨rfl,rfl⟩
 have hC:∀ n,okC s (rkV s L) n=okC s L n:=λ n=>by
  induction n with
  | zero=>rfl
  | succ n ih=>rw[okC,okC,ih,rkV_len,(hT _ _).1,(hT _ _).2]
 unfold plR
 rw[rkV_len,hS,hC]
theorem ahead_rk (s:Sys) (L:List (List Pc)) (task:Int) (p:Pc):aheadV task p (rkV s L)=aheadV task p L:=by
 have hL:∀ (i:Nat) (l m:List Pc),ups l m->∀ k,aL task p i l k=aL task p i m k:=λ i l m h k=>by
  induction k with
  | zero=>rfl
  | succ k ih =>
   obtain⟨h1,h2,h3,h4⟩:=zp_co (zp_get h k)
   rw[aL,aL,ih]
   unfold aC
   rw[h1,h3,h4]
 have hN:∀ n,aN task p (rkV s L) n=aN task p L n:=λ n=>by
  induction n with
  | zero=>rfl
  | succ n ih =>
   have h:=rk_ups s L n
   rw[aN,aN,ih,hL n _ _ h,h.1]
 unfold aheadV
 rw[rkV_len,hN]
theorem rkV_rk (s:Sys) (L:List (List Pc)):rkV s (rkV s L)=rkV s L:=by
 apply List.ext_getElem?
 intro i
 cases h:L[i]? with
 | none =>
  have h1:(rkV s L)[i]? = none:=by rw[List.getElem?_eq_none_iff] at h ⊢;rw[rkV_len];exact h
  have h2:(rkV s (rkV s L))[i]? = none:=by rw[List.getElem?_eq_none_iff] at h1 ⊢;rw[rkV_len];exact h1
  rw[h1,h2]
 | some l =>
  have h1:=rkV_at (s:=s) h
  rw[rkV_at (s:=s) h1,h1]
  congr 1
  unfold rkL
  rw[List.map_map]
  apply List.map_congr_left
  intro x _
  show rkP s (rkV s L) i (rkP s L i x)=rkP s L i x
  unfold rkP
  simp only[Pc.mk.injEq,true_and,and_true]
  split
  ·next hc=>rw[ahead_rk];rfl
  ·rfl
end Go.Proofs.YtlecikdjoekknaaGreat.pln
end
section
namespace Go.Proofs.YtlecikdjoekknaaGreat.pln
open Go.ChangeShapes Go.WideShapes Go.ChangeAt Go.RowKit Go.Deep val
def bS (ts:List Tsk):Sys:=⟨2,1,1,0,0,0,1,0,ts⟩
theorem x1 : chkV (bS [⟨10,10,3, []⟩,⟨5,5,2, []⟩]) [[⟨0,3,10,0,false⟩], [⟨0,2,5,0,false⟩]]=([5,2], -1,0):=by kernel_rfl
theorem x2 : (chkV (bS [⟨10,10,8, []⟩]) [[⟨0,5,5,0,true⟩,⟨1,3,5,0,false⟩]]).1 = [8]/\(chkV (bS [⟨10,10,8, []⟩]) [[⟨0,5,5,0,true⟩,⟨1,3,5,0,false⟩]]).2.2=0:=⟨by kernel_rfl,by kernel_rfl⟩
theorem x3 : (chkV (bS [⟨10,10,8, []⟩,⟨5,5,2, []⟩]) [[⟨0,8,10,0,false⟩], [⟨0,2,5,0,false⟩]]).2=(0,12):=by kernel_rfl
theorem sz {a:Int} (h:0<=a/\a<=1000):inR a:=inR_small (by omega)
abbrev CheckIs : Prop:=∀ (s:Sys) (A:Option Addr) (n c:Nat) (A':Option Addr) (N c':Nat) (L:List (List Pc)) (w:World),RSys w A n c s->RPl w A' N L->Calls Tryz.prog 18 #[sysV s A n c,.slice A' N c'] w λ e w'=>∃ v,e=.returned (.tuple #[v,.int .i64 (chkV s L).2.1,.int .i64 (chkV s L).2.2])/\But No w w'/\Ov w' v (chkV s L).1
end Go.Proofs.YtlecikdjoekknaaGreat.pln
end
