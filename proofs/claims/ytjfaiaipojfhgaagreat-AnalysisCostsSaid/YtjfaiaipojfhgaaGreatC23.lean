/- Part 23 of a proof: PlR12 PlS1 PlE PlS2. -/
import Derived.Test.YtjfaiaipojfhgaaGreatC05
import Derived.Test.YtjfaiaipojfhgaaGreatC20
import Derived.Test.YtjfaiaipojfhgaaGreatC22
section
namespace Go.Proofs.YtjfaiaipojfhgaaGreat.pln
open Go.ChangeShapes Go.WideShapes Go.ChangeAt Go.RowKit Go.Deep val ter
def sumB (s:Sys) (l:List Pc):Nat→Int
 | 0=>0
 | k+1=>sumB s l k+(l.getD k pc0).bu+s.la-1
def ap0 : Ap:=⟨pc0,0,0⟩
def bndX (s:Sys) (R:List (List Pc)) (Z:List (List Int)) (l:List Ap) (c:Nat) (x:Ap):Int:=if s.po=2 then (s.ts.getD x.i ts0).d else (fixV s R Z l c x).1+sumB s (R.getD x.i []) x.k
def bdJ (s:Sys) (R:List (List Pc)) (Z:List (List Int)) (l:List Ap) (c:Nat) (f:Nat→Int):Nat→Nat→Int
 | 0=>f
 | j+1=>if (l.getD j ap0).p.ti=true then bdJ s R Z l c f j else fun i=>if i=(l.getD j ap0).i then bndX s R Z l c (l.getD j ap0) else bdJ s R Z l c f j i
def erX (s:Sys) (R:List (List Pc)) (Z:List (List Int)) (l:List Ap) (c:Nat) (x:Ap):Int:=if x.p.ti=true∨s.po=2 then 0 else (fixV s R Z l c x).2
def erJ (s:Sys) (R:List (List Pc)) (Z:List (List Int)) (l:List Ap) (c:Nat):Nat→Int
 | 0=>0
 | j+1=>if erJ s R Z l c j≠0 then erJ s R Z l c j else erX s R Z l c (l.getD j ap0)
def erC (s:Sys) (R:List (List Pc)) (Z:List (List Int)) (l:List Ap) (c:Nat):Int:=if s.po=2∧l ≠ []∧edfV s R Z l c≠0 then edfV s R Z l c else erJ s R Z l c l.length
def bdC (s:Sys) (R:List (List Pc)) (Z:List (List Int)):Nat→Nat→Int
 | 0=>fun _=>0
 | c+1=>bdJ s R Z (apS (c:Int) R) c (bdC s R Z c) (apS (c:Int) R).length
def erN (s:Sys) (R:List (List Pc)) (Z:List (List Int)):Nat→Int × Int
 | 0=>(-1,0)
 | c+1=>if (erN s R Z c).2≠0 then erN s R Z c else if erC s R Z (apS (c:Int) R) c≠0 then ((c:Int),erC s R Z (apS (c:Int) R) c) else (-1,0)
def chkV (s:Sys) (L:List (List Pc)):List Int × Int × Int :=
 if plR s L=true then (if (erN s (rkV s L) (ceV s L) s.co.toNat).2≠0 then ([],erN s (rkV s L) (ceV s L) s.co.toNat) else ((List.range L.length).map (bdC s (rkV s L) (ceV s L) s.co.toNat), -1,0)) else ([], -1,1)
theorem erJ_le {s:Sys} {R:List (List Pc)} {Z:List (List Int)} {l:List Ap} {c:Nat}:∀ {m j:Nat},j≤m→erJ s R Z l c j≠0→erJ s R Z l c m=erJ s R Z l c j
 | 0,j,h,_=>by
    obtain rfl:j=0:=by omega
    rfl
 | m+1,j,h,h0=>by
  by_cases e:j=m+1
  ·rw[e]
  ·have ih:=erJ_le (m:=m) (by omega) h0
   rw[erJ,if_pos (by rw[ih];exact h0),ih]
theorem erN_le {s:Sys} {R:List (List Pc)} {Z:List (List Int)}:∀ {m j:Nat},j≤m→(erN s R Z j).2≠0→erN s R Z m=erN s R Z j
 | 0,j,h,_=>by
    obtain rfl:j=0:=by omega
    rfl
 | m+1,j,h,h0=>by
  by_cases e:j=m+1
  ·rw[e]
  ·have ih:=erN_le (m:=m) (by omega) h0
   rw[erN,if_pos (by rw[ih];exact h0),ih]
theorem getA {l:List Ap} {j:Nat} {x:Ap} (h:l[j]? = some x):l.getD j ap0=x:=by simp[List.getD,h]
theorem okL_bu {s:Sys} {t:Tsk} {l:List Pc} {k:Nat} {x:Pc} (h:okL s t l=true) (hx:l[k]? = some x):1≤x.bu∧x.bu≤t.w:=by
 have hk:k<l.length:=(List.getElem?_eq_some_iff.1 hx).1
 unfold okL at h
 simp only[Bool.and_eq_true] at h
 have h1:=okN_le (show k+1≤l.length by omega) h.2.1
 rw[okN,getD_some hx,Bool.and_eq_true] at h1
 have h2:=h1.2
 unfold badP bad1 at h2
 simp only[Bool.not_eq_true',Bool.or_eq_false_iff,decide_eq_false_iff_not] at h2
 omega
theorem rkL_at {s:Sys} {L:List (List Pc)} {i:Nat} {l:List Pc} {k:Nat} {y:Pc} (h:(rkL s L i l)[k]? = some y):∃ x,l[k]? = some x∧y=rkP s L i x:=by
 unfold rkL at h
 rw[List.getElem?_map] at h
 cases e:l[k]? with
 | none=>rw[e] at h;cases h
 | some x=>rw[e] at h;exact⟨x,rfl,by simpa using h.symm⟩
theorem rk_ap {s:Sys} {L:List (List Pc)} {w:World} {A:Option Addr} {N:Nat} (hl:RPl w A N L) (h:plR s L=true) {c:Int} {y:Ap} (hy:y ∈ apS c (rkV s L)):∃ l x t,L[y.i]? = some l∧l[y.k]? = some x∧s.ts[y.i]? = some t∧y.p=rkP s L y.i x∧(rkV s L)[y.i]? = some (rkL s L y.i l)∧(rkL s L y.i l)[y.k]? = some y.p∧y.p.co=c∧(1≤x.bu∧x.bu≤t.w)∧inR x.de∧y.k<8:=by
 obtain⟨hr,hlen,hok⟩:=plR_parts h
 obtain⟨ls,h1,h2,h3⟩:=apS_mem hy
 have hi:y.i<L.length:=by have:=(List.getElem?_eq_some_iff.1 h1).1;rw[rkV_len] at this;exact this
 obtain⟨l,hli⟩:∃ l,L[y.i]? = some l:=⟨_,List.getElem?_eq_getElem hi⟩
 obtain⟨t,hti⟩:∃ t,s.ts[y.i]? = some t:=⟨_,List.getElem?_eq_getElem (by omega)⟩
 have h4:=rkV_at (s:=s) hli
 rw[h4] at h1
 cases h1
 obtain⟨x,hx,hxp⟩:=rkL_at h2
 have h5:=okS_at hok hli
 rw[getT hti] at h5
 obtain⟨_,_,_,_,_,_,_,_,hp⟩:=hl.at1 hli
 have h8:=okL_len h5
 have hk:=(List.getElem?_eq_some_iff.1 hx).1
 exact⟨l,x,t,hli,hx,hti,hxp,h4,h2,h3,okL_bu h5 hx,(hp.fit x (List.mem_of_getElem? hx)).2.2.1,by omega⟩
theorem rk_inP {s:Sys} {L:List (List Pc)} {w:World} {A:Option Addr} {N:Nat} (hl:RPl w A N L) (h:plR s L=true) (c:Int):InP (rkV s L) (apS c (rkV s L))∧(∀ y ∈ apS c (rkV s L),y.k≤8)∧(apS c (rkV s L)).length≤200:=by
 have hr:=(plR_parts h).1
 refine⟨fun y hy=>?_,fun y hy=>?_,?_⟩
 ·obtain⟨l,x,t,h1,h2,h3,h4,h5,h6,h7,h8,h9,_⟩:=rk_ap hl h hy
  have hw:=((right_nums hr).2.2.2 t (List.mem_of_getElem? h3)).1
  refine⟨⟨_,h5,h6⟩,?_,?_⟩
  ·rw[h4];show 0≤x.bu∧x.bu≤1099511627776;omega
  ·rw[h4];exact h9
 ·obtain⟨_,_,_,_,_,_,_,_,_,_,_,_,h10⟩:=rk_ap hl h hy
  omega
 ·obtain⟨hL,h8⟩:=plR_small h
  have h1:=apN_len (c:=c) (L:=rkV s L) (B:=8) (fun m hm=>by obtain⟨i,l,hl,rfl⟩:=rkV_mem hm;unfold rkL;rw[List.length_map];exact h8 l (List.mem_of_getElem? hl)) (rkV s L).length (Nat.le_refl _)
  unfold apS
  rw[rkV_len] at h1 ⊢
  omega
theorem sumB_next {s:Sys} {l:List Pc} {k:Nat} {x:Pc} (h:l[k]? = some x):sumB s l (k+1)=sumB s l k+x.bu+s.la-1:=by rw[sumB,getD_some h]
end Go.Proofs.YtjfaiaipojfhgaaGreat.pln
end
section
namespace Go.Proofs.YtjfaiaipojfhgaaGreat.pln
open val ter
def fpL (i:Nat) (l:List Pc):Nat→List (Nat × Pc)
 | 0=>[]
 | k+1=>fpL i l k ++ [(i,l.getD k pc0)]
def fpN (L:List (List Pc)):Nat→List (Nat × Pc)
 | 0=>[]
 | i+1=>fpN L i ++ fpL i (L.getD i []) (L.getD i []).length
theorem aL_count (task:Int) (p:Pc) (i:Nat) (l:List Pc):∀ k,aL task p i l k=(((fpL i l k).countP fun z=>aC task p z.1 z.2:Nat):Int)
 | 0=>rfl
 | k+1=>by
  rw[aL,aL_count task p i l k,fpL,List.countP_append]
  by_cases h:aC task p i (l.getD k pc0)=true
  ·rw[if_pos h,List.countP_cons_of_pos (by exact h)];simp
  ·rw[if_neg h,List.countP_cons_of_neg (by exact h)];simp
theorem aN_count (task:Int) (p:Pc) (L:List (List Pc)):∀ i,aN task p L i=(((fpN L i).countP fun z=>aC task p z.1 z.2:Nat):Int)
 | 0=>rfl
 | i+1=>by
  rw[aN,aN_count task p L i,aL_count,fpN,List.countP_append];simp
theorem fpL_mem {i:Nat} {l:List Pc} {z:Nat × Pc}:∀ {k:Nat},k≤l.length→(z ∈ fpL i l k ↔ z.1=i∧∃ j,j<k∧l[j]? = some z.2)
 | 0,_=>by simp[fpL]
 | k+1,hk=>by
  have hx:l[k]? = some l[k]:=List.getElem?_eq_getElem (by omega)
  rw[fpL,List.mem_append,fpL_mem (by omega),List.mem_singleton,getD_some hx]
  constructor
  ·rintro(⟨h1,j,hj,h2⟩ | rfl)
   ·exact⟨h1,j,by omega,h2⟩
   ·exact⟨rfl,k,by omega,hx⟩
  ·rintro⟨h1,j,hj,h2⟩
   by_cases e:j=k
   ·subst e
    rw[hx] at h2
    right
    obtain⟨a,b⟩:=z
    dsimp only at h1 h2
    rw[h1,Option.some.inj h2]
   ·exact .inl ⟨h1,j,by omega,h2⟩
theorem fpN_mem {L:List (List Pc)} {z:Nat × Pc}:∀ {i:Nat},i≤L.length→(z ∈ fpN L i ↔ z.1<i∧∃ (l:List Pc) (j:Nat),L[z.1]? = some l∧l[j]? = some z.2)
 | 0,_=>by simp[fpN]
 | i+1,hi=>by
  have hl:L[i]? = some L[i]:=List.getElem?_eq_getElem (by omega)
  rw[fpN,List.mem_append,fpN_mem (by omega),getL hl,fpL_mem (Nat.le_refl _)]
  constructor
  ·rintro(⟨h1,h2⟩ | ⟨h1,j,hj,h2⟩)
   ·exact⟨by omega,h2⟩
   ·exact⟨by omega,L[i],j,by rw[h1];exact hl,h2⟩
  ·rintro⟨h1,l,j,h2,h3⟩
   by_cases e:z.1=i
   ·rw[e,hl] at h2
    cases h2
    exact .inr ⟨e,j,(List.getElem?_eq_some_iff.1 h3).1,h3⟩
   ·exact .inl ⟨by omega,l,j,h2,h3⟩
theorem countP_lt {α:Type} {p q:α→Bool}:∀ {l:List α},(∀ z ∈ l,p z=true→q z=true)→(∃ z ∈ l,q z=true∧p z=false)→l.countP p<l.countP q
 | [],_,⟨z,hz,_⟩=>by cases hz
 | x :: l,h,⟨z,hz,hq,hp⟩=>by
  have hle:l.countP p≤l.countP q:=List.countP_mono_left (fun y hy=>h y (by simp[hy]))
  rw[List.countP_cons,List.countP_cons]
  rcases List.mem_cons.1 hz with rfl | hz
  ·rw[hp,hq];simp;omega
  ·have ih:=countP_lt (l:=l) (fun y hy=>h y (by simp[hy])) ⟨z,hz,hq,hp⟩
   by_cases e:p x=true
   ·rw[e,h x (by simp) e];simp;omega
   ·split <;> split <;> simp_all <;> omega
theorem okL_piece {s:Sys} {t:Tsk} {l:List Pc} {k:Nat} {x:Pc} (h:okL s t l=true) (hx:l[k]? = some x):badP s t l k x=false:=by
 have hk:k<l.length:=(List.getElem?_eq_some_iff.1 hx).1
 unfold okL at h
 simp only[Bool.and_eq_true] at h
 have h1:=okN_le (show k+1≤l.length by omega) h.2.1
 rw[okN,getD_some hx,Bool.and_eq_true] at h1
 simpa using h1.2
theorem okL_core_one {s:Sys} {t:Tsk} {l:List Pc} {k k':Nat} {x y:Pc} (h:okL s t l=true) (hx:l[k]? = some x) (hy:l[k']? = some y) (hc:x.co=y.co):k=k':=by
 have aux:∀ {k k':Nat} {x y:Pc},l[k]? = some x→l[k']? = some y→x.co=y.co→¬k<k':=fun {k k' x y} hx hy hc hlt=>by
  have h1:=okL_piece h hy
  unfold badP at h1
  rw[bad2_next hlt hx hc] at h1
  simp at h1
 have h1:=aux hx hy hc
 have h2:=aux hy hx hc.symm
 omega
theorem okL_tight {s:Sys} {t:Tsk} {l:List Pc} {k:Nat} {x:Pc} (h:okL s t l=true) (hx:l[k]? = some x) (ht:x.ti=false):k+1=l.length:=by
 have h1:=okL_piece h hx
 unfold badP bad1 at h1
 rw[ht] at h1
 simp only[Bool.or_eq_false_iff] at h1
 have h2:=h1.1.2.2.2.2.1
 simpa using h2
def Bf (i:Nat) (x:Pc) (j:Nat) (y:Pc):Prop:=x.de<y.de∨(x.de=y.de∧i<j)
theorem aC_iff {j:Nat} {y:Pc} {i:Nat} {x:Pc}:aC (j:Int) y i x=true ↔ x.co=y.co∧x.ti=false∧i≠j∧Bf i x j y:=by
 unfold aC Bf
 simp only[Bool.and_eq_true,decide_eq_true_eq,Bool.not_eq_true',decide_eq_false_iff_not,Bool.or_eq_true]
 constructor <;> rintro⟨h1,h2,h3,h4⟩ <;> refine⟨h1,h2,?_,?_⟩ <;> omega
theorem ahead_lt {s:Sys} {L:List (List Pc)} (h:plR s L=true) {i j k m:Nat} {li lj:List Pc} {x y:Pc} (hli:L[i]? = some li) (hlj:L[j]? = some lj) (hx:li[k]? = some x) (hy:lj[m]? = some y) (tx:x.ti=false) (ty:y.ti=false) (hc:x.co=y.co) (hne:i≠j) (hb:Bf i x j y) :
  aheadV (i:Int) x L<aheadV (j:Int) y L:=by
 obtain⟨_,hlen,hok⟩:=plR_parts h
 unfold aheadV
 rw[aN_count,aN_count]
 have:(fpN L L.length).countP (fun z=>aC (i:Int) x z.1 z.2)<(fpN L L.length).countP (fun z=>aC (j:Int) y z.1 z.2):=by
  refine countP_lt (fun z hz hp=>?_) ⟨(i,x),(fpN_mem (Nat.le_refl _)).2 ⟨(List.getElem?_eq_some_iff.1 hli).1,li,k,hli,hx⟩,?_,?_⟩
  ·obtain⟨h1,h2,h3,h4⟩:=aC_iff.1 hp
   obtain⟨_,lz,mz,hlz,hz2⟩:=(fpN_mem (Nat.le_refl _)).1 hz
   refine aC_iff.2 ⟨by rw[h1,hc],h2,fun e=>?_,?_⟩
   ·rw[e,hlj] at hlz
    cases hlz
    have h5:=okS_at hok hlj
    have h6:=okL_core_one h5 hz2 hy (by rw[h1,hc])
    rw[h6,hy] at hz2
    cases hz2
    rw[e] at h4
    unfold Bf at h4 hb
    omega
   ·unfold Bf at h4 hb ⊢;omega
  ·exact aC_iff.2 ⟨hc,tx,hne,hb⟩
  ·cases e:aC (i:Int) x (i,x).1 (i,x).2 with
   | false=>rfl
   | true=>exact absurd rfl (aC_iff.1 e).2.2.1
 omega
theorem ahead_iff {s:Sys} {L:List (List Pc)} (h:plR s L=true) {i j k m:Nat} {li lj:List Pc} {x y:Pc} (hli:L[i]? = some li) (hlj:L[j]? = some lj) (hx:li[k]? = some x) (hy:lj[m]? = some y) (tx:x.ti=false) (ty:y.ti=false) (hc:x.co=y.co) (hne:i≠j) :
  aheadV (i:Int) x L<aheadV (j:Int) y L ↔ Bf i x j y:=by
 constructor
 ·intro hlt
  apply Classical.byContradiction
  intro hb
  have hb2:Bf j y i x:=by unfold Bf at hb ⊢;omega
  have:=ahead_lt h hlj hli hy hx ty tx hc.symm (Ne.symm hne) hb2
  omega
 ·exact ahead_lt h hli hlj hx hy tx ty hc hne
theorem ahead_zp (i:Nat) (x:Pc) (L:List (List Pc)):aheadV (i:Int) (zp x) L=aheadV (i:Int) x L:=by
 unfold aheadV
 rw[aN_count,aN_count]
 rfl
theorem rk_lt {s:Sys} {L:List (List Pc)} (h:plR s L=true) (hpo:s.po=1) {i j k m:Nat} {li lj:List Pc} {x y:Pc} (hli:L[i]? = some li) (hlj:L[j]? = some lj) (hx:li[k]? = some x) (hy:lj[m]? = some y) (ty:y.ti=false) (hc:x.co=y.co) :
  (rkP s L i x).pr<(rkP s L j y).pr ↔ (x.ti=true∨(i≠j∧Bf i x j y)):=by
 obtain⟨hL,h8⟩:=plR_small h
 have hyp:(rkP s L j y).pr=1+aheadV (j:Int) y L:=by unfold rkP;rw[if_pos ⟨hpo,ty⟩,ahead_zp]
 have h0:∀ (a:Nat) (z:Pc),0≤aheadV (a:Int) z L:=fun a z=>by unfold aheadV;rw[aN_count];omega
 cases tx:x.ti with
 | true =>
  have hxp:(rkP s L i x).pr=0:=by unfold rkP;rw[if_neg (by rw[tx];simp)]
  have:=h0 j y
  rw[hxp,hyp]
  simp;omega
 | false =>
  have hxp:(rkP s L i x).pr=1+aheadV (i:Int) x L:=by unfold rkP;rw[if_pos ⟨hpo,tx⟩,ahead_zp]
  rw[hxp,hyp]
  by_cases hne:i=j
  ·subst hne
   rw[hli] at hlj
   cases hlj
   have:=okL_core_one (okS_at (plR_parts h).2.2 hli) hx hy hc
   subst this
   rw[hx] at hy
   cases hy
   simp
  ·have:=ahead_iff h hli hlj hx hy tx ty hc hne
   constructor
   ·intro hl;exact .inr ⟨hne,this.1 (by omega)⟩
   ·rintro(e | ⟨_,hb⟩)
    ·cases e
    ·have:=this.2 hb;omega
end Go.Proofs.YtjfaiaipojfhgaaGreat.pln
end
section
namespace Go.Proofs.YtjfaiaipojfhgaaGreat.dem
structure Less2 (l l':List Wk) (bl bl' rl rl':Int):Prop where
 right:right l' bl' rl'=true
 ask:∀ m,1≤m→askS l' bl' rl' m≤askS l bl rl m
 com:∀ m,1≤m→comS l' bl' rl' m≤comS l bl rl m
 fac:∀ x ∈ l',∃ y ∈ l,y.p=x.p
 ld:ldS rl' l'≤ldS rl l
 least:least l'=0∨(least l≠0∧least l≤least l')
theorem Less2.ov {l l':List Wk} {bl bl' rl rl':Int} (h:Less2 l l' bl bl' rl rl') {f g:Wk→Int} {m:Int} (hs:sN bl' f l' l'.length≤sN bl g l l.length) (ho:ov bl g m l l.length=false):ov bl' f m l' l'.length=false:=by
 obtain⟨h1,h2⟩:=ov_not ho
 cases e:dem.ov bl' f m l' l'.length with
 | false=>rfl
 | true =>
  rcases ov_iff.1 e with e | ⟨j,x,hj,hx,e⟩
  ·omega
  ·obtain⟨y,hy,ey⟩:=h.fac x (List.mem_of_getElem? hx)
   obtain⟨q,hq⟩:=List.mem_iff_getElem?.1 hy
   have:=h2 q y (List.getElem?_eq_some_iff.1 hq).1 hq
   rw[ey] at this;omega
theorem Less2.busy {l l':List Wk} {bl bl' rl rl':Int} (h:Less2 l l' bl bl' rl rl') (hr:dem.right l bl rl=true) {n:Int} (no:comO l bl rl n=false) (nc:comS l bl rl n≤n) :
  ∀ (k:Nat) (m:Int),1≤m→m≤n→busyGo l' bl' rl' k m=(0,11)∨((busyGo l' bl' rl' k m).2=0∧1≤(busyGo l' bl' rl' k m).1∧(busyGo l' bl' rl' k m).1≤n)
 | 0,m,_,_=>.inl rfl
 | k+1,m,m1,m2=>by
  have ho:comO l' bl' rl' m=false:=h.ov (h.com m m1) (comO_mono hr m1 m2 no)
  rw[busyGo,ho,if_neg (by simp)]
  by_cases hc:comS l' bl' rl' m≤m
  ·rw[if_pos hc];exact .inr ⟨rfl,m1,m2⟩
  ·rw[if_neg hc]
   have h1:=h.com m m1
   have h2:=com_mono hr m1 m2
   exact Less2.busy h hr no nc k _ (by omega) (by omega)
theorem Less2.test {l l':List Wk} {bl bl' rl rl':Int} (h:Less2 l l' bl bl' rl rl') (ht:testV l bl rl=0):testV l' bl' rl'=0∨testV l' bl' rl'=11:=by
 unfold testV
 rw[h.right,if_pos rfl]
 by_cases h0:dem.least l'=0
 ·rw[if_pos h0];exact .inl rfl
 ·rw[if_neg h0]
  have hl:=h.least.resolve_left h0
  obtain⟨hr,hh⟩:=test_ok ht
  obtain⟨hb,hg⟩:=hh.resolve_left hl.1
  obtain⟨_,n1,no,nc,_⟩:=busy_ok hb
  have hld:¬4294967296<ldS rl' l':=by
   have:=h.ld
   intro e
   unfold busyP at hb
   rw[hr,if_pos rfl,if_pos (by omega)] at hb
   cases hb
  have hbp:busyP l' bl' rl'=busyGo l' bl' rl' 5000 1:=by unfold busyP;rw[h.right,if_pos rfl,if_neg hld]
  rcases h.busy hr no nc 5000 1 (by omega) n1 with e | ⟨e,n1',n2'⟩
  ·rw[hbp,e,if_pos (by simp)];exact .inr rfl
  ·rw[hbp,if_neg (by omega)]
   have hlb:=least_bd hr
   refine test_fine h.right (by omega) 5000 _ (fun m m1 m2=>?_)
   have hm1:1≤m:=by omega
   have ho:=askO_mono hr hm1 (show m≤(busyP l bl rl).1 by omega) (askO_com hr n1 no)
   have hs:=test_go hr (by omega) 5000 _ hg m (by omega) (by omega)
   have:=h.ask m hm1
   exact⟨h.ov (h.ask m hm1) ho,by omega⟩
def Emb {α:Type} (r:α→α→Prop):List α→List α→Prop
 | [],m=>m = []
 | y :: l,m=>Emb r l m∨∃ x t,m=x :: t∧r x y∧Emb r l t
theorem emb_len {α:Type} {r:α→α→Prop}:∀ {l m:List α},Emb r l m→m.length≤l.length
 | [],m,h=>by rw[Emb] at h;rw[h];exact Nat.le_refl _
 | y :: l,m,h=>by
  rw[Emb] at h
  rcases h with h | ⟨x,t,rfl,_,h⟩
  ·have:=emb_len h;rw[List.length_cons];omega
  ·have:=emb_len h;rw[List.length_cons,List.length_cons];omega
theorem emb_mem {α:Type} {r:α→α→Prop}:∀ {l m:List α},Emb r l m→∀ x ∈ m,∃ y ∈ l,r x y
 | [],m,h,x,hx=>by rw[Emb] at h;rw[h] at hx;cases hx
 | y :: l,m,h,x,hx=>by
  rw[Emb] at h
  rcases h with h | ⟨x',t,rfl,hr,h⟩
  ·obtain⟨z,hz,hq⟩:=emb_mem h x hx;exact⟨z,by simp[hz],hq⟩
  ·rcases List.mem_cons.1 hx with rfl | hx
   ·exact⟨y,by simp,hr⟩
   ·obtain⟨z,hz,hq⟩:=emb_mem h x hx;exact⟨z,by simp[hz],hq⟩
theorem emb_map {α β:Type} {r:α→α→Prop} {q:β→β→Prop} {f g:α→β}:∀ {l m:List α},Emb r l m→(∀ x ∈ m,∀ y ∈ l,r x y→q (f x) (g y))→Emb q (l.map g) (m.map f)
 | [],m,h,_=>by rw[Emb] at h;rw[h];exact rfl
 | y :: l,m,h,hq=>by
  rw[Emb] at h
  rw[List.map_cons,Emb]
  rcases h with h | ⟨x,t,rfl,hr,h⟩
  ·exact .inl (emb_map h (fun x hx z hz=>hq x hx z (by simp[hz])))
  ·exact .inr ⟨f x,t.map f,rfl,hq x (by simp) y (by simp) hr,emb_map h (fun x hx z hz=>hq x (by simp[hx]) z (by simp[hz]))⟩
theorem emb_filter {α:Type} {r:α→α→Prop} {p q:α→Bool}:∀ {l m:List α},Emb r l m→(∀ x ∈ m,∀ y ∈ l,r x y→p x=true→q y=true)→Emb r (l.filter q) (m.filter p)
 | [],m,h,_=>by rw[Emb] at h;rw[h];exact rfl
 | y :: l,m,h,hq=>by
  rw[Emb] at h
  rcases h with h | ⟨x,t,rfl,hr,h⟩
  ·have ih:=emb_filter h (fun x hx z hz=>hq x hx z (by simp[hz]))
   rw[List.filter_cons]
   split
   ·rw[Emb];exact .inl ih
   ·exact ih
  ·have ih:=emb_filter h (fun x hx z hz=>hq x (by simp[hx]) z (by simp[hz]))
   rw[List.filter_cons,List.filter_cons]
   by_cases hp:p x=true
   ·rw[if_pos hp,if_pos (hq x (by simp) y (by simp) hr hp),Emb]
    exact .inr ⟨x,_,rfl,hr,ih⟩
   ·rw[if_neg hp]
    split
    ·rw[Emb];exact .inl ih
    ·exact ih
theorem emb_app {α:Type} {r:α→α→Prop}:∀ {l m l2 m2:List α},Emb r l m→Emb r l2 m2→Emb r (l ++ l2) (m ++ m2)
 | [],m,l2,m2,h,h2=>by rw[Emb] at h;rw[h];exact h2
 | y :: l,m,l2,m2,h,h2=>by
  rw[Emb] at h
  rw[List.cons_append,Emb]
  rcases h with h | ⟨x,t,rfl,hr,h⟩
  ·exact .inl (emb_app h h2)
  ·exact .inr ⟨x,t ++ m2,rfl,hr,emb_app h h2⟩
theorem emb_nil {α:Type} {r:α→α→Prop}:∀ (l:List α),Emb r l []
 | []=>rfl
 | _ :: l=>by rw[Emb];exact .inl (emb_nil l)
theorem emb_sL {r:Wk→Wk→Prop} {f g:Wk→Int}:∀ {l m:List Wk},Emb r l m→(∀ y ∈ l,0≤g y)→(∀ x y,y ∈ l→r x y→f x≤g y)→sL f m≤sL g l
 | [],m,h,_,_=>by rw[Emb] at h;rw[h];exact Int.le_refl _
 | y :: l,m,h,hg,hr=>by
  rw[Emb] at h
  rcases h with h | ⟨x,t,rfl,hq,h⟩
  ·have:=emb_sL h (fun z hz=>hg z (by simp[hz])) (fun x z hz=>hr x z (by simp[hz]));have:=hg y (by simp);rw[sL];omega
  ·have:=emb_sL h (fun z hz=>hg z (by simp[hz])) (fun x z hz=>hr x z (by simp[hz]));have:=hr x y (by simp) hq;rw[sL,sL];omega
def leW (x y:Wk):Prop:=(0≤x.w∧x.w≤y.w)∧x.p=y.p∧x.d=y.d∧x.top=y.top
theorem trm_leW {rl rl' m:Int} {x y:Wk} (hy:okW y=true) (h:leW x y) (hm:1≤m) (_:0≤rl') (hr:rl'≤rl):trm rl' m x≤trm rl m y∧cmt rl' m x≤cmt rl m y:=by
 obtain⟨⟨hx0,hx1⟩,hp,hd,ht⟩:=h
 obtain⟨⟨w0,_⟩,⟨p0,_⟩,d0,_⟩:=okW_iff.1 hy
 have hu:=up_bd hm p0
 have h1:(up m y.p+2)*rl'≤(up m y.p+2)*rl:=Int.mul_le_mul_of_nonneg_left hr (by omega)
 have h2:(up m y.p+1)*x.w≤(up m y.p+1)*y.w:=Int.mul_le_mul_of_nonneg_left hx1 (by omega)
 refine⟨?_,?_⟩
 ·unfold trm fst
  rw[hp,hd,ht]
  split
  ·omega
  ·split
   ·next hdt =>
    have h3:0≤(m-y.d)/y.p:=Int.ediv_nonneg (by omega) (by omega)
    have h4:((m-y.d)/y.p+1)*x.w≤((m-y.d)/y.p+1)*y.w:=Int.mul_le_mul_of_nonneg_left hx1 (by omega)
    omega
   ·omega
 ·unfold cmt
  rw[hp]
  omega
theorem less_emb {l l':List Wk} {bl bl' rl rl':Int} (h:right l bl rl=true) (he:Emb leW l l') (hb:0≤bl'∧bl'≤bl) (hr:0≤rl'∧rl'≤rl):Less2 l l' bl bl' rl rl':=by
 obtain⟨h1,h2,h3,h4⟩:=right_iff.1 h
 have hok:∀ x ∈ l',okW x=true:=fun x hx=>by
  obtain⟨y,hy,⟨q0,q1⟩,q2,q3,_⟩:=emb_mem he x hx
  obtain⟨⟨a1,a2⟩,⟨a3,a4⟩,a5,a6⟩:=okW_iff.1 (h4 y hy)
  exact okW_iff.2 ⟨by omega,by omega,by omega⟩
 have hlen:=emb_len he
 have hr':right l' bl' rl'=true:=right_iff.2 ⟨by omega,by omega,by omega,hok⟩
 refine⟨hr',fun m hm=>?_,fun m hm=>?_,fun x hx=>?_,?_,least_less (okW_d h) (okW_d hr') (fun x hx ht=>?_)⟩
 ·rw[askS_L,askS_L]
  have:=emb_sL (f:=trm rl' m) (g:=trm rl m) he (fun y hy=>(trm_bd hm h3.1 (h4 y hy)).1) (fun x y hy hq=>(trm_leW (h4 y hy) hq hm hr.1 hr.2).1)
  omega
 ·rw[comS_L,comS_L]
  have:=emb_sL (f:=cmt rl' m) (g:=cmt rl m) he (fun y hy=>by have:=trm_bd hm h3.1 (h4 y hy);omega) (fun x y hy hq=>(trm_leW (h4 y hy) hq hm hr.1 hr.2).2)
  omega
 ·obtain⟨y,hy,_,q,_⟩:=emb_mem he x hx
  exact⟨y,hy,q.symm⟩
 ·rw[ldS_L,ldS_L]
  refine emb_sL he (ld_pos h) (fun x y hy hq=>?_)
  obtain⟨⟨q0,q1⟩,q2,_⟩:=hq
  obtain⟨_,⟨p0,_⟩,_⟩:=okW_iff.1 (h4 y hy)
  rw[q2]
  have e1:=tm_mono q0 q1 (show 0<y.p by omega)
  have e2:=tm_mono hr.1 hr.2 (show 0<y.p by omega)
  omega
 ·obtain⟨y,hy,_,_,q3,q4⟩:=emb_mem he x hx
  exact⟨y,hy,by rw[←q4];exact ht,by omega⟩
end Go.Proofs.YtjfaiaipojfhgaaGreat.dem
namespace Go.Proofs.YtjfaiaipojfhgaaGreat.rsp
open dem (Emb emb_mem emb_len)
theorem emb_sL {r:Ld→Ld→Prop} {f g:Ld→Int}:∀ {l m:List Ld},Emb r l m→(∀ y ∈ l,0≤g y)→(∀ x y,y ∈ l→r x y→f x≤g y)→sL f m≤sL g l
 | [],m,h,_,_=>by rw[Emb] at h;rw[h];exact Int.le_refl _
 | y :: l,m,h,hg,hr=>by
  rw[Emb] at h
  rcases h with h | ⟨x,t,rfl,hq,h⟩
  ·have:=emb_sL h (fun z hz=>hg z (by simp[hz])) (fun x z hz=>hr x z (by simp[hz]));have:=hg y (by simp);rw[sL];omega
  ·have:=emb_sL h (fun z hz=>hg z (by simp[hz])) (fun x z hz=>hr x z (by simp[hz]));have:=hr x y (by simp) hq;rw[sL,sL];omega
def leL (x y:Ld):Prop:=(0≤x.w∧x.w≤y.w)∧x.p=y.p∧x.j=y.j
theorem bn_emb {own own' bl bl' rl rl':Int} {a b a' b':List Ld} {limit:Int} (h:right own bl rl a b=true) (ho:0≤own'∧own'≤own) (hb:0≤bl'∧bl'≤bl) (hr:0≤rl'∧rl'≤rl) (ha:Emb leL a a') (hc:Emb leL b b') (h0:(bnP own bl rl a b limit).2=0) :
  (bnP own' bl' rl' a' b' limit).2=11∨((bnP own' bl' rl' a' b' limit).2=0∧(bnP own' bl' rl' a' b' limit).1≤(bnP own bl rl a b limit).1):=by
 obtain⟨h1,h2,h3,h4,h5⟩:=right_iff.1 h
 obtain⟨l1,k1⟩:=okLs_iff.1 h1
 obtain⟨l2,k2⟩:=okLs_iff.1 h2
 have hok:∀ {l l':List Ld},(∀ y ∈ l,okD y=true)→Emb leL l l'→∀ x ∈ l',okD x=true:=fun hl he x hx=>by
  obtain⟨y,hy,⟨q0,q1⟩,q2,q3⟩:=emb_mem he x hx
  obtain⟨⟨a1,a2⟩,⟨a3,a4⟩,a5,a6⟩:=okD_iff.1 (hl y hy)
  exact okD_iff.2 ⟨by omega,by omega,by omega⟩
 have e1:=emb_len ha
 have e2:=emb_len hc
 refine bn_less (right_iff.2 ⟨okLs_iff.2 ⟨by omega,hok k1 ha⟩,okLs_iff.2 ⟨by omega,hok k2 hc⟩,by omega,by omega,by omega⟩) (fun m hm=>?_) h0
 rw[wiS_L,wiS_L]
 have s1:=emb_sL (f:=fA m) (g:=fA m) ha (fun y hy=>fA_pos hm (k1 y hy)) (fun x y hy hq=>by
  obtain⟨⟨q0,q1⟩,q2,q3⟩:=hq
  obtain⟨_,⟨p0,_⟩,j0,_⟩:=okD_iff.1 (k1 y hy)
  have hu:=up_bd (n:=m+y.j) (by omega) p0
  unfold fA
  rw[q2,q3]
  exact Int.mul_le_mul_of_nonneg_left q1 (by omega))
 have s2:=emb_sL (f:=fB rl' m) (g:=fB rl m) hc (fun y hy=>fB_pos hm h5.1 (k2 y hy)) (fun x y hy hq=>by
  obtain⟨_,q2,q3⟩:=hq
  obtain⟨_,⟨p0,_⟩,j0,_⟩:=okD_iff.1 (k2 y hy)
  have hu:=up_bd (n:=m+y.j) (by omega) p0
  unfold fB
  rw[q2,q3]
  exact Int.mul_le_mul_of_nonneg_left hr.2 (by omega))
 omega
end Go.Proofs.YtjfaiaipojfhgaaGreat.rsp
end
section
namespace Go.Proofs.YtjfaiaipojfhgaaGreat.pln
open val ter
structure RelA (s s':Sys) (L L':List (List Pc)):Prop where
 ok:plR s L=true
 ok':plR s' L'=true
 po:s'.po=s.po
 pr:s'.pr=s.pr
 la:s'.la=s.la
 co:s'.co=s.co
 rs:s'.rs=s.rs
 ts:s'.ts=s.ts
 re:0≤s'.re∧s'.re≤s.re
 sw:0≤s'.sw∧s'.sw≤s.sw
 fi:0≤s'.fi∧s'.fi≤s.fi
 len:L'.length=L.length
 at_:∀ (i:Nat) (l:List Pc),L'[i]? = some l→l = []∨L[i]? = some l
theorem whO_nil : whO [] = -1:=by unfold whO;simp
theorem wh_at {L:List (List Pc)} {i:Nat} {l:List Pc} (h:L[i]? = some l):(L.map whO).getD i 0=whO l:=by simp[List.getD,h]
theorem whO_rk (s:Sys) (L:List (List Pc)) (i:Nat) (l:List Pc):whO (rkL s L i l)=whO l:=by
 unfold whO rkL
 rw[List.length_map]
 cases l with
 | nil=>rfl
 | cons x l=>rfl
theorem wh_rk (s:Sys) (L:List (List Pc)):(rkV s L).map whO=L.map whO:=by
 apply List.ext_getElem?
 intro i
 rw[List.getElem?_map,List.getElem?_map]
 cases h:L[i]? with
 | none =>
  have h1:(rkV s L)[i]? = none:=by
   rw[List.getElem?_eq_none_iff] at h ⊢
   rw[rkV_len];exact h
  rw[h1]
 | some l =>
  rw[rkV_at h]
  show some (whO (rkL s L i l))=some (whO l)
  rw[whO_rk]
theorem RelA.cr {s s':Sys} {L L':List (List Pc)} (h:RelA s s' L L') (i:Nat):ter.cr s'.co (L'.map whO) i = -1∨ter.cr s'.co (L'.map whO) i=ter.cr s.co (L.map whO) i:=by
 cases e:L'[i]? with
 | none =>
  left
  have hi:¬i<(L'.map whO).length:=by rw[List.length_map];have:=List.getElem?_eq_none_iff.1 e;omega
  unfold ter.cr
  rw[if_neg (fun h=>hi h.1)]
 | some l =>
  have h1:=wh_at e
  rcases h.at_ i l e with rfl | e2
  ·left
   unfold ter.cr
   rw[h1,whO_nil,if_neg (by omega)]
  ·right
   have h2:=wh_at e2
   unfold ter.cr
   rw[h1,h2,h.co,List.length_map,List.length_map,h.len]
theorem RelA.cr_eq {s s':Sys} {L L':List (List Pc)} (h:RelA s s' L L') {i:Nat} {l:List Pc} (e:L'[i]? = some l) (e2:L[i]? = some l):ter.cr s'.co (L'.map whO) i=ter.cr s.co (L.map whO) i:=by
 have h1:=wh_at e
 have h2:=wh_at e2
 unfold ter.cr
 rw[h1,h2,h.co,List.length_map,List.length_map,h.len]
theorem RelA.F {s s':Sys} {L L':List (List Pc)} (h:RelA s s' L L'):∀ x ∈ ter.F s' (L'.map whO),x ∈ ter.F s (L.map whO):=fun x hx=>by
 unfold ter.F at hx ⊢
 rw[h.ts] at hx
 obtain⟨i,hi,hm⟩:=fl_mem.1 hx
 refine fl_mem.2 ⟨i,hi,?_⟩
 rcases h.cr i with e | e
 ·rw[e] at hm;unfold enS at hm;rw[if_pos rfl] at hm;cases hm
 ·rw[←e];exact hm
theorem RelA.sm {s s':Sys} {L L':List (List Pc)} (h:RelA s s' L L') {i:Nat} {l:List Pc} (e:L'[i]? = some l) (e2:L[i]? = some l) (r:Int):smV s' (L'.map whO) i r≤smV s (L.map whO) i r:=by
 unfold smV
 rw[h.cr_eq e e2,h.co]
 exact sm_mono h.F _ _ _
theorem RelA.tsk {s s':Sys} {L L':List (List Pc)} (h:RelA s s' L L') (i:Int):tsk? s' i=tsk? s i:=by
 unfold tsk?
 rw[(plR_parts h.ok').1,(plR_parts h.ok).1,h.ts]
theorem RelA.hold {s s':Sys} {L L':List (List Pc)} (h:RelA s s' L L') {i:Nat} {l:List Pc} (e:L'[i]? = some l) (e2:L[i]? = some l) (k:Int):holdV s' (L'.map whO) (i:Int) k≤holdV s (L.map whO) (i:Int) k:=by
 have hs:sec? s' (i:Int) k=sec? s (i:Int) k:=by unfold sec?;rw[h.tsk]
 unfold holdV
 rw[hs]
 cases sec? s (i:Int) k with
 | none=>exact Int.le_refl 0
 | some x =>
  have:=h.sm e e2 x.2.1
  dsimp only
  rw[Int.toNat_natCast]
  omega
theorem exN_mono {s s':Sys} {wh wh':List Int} {i:Nat} {l:List Sec} (h:∀ r,smV s' wh' i r≤smV s wh i r):∀ n,exN s' wh' i l n≤exN s wh i l n
 | 0=>by rw[exN,exN];exact Int.le_refl 0
 | n+1=>by
  have ih:=exN_mono (l:=l) h n
  have:=h (l.getD n (0,0,0)).2.1
  rw[exN,exN]
  omega
theorem RelA.extra {s s':Sys} {L L':List (List Pc)} (h:RelA s s' L L') {i:Nat} {l:List Pc} (e:L'[i]? = some l) (e2:L[i]? = some l):extraV s' (L'.map whO) (i:Int)≤extraV s (L.map whO) (i:Int):=by
 unfold extraV
 rw[h.tsk]
 cases tsk? s (i:Int)with
 | none=>exact Int.le_refl 0
 | some t =>
  dsimp only
  rw[Int.toNat_natCast]
  exact exN_mono (h.sm e e2) _
theorem RelA.own {s s':Sys} {L L':List (List Pc)} (h:RelA s s' L L') {i:Nat} {l:List Pc} (e:L'[i]? = some l) (e2:L[i]? = some l) {x y:Pc} (hb:y.bu=x.bu):ownV s' (rkV s' L') i y≤ownV s (rkV s L) i x:=by
 have h1:=h.extra e e2
 have h2:=h.sw
 have h3:=h.fi
 unfold ownV
 rw[wh_rk,wh_rk,wh_at e,wh_at e2,hb]
 split <;> omega
end Go.Proofs.YtjfaiaipojfhgaaGreat.pln
end
