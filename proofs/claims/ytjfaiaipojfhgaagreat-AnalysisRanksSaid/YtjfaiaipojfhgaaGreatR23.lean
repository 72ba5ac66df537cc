/- Part 23 of a proof: PlR12 PlS1 PlE PlS2 PlS3 PlS4 PlS5 PlS6 PlR13 PlS9. -/
import Derived.Test.YtjfaiaipojfhgaaGreatR01
import Derived.Test.YtjfaiaipojfhgaaGreatR20
import Derived.Test.YtjfaiaipojfhgaaGreatR22
section
namespace Go.Proofs.YtjfaiaipojfhgaaGreat.pln
open Go.ChangeShapes Go.WideShapes Go.ChangeAt Go.RowKit Go.Deep val ter
def sumB (s:Sys) (l:List Pc):Nat→Int
 | 0=>0
 | k+1=>sumB s l k+(l.getD k pc0).bu+s.la-1
def ap0 : Ap:=⟨pc0,0,0⟩
def bndX (s:Sys) (R:List (List Pc)) (Z:List (List Int)) (l:List Ap) (c:Nat) (x:Ap):Int:=if s.po=2 then (s.ts.getD x.i ts0).d else (fixV s R Z l c x).1+sumB s (R.getD x.i []) x.k
def bdJ (s:Sys) (R:List (List Pc)) (Z:List (List Int)) (l:List Ap) (c:Nat) (f:Nat→Int):Nat→Nat→Int
 | 0=>f
 | j+1=>if (l.getD j ap0).p.ti=true then bdJ s R Z l c f j else fun i=>if i=(l.getD j ap0).i then bndX s R Z l c (l.getD j ap0) else bdJ s R Z l c f j i
def erX (s:Sys) (R:List (List Pc)) (Z:List (List Int)) (l:List Ap) (c:Nat) (x:Ap):Int:=if x.p.ti=true∨s.po=2 then 0 else (fixV s R Z l c x).2
def erJ (s:Sys) (R:List (List Pc)) (Z:List (List Int)) (l:List Ap) (c:Nat):Nat→Int
 | 0=>0
 | j+1=>if erJ s R Z l c j≠0 then erJ s R Z l c j else erX s R Z l c (l.getD j ap0)
def erC (s:Sys) (R:List (List Pc)) (Z:List (List Int)) (l:List Ap) (c:Nat):Int:=if s.po=2∧l ≠ []∧edfV s R Z l c≠0 then edfV s R Z l c else erJ s R Z l c l.length
def bdC (s:Sys) (R:List (List Pc)) (Z:List (List Int)):Nat→Nat→Int
 | 0=>fun _=>0
 | c+1=>bdJ s R Z (apS (c:Int) R) c (bdC s R Z c) (apS (c:Int) R).length
def erN (s:Sys) (R:List (List Pc)) (Z:List (List Int)):Nat→Int × Int
 | 0=>(-1,0)
 | c+1=>if (erN s R Z c).2≠0 then erN s R Z c else if erC s R Z (apS (c:Int) R) c≠0 then ((c:Int),erC s R Z (apS (c:Int) R) c) else (-1,0)
def chkV (s:Sys) (L:List (List Pc)):List Int × Int × Int :=
 if plR s L=true then (if (erN s (rkV s L) (ceV s L) s.co.toNat).2≠0 then ([],erN s (rkV s L) (ceV s L) s.co.toNat) else ((List.range L.length).map (bdC s (rkV s L) (ceV s L) s.co.toNat), -1,0)) else ([], -1,1)
theorem okL_bu {s:Sys} {t:Tsk} {l:List Pc} {k:Nat} {x:Pc} (h:okL s t l=true) (hx:l[k]? = some x):1≤x.bu∧x.bu≤t.w:=by
 have hk:k<l.length:=(List.getElem?_eq_some_iff.1 hx).1
 unfold okL at h
 simp only[Bool.and_eq_true] at h
 have h1:=okN_le (show k+1≤l.length by omega) h.2.1
 rw[okN,getD_some hx,Bool.and_eq_true] at h1
 have h2:=h1.2
 unfold badP bad1 at h2
 simp only[Bool.not_eq_true',Bool.or_eq_false_iff,decide_eq_false_iff_not] at h2
 omega
theorem rkL_at {s:Sys} {L:List (List Pc)} {i:Nat} {l:List Pc} {k:Nat} {y:Pc} (h:(rkL s L i l)[k]? = some y):∃ x,l[k]? = some x∧y=rkP s L i x:=by
 unfold rkL at h
 rw[List.getElem?_map] at h
 cases e:l[k]? with
 | none=>rw[e] at h;cases h
 | some x=>rw[e] at h;exact⟨x,rfl,by simpa using h.symm⟩
end Go.Proofs.YtjfaiaipojfhgaaGreat.pln
end
section
namespace Go.Proofs.YtjfaiaipojfhgaaGreat.pln
open val ter
def fpL (i:Nat) (l:List Pc):Nat→List (Nat × Pc)
 | 0=>[]
 | k+1=>fpL i l k ++ [(i,l.getD k pc0)]
def fpN (L:List (List Pc)):Nat→List (Nat × Pc)
 | 0=>[]
 | i+1=>fpN L i ++ fpL i (L.getD i []) (L.getD i []).length
theorem aL_count (task:Int) (p:Pc) (i:Nat) (l:List Pc):∀ k,aL task p i l k=(((fpL i l k).countP fun z=>aC task p z.1 z.2:Nat):Int)
 | 0=>rfl
 | k+1=>by
  rw[aL,aL_count task p i l k,fpL,List.countP_append]
  by_cases h:aC task p i (l.getD k pc0)=true
  ·rw[if_pos h,List.countP_cons_of_pos (by exact h)];simp
  ·rw[if_neg h,List.countP_cons_of_neg (by exact h)];simp
theorem aN_count (task:Int) (p:Pc) (L:List (List Pc)):∀ i,aN task p L i=(((fpN L i).countP fun z=>aC task p z.1 z.2:Nat):Int)
 | 0=>rfl
 | i+1=>by
  rw[aN,aN_count task p L i,aL_count,fpN,List.countP_append];simp
theorem fpL_mem {i:Nat} {l:List Pc} {z:Nat × Pc}:∀ {k:Nat},k≤l.length→(z ∈ fpL i l k ↔ z.1=i∧∃ j,j<k∧l[j]? = some z.2)
 | 0,_=>by simp[fpL]
 | k+1,hk=>by
  have hx:l[k]? = some l[k]:=List.getElem?_eq_getElem (by omega)
  rw[fpL,List.mem_append,fpL_mem (by omega),List.mem_singleton,getD_some hx]
  constructor
  ·rintro(⟨h1,j,hj,h2⟩ | rfl)
   ·exact⟨h1,j,by omega,h2⟩
   ·exact⟨rfl,k,by omega,hx⟩
  ·rintro⟨h1,j,hj,h2⟩
   by_cases e:j=k
   ·subst e
    rw[hx] at h2
    right
    obtain⟨a,b⟩:=z
    dsimp only at h1 h2
    rw[h1,Option.some.inj h2]
   ·exact .inl ⟨h1,j,by omega,h2⟩
theorem fpN_mem {L:List (List Pc)} {z:Nat × Pc}:∀ {i:Nat},i≤L.length→(z ∈ fpN L i ↔ z.1<i∧∃ (l:List Pc) (j:Nat),L[z.1]? = some l∧l[j]? = some z.2)
 | 0,_=>by simp[fpN]
 | i+1,hi=>by
  have hl:L[i]? = some L[i]:=List.getElem?_eq_getElem (by omega)
  rw[fpN,List.mem_append,fpN_mem (by omega),getL hl,fpL_mem (Nat.le_refl _)]
  constructor
  ·rintro(⟨h1,h2⟩ | ⟨h1,j,hj,h2⟩)
   ·exact⟨by omega,h2⟩
   ·exact⟨by omega,L[i],j,by rw[h1];exact hl,h2⟩
  ·rintro⟨h1,l,j,h2,h3⟩
   by_cases e:z.1=i
   ·rw[e,hl] at h2
    cases h2
    exact .inr ⟨e,j,(List.getElem?_eq_some_iff.1 h3).1,h3⟩
   ·exact .inl ⟨by omega,l,j,h2,h3⟩
theorem countP_lt {α:Type} {p q:α→Bool}:∀ {l:List α},(∀ z ∈ l,p z=true→q z=true)→(∃ z ∈ l,q z=true∧p z=false)→l.countP p<l.countP q
 | [],_,⟨z,hz,_⟩=>by cases hz
 | x :: l,h,⟨z,hz,hq,hp⟩=>by
  have hle:l.countP p≤l.countP q:=List.countP_mono_left (fun y hy=>h y (by simp[hy]))
  rw[List.countP_cons,List.countP_cons]
  rcases List.mem_cons.1 hz with rfl | hz
  ·rw[hp,hq];simp;omega
  ·have ih:=countP_lt (l:=l) (fun y hy=>h y (by simp[hy])) ⟨z,hz,hq,hp⟩
   by_cases e:p x=true
   ·rw[e,h x (by simp) e];simp;omega
   ·split <;> split <;> simp_all <;> omega
theorem okL_piece {s:Sys} {t:Tsk} {l:List Pc} {k:Nat} {x:Pc} (h:okL s t l=true) (hx:l[k]? = some x):badP s t l k x=false:=by
 have hk:k<l.length:=(List.getElem?_eq_some_iff.1 hx).1
 unfold okL at h
 simp only[Bool.and_eq_true] at h
 have h1:=okN_le (show k+1≤l.length by omega) h.2.1
 rw[okN,getD_some hx,Bool.and_eq_true] at h1
 simpa using h1.2
theorem okL_core_one {s:Sys} {t:Tsk} {l:List Pc} {k k':Nat} {x y:Pc} (h:okL s t l=true) (hx:l[k]? = some x) (hy:l[k']? = some y) (hc:x.co=y.co):k=k':=by
 have aux:∀ {k k':Nat} {x y:Pc},l[k]? = some x→l[k']? = some y→x.co=y.co→¬k<k':=fun {k k' x y} hx hy hc hlt=>by
  have h1:=okL_piece h hy
  unfold badP at h1
  rw[bad2_next hlt hx hc] at h1
  simp at h1
 have h1:=aux hx hy hc
 have h2:=aux hy hx hc.symm
 omega
theorem okL_tight {s:Sys} {t:Tsk} {l:List Pc} {k:Nat} {x:Pc} (h:okL s t l=true) (hx:l[k]? = some x) (ht:x.ti=false):k+1=l.length:=by
 have h1:=okL_piece h hx
 unfold badP bad1 at h1
 rw[ht] at h1
 simp only[Bool.or_eq_false_iff] at h1
 have h2:=h1.1.2.2.2.2.1
 simpa using h2
def Bf (i:Nat) (x:Pc) (j:Nat) (y:Pc):Prop:=x.de<y.de∨(x.de=y.de∧i<j)
theorem aC_iff {j:Nat} {y:Pc} {i:Nat} {x:Pc}:aC (j:Int) y i x=true ↔ x.co=y.co∧x.ti=false∧i≠j∧Bf i x j y:=by
 unfold aC Bf
 simp only[Bool.and_eq_true,decide_eq_true_eq,Bool.not_eq_true',decide_eq_false_iff_not,Bool.or_eq_true]
 constructor <;> rintro⟨h1,h2,h3,h4⟩ <;> refine⟨h1,h2,?_,?_⟩ <;> omega
theorem ahead_lt {s:Sys} {L:List (List Pc)} (h:plR s L=true) {i j k m:Nat} {li lj:List Pc} {x y:Pc} (hli:L[i]? = some li) (hlj:L[j]? = some lj) (hx:li[k]? = some x) (hy:lj[m]? = some y) (tx:x.ti=false) (ty:y.ti=false) (hc:x.co=y.co) (hne:i≠j) (hb:Bf i x j y) :
  aheadV (i:Int) x L<aheadV (j:Int) y L:=by
 obtain⟨_,hlen,hok⟩:=plR_parts h
 unfold aheadV
 rw[aN_count,aN_count]
 have:(fpN L L.length).countP (fun z=>aC (i:Int) x z.1 z.2)<(fpN L L.length).countP (fun z=>aC (j:Int) y z.1 z.2):=by
  refine countP_lt (fun z hz hp=>?_) ⟨(i,x),(fpN_mem (Nat.le_refl _)).2 ⟨(List.getElem?_eq_some_iff.1 hli).1,li,k,hli,hx⟩,?_,?_⟩
  ·obtain⟨h1,h2,h3,h4⟩:=aC_iff.1 hp
   obtain⟨_,lz,mz,hlz,hz2⟩:=(fpN_mem (Nat.le_refl _)).1 hz
   refine aC_iff.2 ⟨by rw[h1,hc],h2,fun e=>?_,?_⟩
   ·rw[e,hlj] at hlz
    cases hlz
    have h5:=okS_at hok hlj
    have h6:=okL_core_one h5 hz2 hy (by rw[h1,hc])
    rw[h6,hy] at hz2
    cases hz2
    rw[e] at h4
    unfold Bf at h4 hb
    omega
   ·unfold Bf at h4 hb ⊢;omega
  ·exact aC_iff.2 ⟨hc,tx,hne,hb⟩
  ·cases e:aC (i:Int) x (i,x).1 (i,x).2 with
   | false=>rfl
   | true=>exact absurd rfl (aC_iff.1 e).2.2.1
 omega
theorem ahead_iff {s:Sys} {L:List (List Pc)} (h:plR s L=true) {i j k m:Nat} {li lj:List Pc} {x y:Pc} (hli:L[i]? = some li) (hlj:L[j]? = some lj) (hx:li[k]? = some x) (hy:lj[m]? = some y) (tx:x.ti=false) (ty:y.ti=false) (hc:x.co=y.co) (hne:i≠j) :
  aheadV (i:Int) x L<aheadV (j:Int) y L ↔ Bf i x j y:=by
 constructor
 ·intro hlt
  apply Classical.byContradiction
  intro hb
  have hb2:Bf j y i x:=by unfold Bf at hb ⊢;omega
  have:=ahead_lt h hlj hli hy hx ty tx hc.symm (Ne.symm hne) hb2
  omega
 ·exact ahead_lt h hli hlj hx hy tx ty hc hne
theorem ahead_zp (i:Nat) (x:Pc) (L:List (List Pc)):aheadV (i:Int) (zp x) L=aheadV (i:Int) x L:=by
 unfold aheadV
 rw[aN_count,aN_count]
 rfl
theorem rk_lt {s:Sys} {L:List (List Pc)} (h:plR s L=true) (hpo:s.po=1) {i j k m:Nat} {li lj:List Pc} {x y:Pc} (hli:L[i]? = some li) (hlj:L[j]? = some lj) (hx:li[k]? = some x) (hy:lj[m]? = some y) (ty:y.ti=false) (hc:x.co=y.co) :
  (rkP s L i x).pr<(rkP s L j y).pr ↔ (x.ti=true∨(i≠j∧Bf i x j y)):=by
 obtain⟨hL,h8⟩:=plR_small h
 have hyp:(rkP s L j y).pr=1+aheadV (j:Int) y L:=by unfold rkP;rw[if_pos ⟨hpo,ty⟩,ahead_zp]
 have h0:∀ (a:Nat) (z:Pc),0≤aheadV (a:Int) z L:=fun a z=>by unfold aheadV;rw[aN_count];omega
 cases tx:x.ti with
 | true =>
  have hxp:(rkP s L i x).pr=0:=by unfold rkP;rw[if_neg (by rw[tx];simp)]
  have:=h0 j y
  rw[hxp,hyp]
  simp;omega
 | false =>
  have hxp:(rkP s L i x).pr=1+aheadV (i:Int) x L:=by unfold rkP;rw[if_pos ⟨hpo,tx⟩,ahead_zp]
  rw[hxp,hyp]
  by_cases hne:i=j
  ·subst hne
   rw[hli] at hlj
   cases hlj
   have:=okL_core_one (okS_at (plR_parts h).2.2 hli) hx hy hc
   subst this
   rw[hx] at hy
   cases hy
   simp
  ·have:=ahead_iff h hli hlj hx hy tx ty hc hne
   constructor
   ·intro hl;exact .inr ⟨hne,this.1 (by omega)⟩
   ·rintro(e | ⟨_,hb⟩)
    ·cases e
    ·have:=this.2 hb;omega
end Go.Proofs.YtjfaiaipojfhgaaGreat.pln
end
section
namespace Go.Proofs.YtjfaiaipojfhgaaGreat.dem
structure Less2 (l l':List Wk) (bl bl' rl rl':Int):Prop where
 right:right l' bl' rl'=true
 ask:∀ m,1≤m→askS l' bl' rl' m≤askS l bl rl m
 com:∀ m,1≤m→comS l' bl' rl' m≤comS l bl rl m
 fac:∀ x ∈ l',∃ y ∈ l,y.p=x.p
 ld:ldS rl' l'≤ldS rl l
 least:least l'=0∨(least l≠0∧least l≤least l')
def Emb {α:Type} (r:α→α→Prop):List α→List α→Prop
 | [],m=>m = []
 | y :: l,m=>Emb r l m∨∃ x t,m=x :: t∧r x y∧Emb r l t
theorem emb_len {α:Type} {r:α→α→Prop}:∀ {l m:List α},Emb r l m→m.length≤l.length
 | [],m,h=>by rw[Emb] at h;rw[h];exact Nat.le_refl _
 | y :: l,m,h=>by
  rw[Emb] at h
  rcases h with h | ⟨x,t,rfl,_,h⟩
  ·have:=emb_len h;rw[List.length_cons];omega
  ·have:=emb_len h;rw[List.length_cons,List.length_cons];omega
theorem emb_mem {α:Type} {r:α→α→Prop}:∀ {l m:List α},Emb r l m→∀ x ∈ m,∃ y ∈ l,r x y
 | [],m,h,x,hx=>by rw[Emb] at h;rw[h] at hx;cases hx
 | y :: l,m,h,x,hx=>by
  rw[Emb] at h
  rcases h with h | ⟨x',t,rfl,hr,h⟩
  ·obtain⟨z,hz,hq⟩:=emb_mem h x hx;exact⟨z,by simp[hz],hq⟩
  ·rcases List.mem_cons.1 hx with rfl | hx
   ·exact⟨y,by simp,hr⟩
   ·obtain⟨z,hz,hq⟩:=emb_mem h x hx;exact⟨z,by simp[hz],hq⟩
end Go.Proofs.YtjfaiaipojfhgaaGreat.dem
namespace Go.Proofs.YtjfaiaipojfhgaaGreat.rsp
open dem (Emb emb_mem emb_len)
end Go.Proofs.YtjfaiaipojfhgaaGreat.rsp
end
section
namespace Go.Proofs.YtjfaiaipojfhgaaGreat.pln
open val ter
structure RelA (s s':Sys) (L L':List (List Pc)):Prop where
 ok:plR s L=true
 ok':plR s' L'=true
 po:s'.po=s.po
 pr:s'.pr=s.pr
 la:s'.la=s.la
 co:s'.co=s.co
 rs:s'.rs=s.rs
 ts:s'.ts=s.ts
 re:0≤s'.re∧s'.re≤s.re
 sw:0≤s'.sw∧s'.sw≤s.sw
 fi:0≤s'.fi∧s'.fi≤s.fi
 len:L'.length=L.length
 at_:∀ (i:Nat) (l:List Pc),L'[i]? = some l→l = []∨L[i]? = some l
theorem whO_nil : whO [] = -1:=by unfold whO;simp
theorem wh_at {L:List (List Pc)} {i:Nat} {l:List Pc} (h:L[i]? = some l):(L.map whO).getD i 0=whO l:=by simp[List.getD,h]
theorem whO_rk (s:Sys) (L:List (List Pc)) (i:Nat) (l:List Pc):whO (rkL s L i l)=whO l:=by
 unfold whO rkL
 rw[List.length_map]
 cases l with
 | nil=>rfl
 | cons x l=>rfl
theorem wh_rk (s:Sys) (L:List (List Pc)):(rkV s L).map whO=L.map whO:=by
 apply List.ext_getElem?
 intro i
 rw[List.getElem?_map,List.getElem?_map]
 cases h:L[i]? with
 | none =>
  have h1:(rkV s L)[i]? = none:=by
   rw[List.getElem?_eq_none_iff] at h ⊢
   rw[rkV_len];exact h
  rw[h1]
 | some l =>
  rw[rkV_at h]
  show some (whO (rkL s L i l))=some (whO l)
  rw[whO_rk]
theorem RelA.cr {s s':Sys} {L L':List (List Pc)} (h:RelA s s' L L') (i:Nat):ter.cr s'.co (L'.map whO) i = -1∨ter.cr s'.co (L'.map whO) i=ter.cr s.co (L.map whO) i:=by
 cases e:L'[i]? with
 | none =>
  left
  have hi:¬i<(L'.map whO).length:=by rw[List.length_map];have:=List.getElem?_eq_none_iff.1 e;omega
  unfold ter.cr
  rw[if_neg (fun h=>hi h.1)]
 | some l =>
  have h1:=wh_at e
  rcases h.at_ i l e with rfl | e2
  ·left
   unfold ter.cr
   rw[h1,whO_nil,if_neg (by omega)]
  ·right
   have h2:=wh_at e2
   unfold ter.cr
   rw[h1,h2,h.co,List.length_map,List.length_map,h.len]
theorem RelA.cr_eq {s s':Sys} {L L':List (List Pc)} (h:RelA s s' L L') {i:Nat} {l:List Pc} (e:L'[i]? = some l) (e2:L[i]? = some l):ter.cr s'.co (L'.map whO) i=ter.cr s.co (L.map whO) i:=by
 have h1:=wh_at e
 have h2:=wh_at e2
 unfold ter.cr
 rw[h1,h2,h.co,List.length_map,List.length_map,h.len]
theorem RelA.F {s s':Sys} {L L':List (List Pc)} (h:RelA s s' L L'):∀ x ∈ ter.F s' (L'.map whO),x ∈ ter.F s (L.map whO):=fun x hx=>by
 unfold ter.F at hx ⊢
 rw[h.ts] at hx
 obtain⟨i,hi,hm⟩:=fl_mem.1 hx
 refine fl_mem.2 ⟨i,hi,?_⟩
 rcases h.cr i with e | e
 ·rw[e] at hm;unfold enS at hm;rw[if_pos rfl] at hm;cases hm
 ·rw[←e];exact hm
theorem RelA.sm {s s':Sys} {L L':List (List Pc)} (h:RelA s s' L L') {i:Nat} {l:List Pc} (e:L'[i]? = some l) (e2:L[i]? = some l) (r:Int):smV s' (L'.map whO) i r≤smV s (L.map whO) i r:=by
 unfold smV
 rw[h.cr_eq e e2,h.co]
 exact sm_mono h.F _ _ _
theorem RelA.tsk {s s':Sys} {L L':List (List Pc)} (h:RelA s s' L L') (i:Int):tsk? s' i=tsk? s i:=by
 unfold tsk?
 rw[(plR_parts h.ok').1,(plR_parts h.ok).1,h.ts]
theorem RelA.hold {s s':Sys} {L L':List (List Pc)} (h:RelA s s' L L') {i:Nat} {l:List Pc} (e:L'[i]? = some l) (e2:L[i]? = some l) (k:Int):holdV s' (L'.map whO) (i:Int) k≤holdV s (L.map whO) (i:Int) k:=by
 have hs:sec? s' (i:Int) k=sec? s (i:Int) k:=by unfold sec?;rw[h.tsk]
 unfold holdV
 rw[hs]
 cases sec? s (i:Int) k with
 | none=>exact Int.le_refl 0
 | some x =>
  have:=h.sm e e2 x.2.1
  dsimp only
  rw[Int.toNat_natCast]
  omega
theorem exN_mono {s s':Sys} {wh wh':List Int} {i:Nat} {l:List Sec} (h:∀ r,smV s' wh' i r≤smV s wh i r):∀ n,exN s' wh' i l n≤exN s wh i l n
 | 0=>by rw[exN,exN];exact Int.le_refl 0
 | n+1=>by
  have ih:=exN_mono (l:=l) h n
  have:=h (l.getD n (0,0,0)).2.1
  rw[exN,exN]
  omega
theorem RelA.extra {s s':Sys} {L L':List (List Pc)} (h:RelA s s' L L') {i:Nat} {l:List Pc} (e:L'[i]? = some l) (e2:L[i]? = some l):extraV s' (L'.map whO) (i:Int)≤extraV s (L.map whO) (i:Int):=by
 unfold extraV
 rw[h.tsk]
 cases tsk? s (i:Int)with
 | none=>exact Int.le_refl 0
 | some t =>
  dsimp only
  rw[Int.toNat_natCast]
  exact exN_mono (h.sm e e2) _
theorem RelA.own {s s':Sys} {L L':List (List Pc)} (h:RelA s s' L L') {i:Nat} {l:List Pc} (e:L'[i]? = some l) (e2:L[i]? = some l) {x y:Pc} (hb:y.bu=x.bu):ownV s' (rkV s' L') i y≤ownV s (rkV s L) i x:=by
 have h1:=h.extra e e2
 have h2:=h.sw
 have h3:=h.fi
 unfold ownV
 rw[wh_rk,wh_rk,wh_at e,wh_at e2,hb]
 split <;> omega
end Go.Proofs.YtjfaiaipojfhgaaGreat.pln
end
section
namespace Go.Proofs.YtjfaiaipojfhgaaGreat.pln
open val ter
def Us (s:Sys) (L:List (List Pc)) (c:Int) (u:Nat) (l:List Pc) (r:Nat):Prop:=L[u]? = some l∧whO l=c∧∃ t,s.ts[u]? = some t∧∃ y ∈ t.secs,y.2.1=(r:Int)
theorem tp_two {x p:Int} (hp:1≤p):tp (tp x p) p=tp x p:=by
 unfold tp
 split
 ·rw[if_neg (by omega)]
 ·rfl
theorem ceS_is {p:Int} (hp:1≤p) {ss:List (Int × Int × Int)} {f:Nat→Int} {r:Nat}:∀ {n:Nat},n≤ss.length→((∃ (k:Nat) (y:Int × Int × Int),k<n∧ss[k]? = some y∧y.2.1=(r:Int))∧ceS p ss f n r=tp (f r) p)∨((∀ (k:Nat) (y:Int × Int × Int),k<n→ss[k]? = some y→y.2.1≠(r:Int))∧ceS p ss f n r=f r)
 | 0,_=>.inr ⟨fun k y h=>absurd h (by omega),rfl⟩
 | n+1,hn=>by
  have hx:ss[n]? = some ss[n]:=List.getElem?_eq_getElem (by omega)
  have hs:=ceS_next (p:=p) (f:=f) hx r
  rcases ceS_is hp (f:=f) (r:=r) (show n≤ss.length by omega)with⟨⟨k,y,hk,hy,hr⟩,e⟩ | ⟨h0,e⟩
  ·left
   refine⟨⟨k,y,by omega,hy,hr⟩,?_⟩
   rw[hs,e]
   split
   ·exact tp_two hp
   ·rfl
  ·by_cases hr:ss[n].2.1=(r:Int)
   ·left
    refine⟨⟨n,ss[n],by omega,hx,hr⟩,?_⟩
    rw[hs,if_pos hr,e]
   ·right
    refine⟨fun k y hk hy=>?_,by rw[hs,if_neg hr,e]⟩
    by_cases ek:k=n
    ·subst ek;rw[hx] at hy;cases hy;exact hr
    ·exact h0 k y (by omega) hy
theorem ceP_pos (s:Sys) (L:List (List Pc)) (i:Nat) (l:List Pc):1≤ceP s L i l:=by unfold ceP;omega
theorem ceN_is {s:Sys} {L:List (List Pc)} (hlen:L.length=s.ts.length) {c:Int} {r:Nat}:∀ {n:Nat},n≤L.length→((∀ u l,u<n→¬Us s L c u l r)∧ceN s L c n r=0)∨((∃ u l,u<n∧Us s L c u l r)∧1≤ceN s L c n r∧∀ q,q<ceN s L c n r ↔ ∀ u l,u<n→Us s L c u l r→q<ceP s L u l)
 | 0,_=>.inl ⟨fun u l h=>absurd h (by omega),rfl⟩
 | n+1,hn=>by
  obtain⟨l,hl⟩:∃ l,L[n]? = some l:=⟨_,List.getElem?_eq_getElem (by omega)⟩
  obtain⟨t,ht⟩:∃ t,s.ts[n]? = some t:=⟨_,List.getElem?_eq_getElem (by omega)⟩
  have ih:=ceN_is hlen (c:=c) (r:=r) (show n≤L.length by omega)
  have hs:=ceN_next (c:=c) hl ht r
  have hp:=ceP_pos s L n l
  have hu:∀ l',Us s L c n l' r ↔ (l'=l∧whO l=c∧∃ (k:Nat) (y:Int × Int × Int),k<t.secs.length∧t.secs[k]? = some y∧y.2.1=(r:Int)):=fun l'=>by
   constructor
   ·rintro⟨h1,h2,t',h3,y,hy,hr⟩
    rw[hl] at h1
    cases h1
    rw[ht] at h3
    cases h3
    obtain⟨k,hk⟩:=List.mem_iff_getElem?.1 hy
    exact⟨rfl,h2,k,y,(List.getElem?_eq_some_iff.1 hk).1,hk,hr⟩
   ·rintro⟨rfl,h2,k,y,_,hk,hr⟩
    exact⟨hl,h2,t,ht,y,List.mem_of_getElem? hk,hr⟩
  have none_:(∀ l',¬Us s L c n l' r)→ceN s L c (n+1) r=ceN s L c n r:=fun h=>by
   rw[hs]
   split
   ·next hw =>
    rcases ceS_is hp (f:=ceN s L c n) (r:=r) (Nat.le_refl t.secs.length)with⟨hk,_⟩ | ⟨_,e⟩
    ·exact absurd ((hu l).2 ⟨rfl,hw,hk⟩) (h l)
    ·exact e
   ·rfl
  by_cases hul:Us s L c n l r
  ·obtain⟨_,hw,hk⟩:=(hu l).1 hul
   have e:ceN s L c (n+1) r=tp (ceN s L c n r) (ceP s L n l):=by
    rw[hs,if_pos hw]
    rcases ceS_is hp (f:=ceN s L c n) (r:=r) (Nat.le_refl t.secs.length)with⟨_,e⟩ | ⟨h0,_⟩
    ·exact e
    ·obtain⟨k,y,h1,h2,h3⟩:=hk
     exact absurd h3 (h0 k y h1 h2)
   right
   refine⟨⟨n,l,by omega,hul⟩,?_,fun q=>?_⟩
   ·rw[e];unfold tp
    rcases ih with⟨_,h0⟩ | ⟨_,h0,_⟩ <;> split <;> omega
   ·rw[e]
    have hall:(∀ u l',u<n+1→Us s L c u l' r→q<ceP s L u l') ↔ (q<ceP s L n l∧∀ u l',u<n→Us s L c u l' r→q<ceP s L u l'):=by
     constructor
     ·exact fun h=>⟨h n l (by omega) hul,fun u l' hu' hus=>h u l' (by omega) hus⟩
     ·rintro⟨h1,h2⟩ u l' hu' hus
      by_cases eu:u=n
      ·subst eu
       obtain⟨rfl,_⟩:=(hu l').1 hus
       exact h1
      ·exact h2 u l' (by omega) hus
    rw[hall]
    rcases ih with⟨h1,h0⟩ | ⟨_,h0,h1⟩
    ·rw[h0]
     unfold tp
     rw[if_pos (.inl rfl)]
     exact⟨fun h=>⟨h,fun u l' hu' hus=>absurd hus (h1 u l' hu')⟩,fun h=>h.1⟩
    ·rw[←h1 q]
     unfold tp
     split <;> omega
  ·have hn0:∀ l',¬Us s L c n l' r:=fun l' h=>by
    obtain⟨rfl,_⟩:=(hu l').1 h
    exact hul h
   rw[none_ hn0]
   rcases ih with⟨h1,h0⟩ | ⟨⟨u,l',h1,h2⟩,h0,h3⟩
   ·left
    refine⟨fun u l' hu'=>?_,h0⟩
    by_cases eu:u=n
    ·subst eu;exact hn0 l'
    ·exact h1 u l' (by omega)
   ·right
    refine⟨⟨u,l',by omega,h2⟩,h0,fun q=>?_⟩
    rw[h3 q]
    constructor
    ·intro h v l2 hv hus
     by_cases ev:v=n
     ·subst ev;exact absurd hus (hn0 l2)
     ·exact h v l2 (by omega) hus
    ·exact fun h v l2 hv hus=>h v l2 (by omega) hus
theorem zr_lt {s:Sys} {L:List (List Pc)} (h:plR s L=true) {c r:Nat} (hc:c<s.co.toNat) (hr:r<s.rs.toNat) {u:Nat} {l:List Pc} (hu:Us s L (c:Int) u l r) (q:Int):q<zr (ceV s L) c (r:Int) ↔ ∀ v l',Us s L (c:Int) v l' r→q<ceP s L v l':=by
 have e:zr (ceV s L) c (r:Int)=ceN s L (c:Int) L.length r:=by
  unfold zr ceV ceR
  simp[List.getD,hc,hr]
 rw[e]
 have hul:u<L.length:=(List.getElem?_eq_some_iff.1 hu.1).1
 rcases ceN_is (plR_parts h).2.1 (c:=(c:Int)) (r:=r) (Nat.le_refl L.length)with⟨h1,_⟩ | ⟨_,_,h3⟩
 ·exact absurd hu (h1 u l hul)
 ·rw[h3 q]
  exact⟨fun h v l' hus=>h v l' (List.getElem?_eq_some_iff.1 hus.1).1 hus,fun h v l' _ hus=>h v l' hus⟩
end Go.Proofs.YtjfaiaipojfhgaaGreat.pln
end
section
namespace Go.Proofs.YtjfaiaipojfhgaaGreat.pln
open val ter
structure CmpA (s s':Sys) (L L':List (List Pc)) (c:Nat) (pr pr':Int):Prop where
 lt:s.po=1→∀ (i:Nat) (y:Pc),L'[i]? = some [y]→L[i]? = some [y]→y.ti=false→y.co=(c:Int)→((rkP s' L' i y).pr<pr' ↔ (rkP s L i y).pr<pr)
 gt:s.pr=2→∀ (i:Nat) (y:Pc),L'[i]? = some [y]→L[i]? = some [y]→y.ti=false→y.co=(c:Int)→(pr'<(rkP s' L' i y).pr ↔ pr<(rkP s L i y).pr)
 ce:s.pr=2→∀ (i:Nat) (y:Pc),L'[i]? = some [y]→L[i]? = some [y]→y.ti=false→y.co=(c:Int)→(pr'<ceP s' L' i [y] ↔ pr<ceP s L i [y])
theorem RelA.one {s s':Sys} {L L':List (List Pc)} (h:RelA s s' L L') {i:Nat} {l:List Pc} {c:Nat} (e:L'[i]? = some l) (hw:whO l=(c:Int)):∃ y,l = [y]∧y.ti=false∧y.co=(c:Int)∧L[i]? = some [y]:=by
 obtain⟨y,rfl,h1,h2⟩:=whO_is hw (Int.natCast_nonneg c)
 rcases h.at_ i _ e with e2 | e2
 ·cases e2
 ·exact⟨y,rfl,h1,h2,e2⟩
theorem rk_first {s:Sys} {L:List (List Pc)} {i:Nat} {y:Pc} (h:L[i]? = some [y]):((rkV s L).getD i []).getD 0 pc0=rkP s L i y:=by
 have:=rkV_at (s:=s) h
 simp[List.getD,this,rkL]
theorem skP_is {s:Sys} {L:List (List Pc)} {c:Nat} {pr:Int} {i:Nat} {y:Pc} (h:L[i]? = some [y]) (ht:y.ti=false) (hc:y.co=(c:Int)):skP s ((rkV s L).map whO) (rkV s L) (c:Int) pr i=(decide (s.po=1) && decide ((rkP s L i y).pr<pr)):=by
 unfold skP
 rw[wh_rk,wh_at h,rk_first h]
 have:whO [y]=(c:Int):=by unfold whO;rw[if_pos ⟨rfl,ht⟩];exact hc
 rw[this]
 simp
theorem skP_off {s:Sys} {L:List (List Pc)} {c:Nat} {pr:Int} {i:Nat} {l:List Pc} (h:L[i]? = some l) (hw:whO l≠(c:Int)):skP s ((rkV s L).map whO) (rkV s L) (c:Int) pr i=true:=by
 unfold skP
 rw[wh_rk,wh_at h]
 simp[hw]
theorem bkS_ge (s:Sys) (wh:List Int) (z:Int→Int) (pr:Int) (i:Nat) (ss:List (Int × Int × Int)) (m:Int):∀ k,m≤bkS s wh z pr i ss m k
 | 0=>Int.le_refl m
 | k+1=>by
  have:=bkS_ge s wh z pr i ss m k
  rw[bkS]
  split <;> omega
theorem bkS_le {s s':Sys} {wh wh':List Int} {z z':Int→Int} {pr pr':Int} {i:Nat} {ss:List (Int × Int × Int)} {m m':Int} (hm:m'≤m) (hh:∀ k,holdV s' wh' (i:Int) k≤holdV s wh (i:Int) k) (hz:∀ (k:Nat) (y:Int × Int × Int),ss[k]? = some y→hiP s' z' pr' y.2.1=false→hiP s z pr y.2.1=false):∀ k,k≤ss.length→bkS s' wh' z' pr' i ss m' k≤bkS s wh z pr i ss m k
 | 0,_=>hm
 | k+1,hk=>by
  have ih:=bkS_le hm hh hz k (by omega)
  have hx:ss[k]? = some ss[k]:=List.getElem?_eq_getElem (by omega)
  rw[bkS_next hx,bkS_next hx]
  cases e:hiP s' z' pr' ss[k].2.1 with
  | true =>
   rw[if_pos rfl]
   have:=hh (k:Int)
   split <;> omega
  | false =>
   rw[if_neg (by simp),hz k _ hx e,if_neg (by simp)]
   have:=hh (k:Int)
   omega
theorem RelA.hi {s s':Sys} {L L':List (List Pc)} (h:RelA s s' L L') {c:Nat} (hc:c<s.co.toNat) {pr pr':Int} (hp:CmpA s s' L L' c pr pr') {i:Nat} {y:Pc} (e:L'[i]? = some [y]) (e2:L[i]? = some [y]) (ht:y.ti=false) (hy:y.co=(c:Int)) {t:Tsk} (hti:s.ts[i]? = some t) {x:Int × Int × Int} (hx:x ∈ t.secs)
  (hf:hiP s' (zr (ceV s' L') c) pr' x.2.1=false):hiP s (zr (ceV s L) c) pr x.2.1=false:=by
 unfold hiP at hf ⊢
 by_cases h2:s.pr=2
 ·have hri:=(right_sec (plR_parts h.ok).1 (List.mem_of_getElem? hti) hx).1
  obtain⟨r,hr⟩:∃ r:Nat,x.2.1=(r:Int):=⟨x.2.1.toNat,by omega⟩
  have hr9:r<s.rs.toNat:=by omega
  have hw:whO [y]=(c:Int):=by unfold whO;rw[if_pos ⟨rfl,ht⟩];exact hy
  have hu:Us s L (c:Int) i [y] r:=⟨e2,hw,t,hti,x,hx,hr⟩
  have hu':Us s' L' (c:Int) i [y] r:=⟨e,hw,t,by rw[h.ts];exact hti,x,hx,hr⟩
  rw[h.pr,hr] at hf
  rw[hr]
  rw[Bool.and_eq_false_iff] at hf ⊢
  right
  rw[decide_eq_false_iff_not]
  have hf2:¬pr'<zr (ceV s' L') c (r:Int):=by
   rcases hf with hf | hf
   ·simp[h2] at hf
   ·simpa using hf
  rw[zr_lt h.ok' (by rw[h.co];exact hc) (by rw[h.rs];exact hr9) hu'] at hf2
  rw[zr_lt h.ok hc hr9 hu]
  intro hall
  apply hf2
  intro v l' hus
  obtain⟨h1,h3,tv,h4,w,hw1,hw2⟩:=hus
  obtain⟨yv,rfl,g1,g2,g3⟩:=h.one h1 h3
  exact(hp.ce h2 v yv h1 g3 g1 g2).2 (hall v [yv] ⟨g3,h3,tv,by rw[←h.ts];exact h4,w,hw1,hw2⟩)
 ·simp[h2]
theorem RelA.bkM {s s':Sys} {L L':List (List Pc)} (h:RelA s s' L L') {c:Nat} (hc:c<s.co.toNat) {pr pr':Int} (hp:CmpA s s' L L' c pr pr'):∀ n,n≤L.length→bkM s' ((rkV s' L').map whO) (rkV s' L') (zr (ceV s' L') c) (c:Int) pr' n≤bkM s ((rkV s L).map whO) (rkV s L) (zr (ceV s L) c) (c:Int) pr n∧bkE s' ((rkV s' L').map whO) (rkV s' L') (c:Int) pr' n≤bkE s ((rkV s L).map whO) (rkV s L) (c:Int) pr n
 | 0,_=>⟨Int.le_refl _,Int.le_refl _⟩
 | n+1,hn=>by
  obtain⟨ih1,ih2⟩:=RelA.bkM h hc hp n (by omega)
  obtain⟨l',hl'⟩:∃ l,L'[n]? = some l:=⟨_,List.getElem?_eq_getElem (by rw[h.len];omega)⟩
  have hlen:=(plR_parts h.ok).2.1
  obtain⟨t,ht⟩:∃ t,s.ts[n]? = some t:=⟨_,List.getElem?_eq_getElem (by omega)⟩
  have mono:pln.bkM s ((rkV s L).map whO) (rkV s L) (zr (ceV s L) c) (c:Int) pr n≤pln.bkM s ((rkV s L).map whO) (rkV s L) (zr (ceV s L) c) (c:Int) pr (n+1):=by
   rw[pln.bkM]
   split
   ·exact Int.le_refl _
   ·exact bkS_ge _ _ _ _ _ _ _ _
  have monoE:bkE s ((rkV s L).map whO) (rkV s L) (c:Int) pr n≤bkE s ((rkV s L).map whO) (rkV s L) (c:Int) pr (n+1):=by
   rw[bkE]
   split
   ·exact Int.le_refl _
   ·split <;> omega
  by_cases hw:whO l'=(c:Int)
  ·obtain⟨y,rfl,h1,h2,h3⟩:=h.one hl' hw
   have k1:=skP_is (s:=s') (pr:=pr') hl' h1 h2
   have k2:=skP_is (s:=s) (pr:=pr) h3 h1 h2
   have hk:skP s' ((rkV s' L').map whO) (rkV s' L') (c:Int) pr' n=skP s ((rkV s L).map whO) (rkV s L) (c:Int) pr n:=by
    rw[k1,k2,h.po]
    by_cases hpo:s.po=1
    ·have:=hp.lt hpo n y hl' h3 h1 h2
     simp[hpo,this]
    ·simp[hpo]
   cases e:skP s ((rkV s L).map whO) (rkV s L) (c:Int) pr n with
   | true =>
    rw[e] at hk
    rw[pln.bkM,pln.bkM,bkE,bkE,hk,e,if_pos rfl,if_pos rfl,if_pos rfl,if_pos rfl]
    exact⟨ih1,ih2⟩
   | false =>
    rw[e] at hk
    have m1:pln.bkM s' ((rkV s' L').map whO) (rkV s' L') (zr (ceV s' L') c) (c:Int) pr' (n+1)=bkS s' ((rkV s' L').map whO) (zr (ceV s' L') c) pr' n t.secs (pln.bkM s' ((rkV s' L').map whO) (rkV s' L') (zr (ceV s' L') c) (c:Int) pr' n) t.secs.length:=by rw[pln.bkM,hk,if_neg (by simp),h.ts,getT ht]
    have m2:pln.bkM s ((rkV s L).map whO) (rkV s L) (zr (ceV s L) c) (c:Int) pr (n+1)=bkS s ((rkV s L).map whO) (zr (ceV s L) c) pr n t.secs (pln.bkM s ((rkV s L).map whO) (rkV s L) (zr (ceV s L) c) (c:Int) pr n) t.secs.length:=by rw[pln.bkM,e,if_neg (by simp),getT ht]
    have m3:bkE s' ((rkV s' L').map whO) (rkV s' L') (c:Int) pr' (n+1)=bkE s' ((rkV s' L').map whO) (rkV s' L') (c:Int) pr' n+if inP s' (rkV s' L') pr' n=true then 1 else 0:=by rw[bkE,hk,if_neg (by simp)]
    have m4:bkE s ((rkV s L).map whO) (rkV s L) (c:Int) pr (n+1)=bkE s ((rkV s L).map whO) (rkV s L) (c:Int) pr n+if inP s (rkV s L) pr n=true then 1 else 0:=by rw[bkE,e,if_neg (by simp)]
    rw[m1,m2,m3,m4]
    refine⟨bkS_le ih1 (fun k=>by rw[wh_rk,wh_rk];exact h.hold hl' h3 k) (fun k x hx hf=>h.hi hc hp hl' h3 h1 h2 ht (List.mem_of_getElem? hx) hf) _ (Nat.le_refl _),?_⟩
    have hin:inP s' (rkV s' L') pr' n=inP s (rkV s L) pr n:=by
     unfold inP
     rw[rk_first hl',rk_first h3,h.pr,h.ts]
     by_cases h5:s.pr=2
     ·have:=hp.gt h5 n y hl' h3 h1 h2
      simp[h5,this]
     ·simp[h5]
    rw[hin]
    omega
  ·have k1:=skP_off (s:=s') (pr:=pr') hl' hw
   rw[pln.bkM.eq_def s',bkE.eq_def s']
   dsimp only
   rw[k1,if_pos rfl,if_pos rfl]
   omega
theorem RelA.blk {s s':Sys} {L L':List (List Pc)} (h:RelA s s' L L') {c:Nat} (hc:c<s.co.toNat) {pr pr':Int} (hp:CmpA s s' L L' c pr pr'):blkV s' (rkV s' L') (ceV s' L') c pr'≤blkV s (rkV s L) (ceV s L) c pr:=by
 obtain⟨h1,h2⟩:=h.bkM hc hp L.length (Nat.le_refl _)
 have h3:=bkE_bd s' ((rkV s' L').map whO) (rkV s' L') (c:Int) pr' L.length
 have h4:=h.sw
 have h5:=h.fi
 unfold blkV
 rw[rkV_len,rkV_len,h.len]
 have h6:=Int.mul_le_mul h2 h5.2 h5.1 (by omega)
 omega
end Go.Proofs.YtjfaiaipojfhgaaGreat.pln
end
section
namespace Go.Proofs.YtjfaiaipojfhgaaGreat.pln
open val ter
theorem rk_pos {s:Sys} {L:List (List Pc)} (hpo:s.po=1) {i:Nat} {y:Pc} (ht:y.ti=false):1≤(rkP s L i y).pr:=by
 unfold rkP
 rw[if_pos ⟨hpo,ht⟩,ahead_zp]
 show 1≤1+aheadV (i:Int) y L
 unfold aheadV
 rw[aN_count];omega
theorem RelA.cmp {s s':Sys} {L L':List (List Pc)} (h:RelA s s' L L') (hpo:s.po=1) {c:Nat} {j m:Nat} {lx:List Pc} {x:Pc} (e:L'[j]? = some lx) (e2:L[j]? = some lx) (hx:lx[m]? = some x) (ht:x.ti=false) (hc:x.co=(c:Int)):CmpA s s' L L' c (rkP s L j x).pr (rkP s' L' j x).pr:=by
 have hpo':s'.po=1:=by rw[h.po];exact hpo
 have gt:∀ (i:Nat) (y:Pc),L'[i]? = some [y]→L[i]? = some [y]→y.ti=false→y.co=(c:Int)→((rkP s' L' j x).pr<(rkP s' L' i y).pr ↔ (rkP s L j x).pr<(rkP s L i y).pr):=fun i y g1 g2 g3 g4=>by
  rw[rk_lt h.ok' hpo' e g1 hx (m:=0) rfl g3 (by rw[hc,g4]),rk_lt h.ok hpo e2 g2 hx (m:=0) rfl g3 (by rw[hc,g4])]
 refine⟨fun _ i y g1 g2 g3 g4=>?_,fun _=>gt,fun _ i y g1 g2 g3 g4=>?_⟩
 ·rw[rk_lt h.ok' hpo' g1 e (k:=0) rfl hx ht (by rw[hc,g4]),rk_lt h.ok hpo g2 e2 (k:=0) rfl hx ht (by rw[hc,g4])]
 ·have k1:=rk_pos (L:=L') hpo' (i:=i) g3
  have k2:=rk_pos (L:=L) hpo (i:=i) g3
  have:=gt i y g1 g2 g3 g4
  have e3:ceP s' L' i [y]=(rkP s' L' i y).pr:=by unfold ceP;show max 1 (rkP s' L' i y).pr=_;omega
  have e4:ceP s L i [y]=(rkP s L i y).pr:=by unfold ceP;show max 1 (rkP s L i y).pr=_;omega
  rw[e3,e4]
  exact this
end Go.Proofs.YtjfaiaipojfhgaaGreat.pln
end
section
namespace Go.Proofs.YtjfaiaipojfhgaaGreat.pln
open val ter
theorem apL_in {c:Int} {i:Nat} {l:List Pc} {k:Nat} {x:Pc} (hx:l[k]? = some x) (hc:x.co=c):∀ {n:Nat},k<n→n≤l.length→(⟨x,i,k⟩:Ap) ∈ apL c i l n
 | 0,h,_=>absurd h (by omega)
 | n+1,h,hn=>by
  have hy:l[n]? = some l[n]:=List.getElem?_eq_getElem (by omega)
  rw[apL_next hy,List.mem_append]
  by_cases e:k=n
  ·subst e
   rw[hx] at hy
   right
   rw[←Option.some.inj hy,if_pos hc]
   simp
  ·exact .inl (apL_in hx hc (by omega) (by omega))
theorem apN_in {c:Int} {L:List (List Pc)} {i k:Nat} {l:List Pc} {x:Pc} (hl:L[i]? = some l) (hx:l[k]? = some x) (hc:x.co=c):∀ {n:Nat},i<n→n≤L.length→(⟨x,i,k⟩:Ap) ∈ apN c L n
 | 0,h,_=>absurd h (by omega)
 | n+1,h,hn=>by
  obtain⟨m,hm⟩:∃ m,L[n]? = some m:=⟨_,List.getElem?_eq_getElem (by omega)⟩
  rw[apN_next hm,List.mem_append]
  by_cases e:i=n
  ·subst e
   rw[hl] at hm
   cases hm
   exact .inr (apL_in hx hc (List.getElem?_eq_some_iff.1 hx).1 (Nat.le_refl _))
  ·exact .inl (apN_in hl hx hc (by omega) (by omega))
theorem apS_in {c:Int} {L:List (List Pc)} {i k:Nat} {l:List Pc} {x:Pc} (hl:L[i]? = some l) (hx:l[k]? = some x) (hc:x.co=c):(⟨x,i,k⟩:Ap) ∈ apS c L:=apN_in hl hx hc (List.getElem?_eq_some_iff.1 hl).1 (Nat.le_refl _)
end Go.Proofs.YtjfaiaipojfhgaaGreat.pln
end
section
namespace Go.Proofs.YtjfaiaipojfhgaaGreat.pln
open Go.ChangeShapes Go.WideShapes Go.ChangeAt Go.RowKit Go.Deep val ter
theorem ceV_len (s:Sys) (L:List (List Pc)):(ceV s L).length=s.co.toNat:=by unfold ceV;rw[List.length_map,List.length_range]
theorem ceR_len (s:Sys) (L:List (List Pc)) (c:Nat):(ceR s L c).length=s.rs.toNat:=by unfold ceR;rw[List.length_map,List.length_range]
theorem rceil_ok {s:Sys} {A:Option Addr} {n c:Nat} {A':Option Addr} {N c':Nat} {L:List (List Pc)} {w:World} (hs:RSys w A n c s) (hl:RPl w A' N L) (hr:plR s L=true):Calls Tryz.prog 12 #[sysV s A n c,.slice A' N c'] w fun e w'=>∃ AZ cZ,e=.returned (.tuple #[.slice AZ s.co.toNat cZ,.bool true])∧But No w w'∧RNs w' AZ s.co.toNat (ceV s L):=by
 refine(rceil_any s A n c A' N c' L w hs hl).mono ?_
 rintro e w' (⟨h,_⟩ | ⟨_,v,vs,rfl,h⟩)
 ·rw[hr] at h;cases h
 obtain⟨hc,hrs,_⟩:=right_len (plR_parts hr).1
 obtain⟨AZ,cZ,rfl,hz⟩:=h.ns (by rw[ceV_len];omega) (fun l hl=>by
  unfold ceV at hl
  obtain⟨k,_,rfl⟩:=List.mem_map.1 hl
  rw[ceR_len];omega)
 rw[ceV_len] at hz
 exact⟨AZ,cZ,by rw[ceV_len],h.but,hz⟩
end Go.Proofs.YtjfaiaipojfhgaaGreat.pln
end
section
namespace Go.Proofs.YtjfaiaipojfhgaaGreat.pln
open val ter
def ups (l m:List Pc):Prop:=l.length=m.length∧∀ (k:Nat) (x y:Pc),l[k]? = some x→m[k]? = some y→zp x=zp y
theorem ups_rk (s:Sys) (L:List (List Pc)) (i:Nat) (l:List Pc):ups (rkL s L i l) l:=by
 refine⟨by unfold rkL;rw[List.length_map],fun k x y hx hy=>?_⟩
 obtain⟨x',h1,rfl⟩:=rkL_at hx
 rw[hy] at h1
 cases h1
 rfl
theorem zp_get {l m:List Pc} (h:ups l m) (k:Nat):zp (l.getD k pc0)=zp (m.getD k pc0):=by
 by_cases hk:k<l.length
 ·have h1:l[k]? = some l[k]:=List.getElem?_eq_getElem hk
  have hk2:k<m.length:=by rw[←h.1];exact hk
  have h2:m[k]? = some m[k]:=List.getElem?_eq_getElem hk2
  rw[getD_some h1,getD_some h2]
  exact h.2 k _ _ h1 h2
 ·have hk2:¬k<m.length:=by rw[←h.1];exact hk
  simp[List.getD,hk,hk2]
theorem zp_co {x y:Pc} (h:zp x=zp y):x.co=y.co∧x.bu=y.bu∧x.de=y.de∧x.ti=y.ti:=by
 unfold zp at h
 simp only[Pc.mk.injEq] at h
 exact⟨h.1,h.2.1,h.2.2.1,h.2.2.2.2⟩
theorem smN_ups {l m:List Pc} (h:ups l m):∀ k,smN l k=smN m k
 | 0=>rfl
 | k+1=>by rw[smN,smN,smN_ups h k,(zp_co (zp_get h k)).2.1]
theorem lfN_ups {la d:Int} {l m:List Pc} (h:ups l m):∀ k,lfN la d l k=lfN la d m k
 | 0=>rfl
 | k+1=>by rw[lfN,lfN,lfN_ups h k,(zp_co (zp_get h k)).2.1]
theorem bad2_ups {l m:List Pc} (h:ups l m) (i:Nat) {x y:Pc} (hxy:zp x=zp y):bad2 l i x=bad2 m i y:=by
 have e:∀ {l m:List Pc} {x y:Pc},ups l m→zp x=zp y→bad2 l i x=true→bad2 m i y=true:=fun {l m x y} h hxy hb=>by
  unfold bad2 at hb
  rw[List.any_eq_true] at hb
  obtain⟨u,hu,hc⟩:=hb
  obtain⟨k,hk⟩:=List.mem_iff_getElem?.1 hu
  rw[List.getElem?_take] at hk
  split at hk
  ·next hki =>
   have hkl:=(List.getElem?_eq_some_iff.1 hk).1
   have h2:m[k]? = some (m[k]'(by rw[←h.1];exact hkl)):=List.getElem?_eq_getElem _
   have h3:=(zp_co (h.2 k _ _ hk h2)).1
   refine bad2_next hki h2 ?_
   rw[←h3,←(zp_co hxy).1]
   simpa using hc
  ·cases hk
 have h':ups m l:=⟨h.1.symm,fun k a b ha hb=>(h.2 k b a hb ha).symm⟩
 cases e1:bad2 l i x with
 | true=>exact(e h hxy e1).symm
 | false =>
  cases e2:bad2 m i y with
  | false=>rfl
  | true=>rw[e h' hxy.symm e2] at e1;cases e1
theorem okN_ups {s:Sys} {t:Tsk} {l m:List Pc} (h:ups l m):∀ k,okN s t l k=okN s t m k
 | 0=>rfl
 | k+1=>by
  have hz:=zp_get h k
  obtain⟨h1,h2,h3,h4⟩:=zp_co hz
  rw[okN,okN,okN_ups h k]
  unfold badP bad1 bad3
  rw[bad2_ups h k hz,lfN_ups h k,h.1,h1,h2,h3,h4]
theorem okL_ups {s:Sys} {t:Tsk} {l m:List Pc} (h:ups l m):okL s t l=okL s t m:=by
 unfold okL
 have e:decide (l = [])=decide (m = []):=by
  by_cases hl:l = []
  ·have:m = []:=List.length_eq_zero_iff.1 (by rw[←h.1,hl];rfl)
   simp[hl,this]
  ·have:m ≠ []:=fun hm=>hl (List.length_eq_zero_iff.1 (by rw[h.1,hm];rfl))
   simp[hl,this]
 rw[okN_ups h,smN_ups h,h.1,e,(zp_co (zp_get h (m.length-1))).2.2.2]
theorem tL_ups {c:Int} {l m:List Pc} (h:ups l m):∀ k,tL c l k=tL c m k∧uL c l k=uL c m k
 | 0=>⟨rfl,rfl⟩
 | k+1=>by
  obtain⟨h1,h2,h3,h4⟩:=zp_co (zp_get h k)
  obtain⟨e1,e2⟩:=tL_ups (c:=c) h k
  rw[tL,tL,uL,uL,e1,e2,h1,h4]
  exact⟨rfl,rfl⟩
theorem rk_ups (s:Sys) (L:List (List Pc)) (i:Nat):ups ((rkV s L).getD i []) (L.getD i []):=by
 cases h:L[i]? with
 | none =>
  have h1:(rkV s L)[i]? = none:=by rw[List.getElem?_eq_none_iff] at h ⊢;rw[rkV_len];exact h
  simp only[List.getD,h,h1]
  exact⟨rfl,fun k x y hx=>by cases hx⟩
 | some l =>
  have h1:=rkV_at (s:=s) h
  simp only[List.getD,h,h1]
  exact ups_rk s L i l
theorem plR_rk (s:Sys) (L:List (List Pc)):plR s (rkV s L)=plR s L:=by
 have hS:∀ n,okS s (rkV s L) n=okS s L n:=fun n=>by
  induction n with
  | zero=>rfl
  | succ n ih=>rw[okS,okS,ih,okL_ups (rk_ups s L n)]
 have hT:∀ c n,tN (rkV s L) c n=tN L c n∧uN s (rkV s L) c n=uN s L c n:=fun c n=>by
  induction n with
  | zero=>exact⟨rfl,rfl⟩
  | succ n ih =>
   have h:=rk_ups s L n
   rw[tN,tN,uN,uN,ih.1,ih.2,(tL_ups h _).1,(tL_ups h _).2,h.1]
   exact⟨rfl,rfl⟩
 have hC:∀ n,okC s (rkV s L) n=okC s L n:=fun n=>by
  induction n with
  | zero=>rfl
  | succ n ih=>rw[okC,okC,ih,rkV_len,(hT _ _).1,(hT _ _).2]
 unfold plR
 rw[rkV_len,hS,hC]
theorem ahead_rk (s:Sys) (L:List (List Pc)) (task:Int) (p:Pc):aheadV task p (rkV s L)=aheadV task p L:=by
 have hL:∀ (i:Nat) (l m:List Pc),ups l m→∀ k,aL task p i l k=aL task p i m k:=fun i l m h k=>by
  induction k with
  | zero=>rfl
  | succ k ih =>
   obtain⟨h1,h2,h3,h4⟩:=zp_co (zp_get h k)
   rw[aL,aL,ih]
   unfold aC
   rw[h1,h3,h4]
 have hN:∀ n,aN task p (rkV s L) n=aN task p L n:=fun n=>by
  induction n with
  | zero=>rfl
  | succ n ih =>
   have h:=rk_ups s L n
   rw[aN,aN,ih,hL n _ _ h,h.1]
 unfold aheadV
 rw[rkV_len,hN]
theorem rkV_rk (s:Sys) (L:List (List Pc)):rkV s (rkV s L)=rkV s L:=by
 apply List.ext_getElem?
 intro i
 cases h:L[i]? with
 | none =>
  have h1:(rkV s L)[i]? = none:=by rw[List.getElem?_eq_none_iff] at h ⊢;rw[rkV_len];exact h
  have h2:(rkV s (rkV s L))[i]? = none:=by rw[List.getElem?_eq_none_iff] at h1 ⊢;rw[rkV_len];exact h1
  rw[h1,h2]
 | some l =>
  have h1:=rkV_at (s:=s) h
  rw[rkV_at (s:=s) h1,h1]
  congr 1
  unfold rkL
  rw[List.map_map]
  apply List.map_congr_left
  intro x _
  show rkP s (rkV s L) i (rkP s L i x)=rkP s L i x
  unfold rkP
  simp only[Pc.mk.injEq,true_and,and_true]
  split
  ·next hc=>rw[ahead_rk];rfl
  ·rfl
def cntS {α:Type} (r:α→α→Bool) (L:List α):List α→Int
 | []=>0
 | x :: l=>(1+((L.countP fun y=>r y x:Nat):Int))+cntS r L l
theorem cntS_cons {α:Type} (r:α→α→Bool) (z:α) (L:List α):∀ l,cntS r (z :: L) l=cntS r L l+((l.countP fun x=>r z x:Nat):Int)
 | []=>rfl
 | x :: l=>by
  have ih:=cntS_cons r z L l
  rw[cntS,cntS,ih,List.countP_cons,List.countP_cons]
  split <;> omega
theorem cntS_sum {α:Type} {r:α→α→Bool}:∀ {l:List α},l.Pairwise (fun x y=>r x y = !r y x)→(∀ x ∈ l,r x x=false)→2*cntS r l l=(l.length:Int)*((l.length:Int)+1)
 | [],_,_=>rfl
 | x :: l,hp,hr=>by
  rw[List.pairwise_cons] at hp
  have ih:=cntS_sum (l:=l) hp.2 (fun y hy=>hr y (by simp[hy]))
  have h1:(l.countP fun y=>r y x)+(l.countP fun y=>r x y)=l.length:=by
   have aux:∀ m:List α,(∀ y ∈ m,r x y = !r y x)→(m.countP fun y=>r y x)+(m.countP fun y=>r x y)=m.length:=fun m=>by
    induction m with
    | nil=>exact fun _=>rfl
    | cons y m ih =>
     intro hm
     have e:=hm y (by simp)
     have:=ih (fun z hz=>hm z (by simp[hz]))
     rw[List.countP_cons,List.countP_cons,List.length_cons,e]
     cases r y x <;> simp <;> omega
   exact aux l hp.1
  have h2:((x :: l).countP fun y=>r y x)=l.countP fun y=>r y x:=by rw[List.countP_cons,hr x (by simp)];simp
  rw[cntS,cntS_cons,h2,List.length_cons]
  have h3:(((l.length+1:Nat)):Int)*(((l.length+1:Nat):Int)+1)=(l.length:Int)*((l.length:Int)+1)+2*(l.length:Int)+2:=by
   have e:(((l.length+1:Nat)):Int)=(l.length:Int)+1:=by omega
   rw[e]
   generalize (l.length:Int)=n
   have e2:n*(n+1+1)=n*(n+1)+n:=by rw[Int.mul_add n (n+1) 1,Int.mul_one]
   rw[Int.add_mul,e2]
   generalize n*(n+1)=P
   omega
  rw[h3]
  obtain⟨P,hP⟩:∃ P,(l.length:Int)*((l.length:Int)+1)=P:=⟨_,rfl⟩
  rw[hP] at ih ⊢
  omega
theorem ceN_top {s:Sys} {L:List (List Pc)} (h:plR s L=true) {c:Int} {r:Nat}:((∀ u l,¬Us s L c u l r)∧ceN s L c L.length r=0)∨(1≤ceN s L c L.length r∧(∀ u l,Us s L c u l r→ceN s L c L.length r≤ceP s L u l)∧∃ u l,Us s L c u l r∧ceN s L c L.length r=ceP s L u l):=by
 rcases ceN_is (plR_parts h).2.1 (c:=c) (r:=r) (Nat.le_refl L.length)with⟨h1,h2⟩ | ⟨_,h2,h3⟩
 ·exact .inl ⟨fun u l hu=>h1 u l (List.getElem?_eq_some_iff.1 hu.1).1 hu,h2⟩
 ·have hle:∀ u l,Us s L c u l r→ceN s L c L.length r≤ceP s L u l:=fun u l hu=>by
   have h4:=(h3 (ceN s L c L.length r-1)).1 (by omega) u l (List.getElem?_eq_some_iff.1 hu.1).1 hu
   omega
  refine .inr ⟨h2,hle,Classical.byContradiction fun hne=>?_⟩
  have:=(h3 (ceN s L c L.length r)).2 (fun u l _ hu=>by
   have h5:=hle u l hu
   have h6:ceN s L c L.length r≠ceP s L u l:=fun e=>hne ⟨u,l,hu,e⟩
   omega)
  omega
end Go.Proofs.YtjfaiaipojfhgaaGreat.pln
end
