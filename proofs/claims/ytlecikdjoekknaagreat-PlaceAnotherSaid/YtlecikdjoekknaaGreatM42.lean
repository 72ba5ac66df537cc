/- Part 42 of a proof: PcC PcD PcE PcF PcH PcI. -/
import Derived.Test.YtlecikdjoekknaaGreatM19
import Derived.Test.YtlecikdjoekknaaGreatM38
set_option maxRecDepth 100000
set_option maxHeartbeats 16000000
set_option linter.unusedVariables false
set_option linter.unusedSimpArgs false
section
namespace Go.Proofs.YtlecikdjoekknaaGreat.pln
open val ter
theorem ap_sorted {s:Sys} {L:List (List Pc)} (h:plR s L=true) (c:Nat):∀ i,i<=L.length->(apN (c:Int) (rkV s L) i).Pairwise (λ a b=>a.i<b.i)
 | 0,_=>List.Pairwise.nil
 | i+1,hi=>by
  have hl:L[i]? = some (L[i]'(by omega)):=List.getElem?_eq_getElem (by omega)
  rw[ap_step hl]
  refine List.pairwise_append.2 ⟨ap_sorted h c i (by omega),?_,λ a ha b hb=>?_⟩
  ·rcases core_cases h c hl with⟨e,_⟩ | ⟨y,e,_⟩
   ·rw[e];exact List.Pairwise.nil
   ·rw[e];simp
  ·have h1:=apL_one_task _ _ _ _ b hb
   obtain⟨l2,h2,_,_,h3⟩:=apN_mem (by rw[rkV_len];omega) ha
   omega
def perO (s:Sys) (y:Ap):Int:=(s.ts.getD y.i ts0).p
theorem ap_facts {s:Sys} {L:List (List Pc)} (h:plR s L=true) {c:Nat} {y:Ap} (hy:y ∈ apS (c:Int) (rkV s L)):∃ (l:List Pc) (x:Pc) (t:Tsk),L[y.i]? = some l/\l[y.k]? = some x/\y.p=rkP s L y.i x/\x.co=(c:Int)/\s.ts[y.i]? = some t/\(0<=y.p.bu/\y.p.bu<=1099511627776)/\(1<=t.p/\t.p<=1099511627776)/\t.d<=t.p/\t.w<=t.d/\y.p.bu<=t.w/\(x.ti=false->x.de<=t.d)/\perO s y=t.p:=by
 obtain⟨hr,hL,hok⟩:=plR_parts h
 obtain⟨rl,h1,h2,h3⟩:=apS_mem hy
 have hi:y.i<L.length:=by have:=(List.getElem?_eq_some_iff.1 h1).1;rw[rkV_len] at this;exact this
 obtain⟨l,hl⟩:∃ l,L[y.i]? = some l:=⟨_,List.getElem?_eq_getElem hi⟩
 rw[rkV_at hl] at h1
 cases h1
 obtain⟨x,hx,hp⟩:=rkL_at h2
 obtain⟨t,ht⟩:∃ t,s.ts[y.i]? = some t:=⟨_,List.getElem?_eq_getElem (by omega)⟩
 have h5:=okS_at hok hl
 rw[getT ht] at h5
 have hb:=okL_bu h5 hx
 have h6:=(right_parts hr).2 t (List.mem_of_getElem? ht)
 unfold vTsk vHead at h6
 simp only[Bool.and_eq_true,wi_true] at h6
 refine⟨l,x,t,hl,hx,hp,by rw[hp] at h3;exact h3,ht,?_,by omega,by omega,by omega,?_,λ tx=>?_,by unfold perO;rw[getT ht]⟩
 ·rw[hp];show 0<=x.bu/\x.bu<=_;omega
 ·rw[hp];show x.bu<=_;omega
 ·have h7:=(okL_de h5 hx tx).1
  have h8:0<=sumB s l y.k:=by
   have hbp:∀ k,k<=l.length->0<=sumB s l k:=λ k=>by
    induction k with
    | zero=>intro _;exact Int.le_refl _
    | succ k ih =>
     intro hk
     have hxk:l[k]? = some (l[k]'(by omega)):=List.getElem?_eq_getElem (by omega)
     have:=okL_bu h5 hxk
     have hla:=(right_nums hr).2.1
     rw[sumB,getD_some hxk]
     have:=ih (by omega)
     omega
   exact hbp _ (Nat.le_of_lt (List.getElem?_eq_some_iff.1 hx).1)
  omega
theorem pr_one {s:Sys} {L:List (List Pc)} (h:plR s L=true) (hpo:s.po=1) {c:Nat} {y:Ap} (hy:y ∈ apS (c:Int) (rkV s L)):(y.p.ti=true->y.p.pr=0)/\(y.p.ti=false->1<=y.p.pr):=by
 obtain⟨l,x,t,hl,hx,hp,_⟩:=ap_facts h hy
 rw[hp]
 constructor
 ·intro ht
  have ht2:x.ti=true:=ht
  unfold rkP
  dsimp only
  rw[if_neg (by rw[ht2];simp)]
 ·intro ht
  have ht2:x.ti=false:=ht
  unfold rkP
  dsimp only
  rw[if_pos ⟨hpo,ht2⟩]
  have:0<=aheadV (y.i:Int) (zp x) L:=by unfold aheadV;rw[aN_count];omega
  omega
theorem own_bu {s:Sys} (h:right s=true) (R:List (List Pc)) (i:Nat) (x:Pc):x.bu<=ownV s R i x:=by
 have h1:=right_costs h
 have h2:=extra_bd h (R.map whO) (i:Int)
 unfold ownV
 split <;> omega
theorem up_ge {n p:Int} (hp:1<=p):n<=rsp.up n p*p:=by
 unfold rsp.up
 have h1:=Int.emod_add_mul_ediv n p
 have h2:=Int.emod_nonneg n (show p≠0 by omega)
 have h3:=Int.emod_lt_of_pos n (show 0<p by omega)
 have e:p*(n/p)=n/p*p:=Int.mul_comm _ _
 rw[Int.add_mul]
 generalize n/p=q at h1 e ⊢
 generalize n % p=m at h1 h2 h3 ⊢
 split
 ·rw[Int.one_mul];omega
 ·rw[Int.zero_mul];omega
theorem load_fixed {s:Sys} {L:List (List Pc)} (h:plR s L=true) (hpo:s.po=1) {c:Nat} (herr:erC s (rkV s L) (ceV s L) (apS (c:Int) (rkV s L)) c=0) (hex:∃ x ∈ apS (c:Int) (rkV s L),x.p.ti=false) :
  smF (λ y=>qar.tm y.p.bu (perO s y)) (apS (c:Int) (rkV s L))<=4294967296+((apS (c:Int) (rkV s L)).length:Int):=by
 obtain⟨hr,hL,hok⟩:=plR_parts h
 obtain⟨x,hx,tx,hmax⟩:=max_ap hex
 obtain⟨j,hj⟩:=List.mem_iff_getElem?.1 hx
 have h1:=erJ_zero (erC_parts herr).2 hj
 unfold erX at h1
 rw[if_neg (by rw[tx];rintro(e | e);cases e;omega)] at h1
 unfold fixV at h1
 obtain⟨b1,b2,b3,b4,b5,b6,_⟩:=rsp.bn_ok h1
 generalize (rsp.bnP (ownV s (rkV s L) x.i x.p) (blkV s (rkV s L) (ceV s L) c x.p.pr) s.re ((abv x.p.pr (apS (c:Int) (rkV s L))).map (ldOf s (rkV s L))) ((apS (c:Int) (rkV s L)).map (ldOf s (rkV s L))) x.p.de).1=r at b3 b4 b5 b6
 rw[rsp.wiS_L] at b6
 obtain⟨c1,c2,c3,c4,c5⟩:=rsp.right_iff.1 b1
 have hB:0<=rsp.sL (rsp.fB s.re r) ((apS (c:Int) (rkV s L)).map (ldOf s (rkV s L))):=rsp.sL_pos (λ z hz=>rsp.fB_pos (by omega) c5.1 ((rsp.okLs_iff.1 c2).2 z hz))
 obtain⟨lx,xx,tt,hlx,hxx,hpx,hcx,htx,_,htp,hdp,_,_,hde,hpe⟩:=ap_facts h hx
 have hxti:xx.ti=false:=by rw[hpx] at tx;exact tx
 have hxde:x.p.de=xx.de:=by rw[hpx];rfl
 have hrT:r<=perO s x:=by rw[hpe];have:=hde hxti;rcases b5 with e | e <;> omega
 have hsame:∀ y ∈ apS (c:Int) (rkV s L),¬y.p.pr<x.p.pr->y=x:=λ y hy hn=>by
  have hpy:=pr_one h hpo hy
  have hpx1:=(pr_one h hpo hx).2 tx
  cases ty:y.p.ti with
  | true=>have:=hpy.1 ty;omega
  | false =>
   have hle:=hmax y hy ty
   apply ap_one h hy hx
   apply Classical.byContradiction
   intro hne
   obtain⟨ly,yy,_,hly,hyy,hpy2,hcy,_⟩:=ap_facts h hy
   have hyti:yy.ti=false:=by rw[hpy2] at ty;exact ty
   have e1:=rk_lt h hpo hly hlx hyy hxx hxti (by rw[hcy,hcx])
   have e2:=rk_lt h hpo hlx hly hxx hyy hyti (by rw[hcy,hcx])
   rw[<-hpx,<-hpy2] at e1 e2
   by_cases hb:Bf y.i yy x.i xx
   ·have:=e1.2 (.inr ⟨hne,hb⟩);omega
   ·have hb2:Bf x.i xx y.i yy:=by unfold Bf at hb ⊢;omega
    have:=e2.2 (.inr ⟨Ne.symm hne,hb2⟩);omega
 have hcount:((apS (c:Int) (rkV s L)).filter (λ y=>!decide (y.p.pr<x.p.pr))).length<=1:=by
  refine one_of (x:=x) ((by unfold apS;rw[rkV_len];exact ap_sorted h c _ (Nat.le_refl _):(apS (c:Int) (rkV s L)).Pairwise _).filter _) (λ y hy=>?_)
  obtain⟨h2,h3⟩:=List.mem_filter.1 hy
  exact hsame y h2 (by simpa using h3)
 refine share_all (r:=r) (u:=λ y=>if y.p.pr<x.p.pr then rsp.fA r (ldOf s (rkV s L) y) else ownV s (rkV s L) x.i x.p) (by omega) (λ y hy=>?_) ?_
 ·obtain⟨_,_,t,_,_,_,_,_,hbu,htp2,_,_,_,_,hpe2⟩:=ap_facts h hy
  refine⟨hbu.1,by omega,?_⟩
  have hown:=own_bu hr (rkV s L) y.i y.p
  by_cases hlt:y.p.pr<x.p.pr
  ·show y.p.bu*r<=(if y.p.pr<x.p.pr then _ else _)*_
   rw[if_pos hlt]
   have hz:rsp.okD (ldOf s (rkV s L) y)=true:=(rsp.okLs_iff.1 c2).2 _ (List.mem_map.2 ⟨y,hy,rfl⟩)
   obtain⟨_,_,hj0,_⟩:=rsp.okD_iff.1 hz
   have hp1:1<=perO s y:=(rsp.okD_iff.1 hz).2.1.1
   have hup:r<=rsp.up (r+(ldOf s (rkV s L) y).j) (perO s y)*perO s y:=by
    have:=up_ge (n:=r+(ldOf s (rkV s L) y).j) hp1
    omega
   show _<=rsp.up (r+(ldOf s (rkV s L) y).j) (perO s y)*ownV s (rkV s L) y.i y.p*perO s y
   generalize rsp.up (r+(ldOf s (rkV s L) y).j) (perO s y)=U at hup ⊢
   have e:U*ownV s (rkV s L) y.i y.p*perO s y=ownV s (rkV s L) y.i y.p*(U*perO s y):=by rw[Int.mul_comm U,Int.mul_assoc]
   rw[e]
   exact Int.le_trans (Int.mul_le_mul_of_nonneg_right hown (by omega)) (Int.mul_le_mul_of_nonneg_left hup (by omega))
  ·show y.p.bu*r<=(if y.p.pr<x.p.pr then _ else _)*_
   rw[if_neg hlt]
   obtain rfl:=hsame y hy hlt
   exact Int.le_trans (Int.mul_le_mul_of_nonneg_right hown (by omega)) (Int.mul_le_mul_of_nonneg_left hrT c3.1)
 ·rw[smF_split]
  have hk:(((apS (c:Int) (rkV s L)).filter (λ y=>!decide (y.p.pr<x.p.pr))).length:Int)*ownV s (rkV s L) x.i x.p<=ownV s (rkV s L) x.i x.p:=by
   have:=Int.mul_le_mul_of_nonneg_right (show (((apS (c:Int) (rkV s L)).filter (λ y=>!decide (y.p.pr<x.p.pr))).length:Int)<=1 by omega) c3.1
   rwa [Int.one_mul] at this
  omega
theorem smF_app (f:Ap->Int) (b:List Ap):∀ a,smF f (a ++ b)=smF f a+smF f b
 | []=>by rw[List.nil_append,smF];omega
 | y :: a=>by rw[List.cons_append,smF,smF,smF_app f b a];omega
theorem tight_row (c:Int) (i:Nat) (l:List Pc):∀ k,k<=l.length->(((apL c i l k).filter (λ y=>y.p.ti)).length:Int)=tL c l k
 | 0,_=>rfl
 | k+1,hk=>by
  have hx:l[k]? = some (l[k]'(by omega)):=List.getElem?_eq_getElem (by omega)
  have ih:=tight_row c i l k (by omega)
  rw[apL_next hx,tL,getD_some hx,List.filter_append,List.length_append,<-ih]
  by_cases h1:(l[k]'(by omega)).co=c
  ·rw[if_pos h1]
   by_cases h2:(l[k]'(by omega)).ti=true
   ·rw[if_pos ⟨h2,h1⟩,List.filter_cons_of_pos (by simpa using h2)];simp
   ·rw[if_neg (λ e=>h2 e.1),List.filter_cons_of_neg (by simpa using h2)];simp
  ·rw[if_neg h1,if_neg (λ e=>h1 e.2)];simp
theorem tight_all (c:Int) (R:List (List Pc)):∀ i,i<=R.length->(((apN c R i).filter (λ y=>y.p.ti)).length:Int)=tN R c i
 | 0,_=>rfl
 | i+1,hi=>by
  have hl:R[i]? = some (R[i]'(by omega)):=List.getElem?_eq_getElem (by omega)
  have ih:=tight_all c R i (by omega)
  rw[apN_next hl,tN,getL hl,List.filter_append,List.length_append,<-ih,<-tight_row c i _ _ (Nat.le_refl _)]
  omega
theorem tight_one {s:Sys} {L:List (List Pc)} (h:plR s L=true) {c:Nat} (hc:c<s.co.toNat) (hall:∀ x ∈ apS (c:Int) (rkV s L),x.p.ti=true):(apS (c:Int) (rkV s L)).length<=1:=by
 have h1:plR s (rkV s L)=true:=by rw[plR_rk];exact h
 have h2:¬1<tN (rkV s L) (c:Int) (rkV s L).length:=λ e=>by
  rw[plR_core hc (.inl e)] at h1;cases h1
 have h3:=tight_all (c:Int) (rkV s L) _ (Nat.le_refl _)
 have h4:(apN (c:Int) (rkV s L) (rkV s L).length).filter (λ y=>y.p.ti)=apN (c:Int) (rkV s L) (rkV s L).length:=List.filter_eq_self.2 (λ y hy=>hall y hy)
 rw[h4] at h3
 unfold apS
 omega
theorem tm_le {z t:Int} (hz:0<=z) (hzt:z<=t) (ht:0<t):qar.tm z t<=4294967296:=by
 have h:=tm_share (r:=t) (u:=z) hz ht ht (Int.le_refl _)
 apply Classical.byContradiction
 intro hn
 have h1:4294967296*t<=(qar.tm z t-1)*t:=Int.mul_le_mul_of_nonneg_right (by omega) (by omega)
 have h2:=tm_lt hz ht
 have h3:z*4294967296<=t*4294967296:=Int.mul_le_mul_of_nonneg_right hzt (by omega)
 have h4:t*4294967296=4294967296*t:=Int.mul_comm _ _
 omega
theorem load_tight {s:Sys} {L:List (List Pc)} (h:plR s L=true) {c:Nat} (hc:c<s.co.toNat) (hall:∀ x ∈ apS (c:Int) (rkV s L),x.p.ti=true):smF (λ y=>qar.tm y.p.bu (perO s y)) (apS (c:Int) (rkV s L))<=4294967296+((apS (c:Int) (rkV s L)).length:Int):=by
 have h1:=tight_one h hc hall
 have hf:∀ y ∈ apS (c:Int) (rkV s L),qar.tm y.p.bu (perO s y)<=4294967296:=λ y hy=>by
  obtain⟨_,_,t,_,_,_,_,_,hbu,htp,hd,hw,hbw,_,hpe⟩:=ap_facts h hy
  exact tm_le hbu.1 (by omega) (by omega)
 generalize apS (c:Int) (rkV s L)=l at h1 hf
 match l,h1,hf with
 | [],_,_=>rw[smF];simp
 | [y],_,hf=>have:=hf y (by simp);rw[smF,smF];simp only[List.length_cons,List.length_nil];omega
theorem tm_mono {z z' t:Int} (hz:0<=z) (h:z<=z') (ht:0<t):qar.tm z t<=qar.tm z' t:=by
 apply Classical.byContradiction
 intro hn
 have h1:=tm_lt hz ht
 have h2:z'*4294967296<=qar.tm z' t*t:=by
  unfold qar.tm qar.mdQ
  have e1:=Int.emod_add_mul_ediv (z'*4294967296) t
  have e2:=Int.emod_lt_of_pos (z'*4294967296) ht
  have e3:t*(z'*4294967296/t)=(z'*4294967296/t)*t:=Int.mul_comm _ _
  generalize z'*4294967296/t=q at e1 e3 ⊢
  split
  ·rw[Int.add_mul,Int.one_mul];omega
  ·next h4 =>
   have:z'*4294967296 % t=0:=Classical.byContradiction (λ e=>h4 ⟨rfl,e⟩)
   omega
 have h3:qar.tm z' t*t<=(qar.tm z t-1)*t:=Int.mul_le_mul_of_nonneg_right (by omega) (by omega)
 have h4:z*4294967296<=z'*4294967296:=Int.mul_le_mul_of_nonneg_right h (by omega)
 omega
theorem sum_le {s:Sys} {R:List (List Pc)} {f:Ap->Int} {g:dem.Wk->Int} {l:List Ap} (h:∀ y ∈ l,f y<=g (wkOf s R y)):∀ i,i<=l.length->smF f (l.take i)<=dem.sN 0 g (l.map (wkOf s R)) i
 | 0,_=>by rw[List.take_zero,smF,dem.sN];omega
 | i+1,hi=>by
  have hx:l[i]? = some (l[i]'(by omega)):=List.getElem?_eq_getElem (by omega)
  have ih:=sum_le h i (by omega)
  have h1:=h _ (List.mem_of_getElem? hx)
  rw[List.take_add_one,hx,smF_app,dem.sN_succ (x:=wkOf s R (l[i]'(by omega))) (by rw[List.getElem?_map,hx];rfl)]
  show smF f (l.take i)+(f _+0)<=_
  omega
theorem load_edf {s:Sys} {L:List (List Pc)} (h:plR s L=true) (hpo:s.po=2) {c:Nat} (hc:c<s.co.toNat) (herr:erC s (rkV s L) (ceV s L) (apS (c:Int) (rkV s L)) c=0) (hex:∃ x ∈ apS (c:Int) (rkV s L),x.p.ti=false) :
  smF (λ y=>qar.tm y.p.bu (perO s y)) (apS (c:Int) (rkV s L))<=4294967296+((apS (c:Int) (rkV s L)).length:Int):=by
 obtain⟨hr,hL,hok⟩:=plR_parts h
 obtain⟨x,hx,tx⟩:=hex
 have h1:=(erC_parts herr).1 hpo (λ e=>by rw[e] at hx;simp at hx)
 unfold edfV at h1
 obtain⟨hrt,h2⟩:=dem.test_ok h1
 obtain⟨_,hblk,hre,hokw⟩:=dem.right_iff.1 hrt
 have hb:(dem.busyP ((apS (c:Int) (rkV s L)).map (wkOf s (rkV s L))) (blkV s (rkV s L) (ceV s L) c 0) s.re).2=0:=by
  rcases h2 with h2 | h2
  ·exfalso
   have hm:wkOf s (rkV s L) x ∈ (apS (c:Int) (rkV s L)).map (wkOf s (rkV s L)):=List.mem_map.2 ⟨x,hx,rfl⟩
   rcases dem.least_char (l:=(apS (c:Int) (rkV s L)).map (wkOf s (rkV s L))) (λ z hz=>(dem.okW_iff.1 (hokw z hz)).2.2.1)with⟨_,e⟩ | ⟨e,_⟩
   ·have e2:x.p.ti=true:=e _ hm
    rw[tx] at e2;cases e2
   ·omega
  ·exact h2.1
 have hl:dem.ldS s.re ((apS (c:Int) (rkV s L)).map (wkOf s (rkV s L)))<=4294967296:=by
  unfold dem.busyP at hb
  rw[if_pos hrt] at hb
  apply Classical.byContradiction
  intro hn
  rw[if_pos (by omega)] at hb
  cases hb
 have h3:=sum_le (s:=s) (R:=rkV s L) (f:=λ y=>qar.tm y.p.bu (perO s y)) (g:=λ x=>qar.tm x.w x.p+qar.tm s.re x.p) (l:=apS (c:Int) (rkV s L)) (λ y hy=>by
  obtain⟨_,_,t,_,_,_,_,_,hbu,htp,_,_,_,_,hpe⟩:=ap_facts h hy
  have hown:=own_bu hr (rkV s L) y.i y.p
  have hp:(wkOf s (rkV s L) y).p=perO s y:=rfl
  have hw:(wkOf s (rkV s L) y).w=ownV s (rkV s L) y.i y.p:=rfl
  rw[hp,hw]
  have h4:=tm_mono (t:=perO s y) hbu.1 hown (by omega)
  have h5:=qar.tm_nonneg (z:=s.re) (t:=perO s y) (by omega) (by omega)
  omega) _ (Nat.le_refl _)
 rw[List.take_length] at h3
 unfold dem.ldS at hl
 rw[List.length_map] at hl
 omega
theorem load_core {s:Sys} {L:List (List Pc)} (h:plR s L=true) (herr:(erN s (rkV s L) (ceV s L) s.co.toNat).2=0) {c:Nat} (hc:c<s.co.toNat) :
  smF (λ y=>qar.tm y.p.bu (perO s y)) (apS (c:Int) (rkV s L))<=4294967296+((apS (c:Int) (rkV s L)).length:Int):=by
 have h1:=erN_zero herr hc
 by_cases hex:∃ x ∈ apS (c:Int) (rkV s L),x.p.ti=false
 ·rcases(right_pr (plR_parts h).1).2.1 with hpo | hpo
  ·exact load_fixed h hpo h1 hex
  ·exact load_edf h hpo hc h1 hex
 ·refine load_tight h hc (λ x hx=>?_)
  cases e:x.p.ti with
  | true=>rfl
  | false=>exact absurd ⟨x,hx,e⟩ hex
def addP (L:List (List Pc)) (i:Nat) (p:Pc):List (List Pc):=L.set i (L.getD i [] ++ [p])
def hasC (L:List (List Pc)) (i:Nat) (c:Int):Bool:=(L.getD i []).any (λ y=>decide (y.co=c))
def lstP (c bu de:Int):Pc:=⟨c,bu,de,0,false⟩
def tiP (c bu:Int):Pc:=⟨c,bu,bu,0,true⟩
def good (s:Sys) (L:List (List Pc)):Bool:=decide ((chkV s L).2.2=0)
def said (s:Sys) (L:List (List Pc)) (m:Bool × Bool):Bool × Bool:=(m.1 || decide ((chkV s L).2.2=2),m.2 || decide ((chkV s L).2.2=11))
def laN (s:Sys) (L:List (List Pc)) (i:Nat) (bu de:Int) (m:Bool × Bool):Nat->Option Nat × (Bool × Bool)
 | 0=>(none,m)
 | c+1 =>
  match (laN s L i bu de m c).1 with
  | some d=>(some d,(laN s L i bu de m c).2)
  | none=>if hasC L i c=true then (none,(laN s L i bu de m c).2) else (if good s (addP L i (lstP c bu de))=true then some c else none,said s (addP L i (lstP c bu de)) (laN s L i bu de m c).2)
def biN (s:Sys) (L:List (List Pc)) (i:Nat) (c rest left:Int):Nat->Int->Int->Bool × Bool->Int × (Bool × Bool)
 | 0,a,_,m=>(a,m)
 | n+1,a,b,m =>
  if a<b then
   if left-(a+b+1)/2-(s.la-1)<rest-(a+b+1)/2 then biN s L i c rest left n a ((a+b+1)/2-1) m
   else if good s (addP L i (tiP c ((a+b+1)/2)))=true then biN s L i c rest left n ((a+b+1)/2) b (said s (addP L i (tiP c ((a+b+1)/2))) m)
   else biN s L i c rest left n a ((a+b+1)/2-1) (said s (addP L i (tiP c ((a+b+1)/2))) m)
  else (a,m)
def tiN (s:Sys) (L:List (List Pc)) (i:Nat) (rest left:Int) (m:Bool × Bool):Nat->Option (Nat × Int) × (Bool × Bool)
 | 0=>(none,m)
 | c+1 =>
  match (tiN s L i rest left m c).1 with
  | some d=>(some d,(tiN s L i rest left m c).2)
  | none=>if hasC L i c=true then (none,(tiN s L i rest left m c).2) else
   (
    if 0<(biN s L i c rest left rest.toNat 0 (rest-1) (tiN s L i rest left m c).2).1 then some (c,(biN s L i c rest left rest.toNat 0 (rest-1) (tiN s L i rest left m c).2).1) else none,
    (biN s L i c rest left rest.toNat 0 (rest-1) (tiN s L i rest left m c).2).2)
def spN (s:Sys) (i:Nat):Nat->List (List Pc)->Int->Int->Bool × Bool->Option (List (List Pc)) × (Bool × Bool)
 | 0,_,_,_,m=>(none,m)
 | n+1,L,rest,left,m =>
  match tiN s L i rest left m s.co.toNat with
  | (none,m1)=>(none,m1)
  | (some (c,a),m1) =>
   match laN s (addP L i (tiP c a)) i (rest-a) (left-a-(s.la-1)) m1 s.co.toNat with
   | (some d,m2)=>(some (addP (addP L i (tiP c a)) i (lstP d (rest-a) (left-a-(s.la-1)))),m2)
   | (none,m2)=>spN s i n (addP L i (tiP c a)) (rest-a) (left-a-(s.la-1)) m2
def plT (s:Sys) (L:List (List Pc)) (i:Nat):Option (List (List Pc)) × (Bool × Bool) :=
 match laN s L i (s.ts.getD i ts0).w (s.ts.getD i ts0).d (false,false) s.co.toNat with
 | (some c,m)=>(some (addP L i (lstP c (s.ts.getD i ts0).w (s.ts.getD i ts0).d)),m)
 | (none,m)=>if (s.ts.getD i ts0).secs ≠ [] then (none,m) else spN s i 9 L (s.ts.getD i ts0).w (s.ts.getD i ts0).d m
def erM (m:Bool × Bool):Int:=if m.1=true then 2 else if m.2=true then 11 else 12
def plV (s:Sys):List Nat->List (List Pc)->Except Int (List (List Pc))
 | [],L=>.ok L
 | i :: o,L=>match plT s L i with
  | (some L1,_)=>plV s o L1
  | (none,m)=>.error (erM m)
theorem addP_len (L:List (List Pc)) (i:Nat) (p:Pc):(addP L i p).length=L.length:=by unfold addP;rw[List.length_set]
theorem addP_at {L:List (List Pc)} {i:Nat} (h:i<L.length) (p:Pc):(addP L i p)[i]? = some (L.getD i [] ++ [p]):=by unfold addP;rw[List.getElem?_set_self h]
theorem addP_ne (L:List (List Pc)) {i j:Nat} (h:j≠i) (p:Pc):(addP L i p)[j]? = L[j]?:=by unfold addP;rw[List.getElem?_set_ne (Ne.symm h)]
theorem laN_good {s:Sys} {L:List (List Pc)} {i:Nat} {bu de:Int} {m:Bool × Bool}:∀ {n d:Nat},(laN s L i bu de m n).1=some d->d<n/\hasC L i d=false/\good s (addP L i (lstP d bu de))=true
 | 0,d,h=>by rw[laN] at h;cases h
 | c+1,d,h=>by
  rw[laN] at h
  cases e:(laN s L i bu de m c).1 with
  | some d2 =>
   rw[e] at h
   cases h
   have:=laN_good e
   exact⟨by omega,this.2⟩
  | none =>
   rw[e] at h
   dsimp only at h
   cases e2:hasC L i c with
   | true=>rw[e2,if_pos rfl] at h;cases h
   | false =>
     rw[e2,if_neg (by simp)] at h
     dsimp only at h
     cases e3:good s (addP L i (lstP c bu de))with
     | false=>rw[e3,if_neg (by simp)] at h;cases h
     | true=>rw[e3,if_pos rfl] at h;cases h;exact⟨by omega,e2,e3⟩
def Pld (s:Sys) (L L1:List (List Pc)) (i:Nat):Prop:=L1.length=L.length/\(∀ j,j≠i->L1[j]? = L[j]?)/\good s L1=true/\∃ l p,L1[i]? = some (l ++ [p])/\p.ti=false
theorem la_pld {s:Sys} {L:List (List Pc)} {i:Nat} {bu de:Int} {m:Bool × Bool} {n d:Nat} (hi:i<L.length) (h:(laN s L i bu de m n).1=some d):Pld s L (addP L i (lstP d bu de)) i :=
 ⟨addP_len _ _ _,λ j hj=>addP_ne _ hj _,(laN_good h).2.2,_,_,addP_at hi _,rfl⟩
theorem Pld.more {s:Sys} {L L1 L2:List (List Pc)} {i:Nat} (h:Pld s L1 L2 i) (h1:L1.length=L.length) (h2:∀ j,j≠i->L1[j]? = L[j]?):Pld s L L2 i :=
 ⟨h.1.trans h1,λ j hj=>(h.2.1 j hj).trans (h2 j hj),h.2.2⟩
theorem sp_pld {s:Sys} {i:Nat} {L1:List (List Pc)}:∀ (n:Nat) (L:List (List Pc)) (rest left:Int) (m:Bool × Bool),i<L.length->(spN s i n L rest left m).1=some L1->Pld s L L1 i
 | 0,L,_,_,m,hi,h=>by rw[spN] at h;cases h
 | n+1,L,rest,left,m,hi,h=>by
  rw[spN] at h
  rcases e:tiN s L i rest left m s.co.toNat with⟨o,m1⟩
  rw[e] at h
  cases o with
  | none=>cases h
  | some x =>
   obtain⟨c,a⟩:=x
   dsimp only at h
   rcases e2:laN s (addP L i (tiP c a)) i (rest-a) (left-a-(s.la-1)) m1 s.co.toNat with⟨o2,m2⟩
   rw[e2] at h
   cases o2 with
   | some d =>
     cases h
     exact(la_pld (by rw[addP_len];exact hi) (by rw[e2])).more (addP_len _ _ _) (λ j hj=>addP_ne _ hj _)
   | none =>
     dsimp only at h
     exact(sp_pld n _ _ _ _ (by rw[addP_len];exact hi) h).more (addP_len _ _ _) (λ j hj=>addP_ne _ hj _)
theorem pl_pld {s:Sys} {i:Nat} {L L1:List (List Pc)} (hi:i<L.length) (h:(plT s L i).1=some L1):Pld s L L1 i:=by
 unfold plT at h
 rcases e:laN s L i (s.ts.getD i ts0).w (s.ts.getD i ts0).d (false,false) s.co.toNat with⟨o,m⟩
 rw[e] at h
 cases o with
 | some c=>cases h;exact la_pld hi (by rw[e])
 | none =>
  dsimp only at h
  split at h
  ·cases h
  ·exact sp_pld _ _ _ _ _ hi h
theorem plV_ok {s:Sys} {L1:List (List Pc)}:∀ (o:List Nat) (L:List (List Pc)),(∀ i ∈ o,i<L.length)->o.Nodup->plV s o L=.ok L1 ->
  L1.length=L.length/\(∀ j,j ∉ o->L1[j]? = L[j]?)/\(o ≠ []->good s L1=true)/\∀ i ∈ o,∃ l p,L1[i]? = some (l ++ [p])/\p.ti=false
 | [],L,_,_,h=>by rw[plV] at h;cases h;exact⟨rfl,λ _ _=>rfl,λ e=>absurd rfl e,λ i hi=>by simp at hi⟩
 | i :: o,L,hb,hn,h=>by
  rw[plV] at h
  rcases e:plT s L i with⟨x,m⟩
  rw[e] at h
  cases x with
  | none=>cases h
  | some L2 =>
   dsimp only at h
   have hP:=pl_pld (hb i (by simp)) (by rw[e])
   obtain⟨hn1,hn2⟩:=List.nodup_cons.1 hn
   obtain⟨g1,g2,g3,g4⟩:=plV_ok o L2 (λ j hj=>by rw[hP.1];exact hb j (by simp[hj])) hn2 h
   refine⟨g1.trans hP.1,λ j hj=>?_,λ _=>?_,λ j hj=>?_⟩
   . rw[g2 j (λ e2=>hj (by simp[e2])),hP.2.1 j (λ e2=>hj (by simp[e2]))]
   . by_cases ho:o = []
     ·subst ho;rw[plV] at h;cases h;exact hP.2.2.1
     ·exact g3 ho
   . by_cases hj2:j ∈ o
     ·exact g4 j hj2
     ·have:j=i:=by rcases List.mem_cons.1 hj with e2 | e2;exact e2;exact absurd e2 hj2
      subst this
      obtain⟨l,p,e3,e4⟩:=hP.2.2.2
      exact⟨l,p,by rw[g2 j hj2];exact e3,e4⟩
theorem good_right {s:Sys} {L:List (List Pc)} (h:good s L=true):plR s L=true/\(erN s (rkV s L) (ceV s L) s.co.toNat).2=0/\chkV s L=((List.range L.length).map (bdC s (rkV s L) (ceV s L) s.co.toNat), -1,0):=by
 unfold good at h
 rw[decide_eq_true_eq] at h
 unfold chkV at h ⊢
 by_cases h1:plR s L=true
 ·rw[if_pos h1] at h ⊢
  by_cases h2:(erN s (rkV s L) (ceV s L) s.co.toNat).2≠0
  ·rw[if_pos h2] at h;exact absurd h h2
  ·rw[if_neg h2];exact⟨h1,Classical.byContradiction h2,rfl⟩
 ·rw[if_neg h1] at h;cases h
structure Plc (s:Sys) (L:List (List Pc)):Prop where
 g:good s L=true
 z:∀ i,i<s.ts.length->∃ l p,L[i]? = some (l ++ [p])/\p.ti=false
theorem Plc.right {s:Sys} {L:List (List Pc)} (h:Plc s L):plR s L=true:=(good_right h.g).1
theorem Plc.row {s:Sys} {L:List (List Pc)} (h:Plc s L) {i:Nat} {l:List Pc} {t:Tsk} (hl:L[i]? = some l) (ht:s.ts[i]? = some t) :
  l ≠ []/\l.length<=8/\smN l l.length=t.w/\∀ k x,l[k]? = some x->(x.ti=true ↔ k+1≠l.length)/\(0<=x.co/\x.co<s.co)/\(x.ti=true->x.de=x.bu/\t.secs = [])/\(x.ti=false->x.de=lfN s.la t.d l k)/\∀ j y,j<k->l[j]? = some y->y.co≠x.co:=by
 obtain⟨hr,hL,hok⟩:=plR_parts h.right
 have hi:i<s.ts.length:=(List.getElem?_eq_some_iff.1 ht).1
 obtain⟨a,p,e1,e2⟩:=h.z i hi
 rw[hl] at e1
 have e1:l=a ++ [p]:=by injection e1
 have ho:=okS_at hok hl
 rw[getT ht] at ho
 have hw:=((right_nums hr).2.2.2 t (List.mem_of_getElem? ht)).1
 obtain⟨h1,h2,h3,h4⟩:=okL_sm ho hw.1
 have hne:l ≠ []:=by rw[e1];simp
 have hlen:l.length=a.length+1:=by rw[e1];simp
 have hlast:l[l.length-1]? = some p:=by rw[e1];simp
 have hlast2:l.getD (l.length-1) pc0=p:=getD_some hlast
 refine⟨hne,h2,(h4 hne).2 (by rw[hlast2];exact e2),λ k x hx=>?_⟩
 have hk:=(List.getElem?_eq_some_iff.1 hx).1
 have hrg:=(okL_rg ho hw.1 hx).2
 have hb:=okL_piece ho hx
 unfold badP bad1 bad3 at hb
 simp only[Bool.or_eq_false_iff,decide_eq_false_iff_not,Bool.and_eq_false_iff,Bool.not_eq_false',decide_eq_true_eq] at hb
 obtain⟨⟨b1,b2,b3,b4,b5,b6⟩,b7,b8,b9⟩:=hb
 have htl:x.ti=true ↔ k+1≠l.length:=by
  constructor
  ·intro e3 e4
   have:k=l.length-1:=by omega
   rw[this,hlast] at hx
   cases hx
   rw[e2] at e3;cases e3
  ·intro e3
   rcases b5 with e4 | e4
   ·exact e4
   ·exact absurd e4 e3
 refine⟨htl,by omega,λ e3=>⟨?_,?_⟩,λ e3=>?_,hrg⟩
 ·rcases b8 with e4 | e4
  ·rw[e3] at e4;cases e4
  ·exact e4
 ·rcases b6 with e4 | e4
  ·rw[e3] at e4;cases e4
  ·exact List.length_eq_zero_iff.1 (by omega)
 ·rcases b9 with e4 | e4
  ·rw[e3] at e4;cases e4
  ·exact e4.1
theorem sumB_pos {s:Sys} {t:Tsk} {l:List Pc} (hla:1<=s.la) (h:okL s t l=true):∀ k,k<=l.length->0<=sumB s l k
 | 0,_=>Int.le_refl _
 | k+1,hk=>by
  have hx:l[k]? = some (l[k]'(by omega)):=List.getElem?_eq_getElem (by omega)
  have:=okL_bu h hx
  have:=sumB_pos hla h k (by omega)
  rw[sumB,getD_some hx];omega
theorem bnd_pos {s:Sys} {L:List (List Pc)} (h:plR s L=true) (h0:(erN s (rkV s L) (ceV s L) s.co.toNat).2=0) {k:Nat} {t:Tsk} (ht:s.ts[k]? = some t):∀ c,c<=s.co.toNat->(∃ d y,d<c/\y ∈ apS ((d:Nat):Int) (rkV s L)/\y.i=k/\y.p.ti=false)->1<=bdC s (rkV s L) (ceV s L) c k
 | 0,_,⟨d,_,hd,_⟩=>absurd hd (by omega)
 | c+1,hc,⟨d,y,hd,hy,hyk,hyt⟩=>by
  obtain⟨hE,hJ⟩:=erC_parts (erN_zero h0 (show c<s.co.toNat by omega))
  rw[bdC]
  rcases bdJ_val (s:=s) (R:=rkV s L) (Z:=ceV s L) (l:=apS (c:Int) (rkV s L)) (c:=c) (f:=bdC s (rkV s L) (ceV s L) c) k _ (Nat.le_refl _)with⟨z,hz,hzi,hzt,e⟩ | ⟨e0,e⟩
  ·rw[e]
   unfold bndX
   by_cases hpo:s.po=2
   ·rw[if_pos hpo,hzi,getT ht]
    exact((right_nums (plR_parts h).1).2.2.2 t (List.mem_of_getElem? ht)).2.1
   ·rw[if_neg hpo]
    obtain⟨j,hj⟩:=List.mem_iff_getElem?.1 hz
    have z0:=erJ_zero hJ hj
    unfold erX at z0
    rw[if_neg (by rintro(e | e);rw[hzt] at e;cases e;exact hpo e)] at z0
    have b:=(rsp.bn_ok z0).2.2.1
    obtain⟨l,x,t',e1,e2,e3,e4,e5,_⟩:=ap_facts h hz
    have ho:=okS_at (plR_parts h).2.2 e1
    have hk:=(List.getElem?_eq_some_iff.1 e2).1
    have q:=sumB_rk s L z.i l s rfl z.k (by omega)
    have hg:(rkV s L).getD z.i []=rkL s L z.i l:=by rw[getL (rkV_at e1)]
    have hp:=sumB_pos ((right_nums (plR_parts h).1).2.1.1) ho z.k (by omega)
    rw[hg,q]
    unfold fixV
    omega
  ·rw[e]
   refine bnd_pos h h0 ht c (by omega) ⟨d,y,?_,hy,hyk,hyt⟩
   apply Classical.byContradiction
   intro hn
   have:d=c:=by omega
   subst this
   obtain⟨j,hj⟩:=List.mem_iff_getElem?.1 hy
   have:=e0 j y (List.getElem?_eq_some_iff.1 hj).1 hj hyk
   rw[hyt] at this;cases this
theorem Plc.bound {s:Sys} {L:List (List Pc)} (h:Plc s L) {w:Go.World} {A:Option Go.Addr} {N:Nat} (hl:RPl w A N L) {i:Nat} {t:Tsk} (ht:s.ts[i]? = some t):∃ b,(chkV s L).1[i]? = some b/\1<=b/\b<=t.d:=by
 obtain⟨h1,h2,h3⟩:=good_right h.g
 obtain⟨hr,hL,hok⟩:=plR_parts h1
 have hi:i<s.ts.length:=(List.getElem?_eq_some_iff.1 ht).1
 refine⟨bdC s (rkV s L) (ceV s L) s.co.toNat i,?_,?_,bnd_dead hl h1 h2 ht _ (Nat.le_refl _)⟩
 ·rw[h3];show ((List.range L.length).map _)[i]? = _
  rw[List.getElem?_map,List.getElem?_range (by omega)];rfl
 ·obtain⟨a,p,e1,e2⟩:=h.z i hi
  have hx:(a ++ [p])[a.length]? = some p:=by simp
  obtain⟨_,_,_,hrow⟩:=h.row e1 ht
  obtain⟨_,hco,_⟩:=hrow _ _ hx
  have hrk:(rkL s L i (a ++ [p]))[a.length]? = some (rkP s L i p):=by unfold rkL;rw[List.getElem?_map,hx];rfl
  have hc2:(rkP s L i p).co=((p.co.toNat:Nat):Int):=by show p.co=_;omega
  refine bnd_pos h1 h2 ht _ (Nat.le_refl _) ⟨p.co.toNat,⟨rkP s L i p,i,a.length⟩,by omega,apS_in (rkV_at e1) hrk hc2,rfl,e2⟩
def wr (s:Sys) (r:Int):Sys:={ s with rs:=r }
theorem vSecs_wr {a b w:Int} (hab:a<=b):∀ (l:List (Int × Int × Int)) (k:Nat) (e:Int),vSecs a w k e l=none->vSecs b w k e l=none
 | [],_,_,_=>by rw[vSecs]
 | x :: l,k,e,h=>by
  rw[vSecs] at h
  cases h1:vSec a w e x with
  | false=>rw[h1,if_neg (by simp)] at h;cases h
  | true =>
   rw[h1,if_pos rfl] at h
   have h2:vSec b w e x=true:=by
    unfold vSec at h1 ⊢
    simp only[Bool.and_eq_true,wi_true] at h1 ⊢
    omega
   rw[vSecs,if_pos h2]
   exact vSecs_wr hab l _ _ h
theorem right_wr {s:Sys} {r:Int} (h:right s=true) (h1:s.rs<=r) (h2:r<=8):right (wr s r)=true:=by
 obtain⟨a,b⟩:=right_parts h
 refine right_of ?_ (λ t ht=>?_)
 ·unfold vWhole at a ⊢
  simp only[Bool.and_eq_true] at a ⊢
  obtain⟨a1,a2,a3,a4,a5,a6,a7,a8,a9,a10⟩:=a
  exact⟨a1,a2,a3,a4,a5,a6,a7,a8,by rw[wi_true] at a9 ⊢;exact⟨Int.le_trans a9.1 h1,h2⟩,a10⟩
 ·have c:=b t ht
  unfold vTsk at c ⊢
  rw[Bool.and_eq_true,Option.isNone_iff_eq_none] at c ⊢
  exact⟨c.1,vSecs_wr h1 _ _ _ c.2⟩
theorem okL_wr (s:Sys) (r:Int) (t:Tsk) (l:List Pc):okL (wr s r) t l=okL s t l:=by
 have e:∀ n,okN (wr s r) t l n=okN s t l n:=λ n=>by
  induction n with
  | zero=>rfl
  | succ n ih=>rw[okN,okN,ih];rfl
 unfold okL
 rw[e]
theorem okS_wr (s:Sys) (r:Int) (L:List (List Pc)):∀ n,okS (wr s r) L n=okS s L n
 | 0=>rfl
 | n+1=>by rw[okS,okS,okS_wr s r L n,okL_wr];rfl
theorem uN_wr (s:Sys) (r:Int) (L:List (List Pc)) (c:Int):∀ n,uN (wr s r) L c n=uN s L c n
 | 0=>rfl
 | n+1=>by rw[uN,uN,uN_wr s r L c n];rfl
theorem okC_wr (s:Sys) (r:Int) (L:List (List Pc)):∀ n,okC (wr s r) L n=okC s L n
 | 0=>rfl
 | n+1=>by rw[okC,okC,okC_wr s r L n,uN_wr]
theorem plR_wr {s:Sys} {r:Int} (h:right s=true) (h1:s.rs<=r) (h2:r<=8) (L:List (List Pc)):plR (wr s r) L=plR s L:=by
 unfold plR
 rw[right_wr h h1 h2,h,okS_wr]
 show (true && (decide (L.length=s.ts.length) && (_ && okC (wr s r) L s.co.toNat)))=_
 rw[okC_wr]
theorem rkV_wr (s:Sys) (r:Int) (L:List (List Pc)):rkV (wr s r) L=rkV s L:=by
 have e:∀ n,rkN (wr s r) L n=rkN s L n:=λ n=>by
  induction n with
  | zero=>rfl
  | succ n ih=>rw[rkN,rkN,ih];rfl
 unfold rkV
 rw[e]
theorem ceN_wr (s:Sys) (r:Int) (L:List (List Pc)) (c:Int):∀ n,ceN (wr s r) L c n=ceN s L c n
 | 0=>by funext k;rw[ceN,ceN]
 | n+1=>by
  funext k
  rw[ceN,ceN,ceN_wr s r L c n];rfl
theorem zr_wr {s:Sys} {r:Int} (h1:s.rs<=r) (L:List (List Pc)) {c:Nat} (hc:c<s.co.toNat) {k:Int} (hk:0<=k/\k<s.rs):zr (ceV (wr s r) L) c k=zr (ceV s L) c k:=by
 unfold zr ceV
 have e1:((List.range (wr s r).co.toNat).map (ceR (wr s r) L)).getD c []=ceR (wr s r) L c:=by
  show ((List.range s.co.toNat).map _).getD c []=_
  simp[List.getD,List.getElem?_map,List.getElem?_range hc]
 have e2:((List.range s.co.toNat).map (ceR s L)).getD c []=ceR s L c:=by
  simp[List.getD,List.getElem?_map,List.getElem?_range hc]
 rw[e1,e2]
 unfold ceR
 have e3:k.toNat<(wr s r).rs.toNat:=by show k.toNat<r.toNat;omega
 have e4:k.toNat<s.rs.toNat:=by omega
 simp only[List.getD,List.getElem?_map,List.getElem?_range e3,List.getElem?_range e4,Option.map_some,Option.getD_some,ceN_wr]
theorem tsk_wr {s:Sys} {r:Int} (h:right s=true) (h1:s.rs<=r) (h2:r<=8) (k:Int):tsk? (wr s r) k=tsk? s k:=by
 unfold tsk?
 rw[right_wr h h1 h2,h];rfl
theorem hold_wr {s:Sys} {r:Int} (h:right s=true) (h1:s.rs<=r) (h2:r<=8) (wh:List Int) (i k:Int):holdV (wr s r) wh i k=holdV s wh i k:=by
 unfold holdV sec?
 rw[tsk_wr h h1 h2];rfl
theorem extra_wr {s:Sys} {r:Int} (h:right s=true) (h1:s.rs<=r) (h2:r<=8) (wh:List Int) (i:Int):extraV (wr s r) wh i=extraV s wh i:=by
 unfold extraV
 rw[tsk_wr h h1 h2]
 have e:∀ (u:Nat) (l:List Sec) (n:Nat),exN (wr s r) wh u l n=exN s wh u l n:=λ u l n=>by
  induction n with
  | zero=>rfl
  | succ n ih=>rw[exN,exN,ih];rfl
 split
 ·rw[e]
 ·rfl
theorem own_wr {s:Sys} {r:Int} (h:right s=true) (h1:s.rs<=r) (h2:r<=8) (L:List (List Pc)) (i:Nat) (x:Pc):ownV (wr s r) L i x=ownV s L i x:=by
 unfold ownV
 rw[extra_wr h h1 h2];rfl
theorem bkS_wr {s:Sys} {r:Int} (h:right s=true) (h1:s.rs<=r) (h2:r<=8) (wh:List Int) {z z':Int->Int} (hz:∀ k,0<=k/\k<s.rs->z' k=z k) (pr:Int) (i:Nat) (m:Int) {t:Tsk} (ht:t ∈ s.ts):∀ n,n<=t.secs.length->bkS (wr s r) wh z' pr i t.secs m n=bkS s wh z pr i t.secs m n
 | 0,_=>rfl
 | n+1,hn=>by
  have hx:t.secs[n]? = some (t.secs[n]'(by omega)):=List.getElem?_eq_getElem (by omega)
  have hs:=(right_sec h ht (List.mem_of_getElem? hx)).1
  have eg:t.secs.getD n (0,0,0)=t.secs[n]'(by omega):=by simp[List.getD,hx]
  have eh:hiP (wr s r) z' pr (t.secs.getD n (0,0,0)).2.1=hiP s z pr (t.secs.getD n (0,0,0)).2.1:=by
   unfold hiP
   rw[eg,hz _ hs];rfl
  rw[bkS,bkS,bkS_wr h h1 h2 wh hz pr i m ht n (by omega),eh,hold_wr h h1 h2]
theorem bkM_wr {s:Sys} {r:Int} (h:right s=true) (h1:s.rs<=r) (h2:r<=8) (wh:List Int) (R:List (List Pc)) {z z':Int->Int} (hz:∀ k,0<=k/\k<s.rs->z' k=z k) (c pr:Int):∀ n,n<=s.ts.length->bkM (wr s r) wh R z' c pr n=bkM s wh R z c pr n
 | 0,_=>rfl
 | n+1,hn=>by
  have ht:s.ts[n]? = some (s.ts[n]'(by omega)):=List.getElem?_eq_getElem (by omega)
  rw[bkM,bkM,bkM_wr h h1 h2 wh R hz c pr n (by omega)]
  have e:(wr s r).ts.getD n ts0=s.ts.getD n ts0:=rfl
  have e2:skP (wr s r) wh R c pr n=skP s wh R c pr n:=rfl
  rw[e,e2,getT ht,bkS_wr h h1 h2 wh hz pr n _ (List.mem_of_getElem? ht) _ (Nat.le_refl _)]
theorem bkE_wr (s:Sys) (r:Int) (wh:List Int) (R:List (List Pc)) (c pr:Int):∀ n,bkE (wr s r) wh R c pr n=bkE s wh R c pr n
 | 0=>rfl
 | n+1=>by rw[bkE,bkE,bkE_wr s r wh R c pr n];rfl
section
variable {s:Sys} {r:Int} (h:right s=true) (h1:s.rs<=r) (h2:r<=8) (L:List (List Pc)) (hL:L.length=s.ts.length)
include h h1 h2
theorem blk_wr {R:List (List Pc)} (hR:R.length=s.ts.length) {c:Nat} (hc:c<s.co.toNat) (pr:Int):blkV (wr s r) R (ceV (wr s r) L) c pr=blkV s R (ceV s L) c pr:=by
 unfold blkV
 rw[bkM_wr h h1 h2 _ R (λ k hk=>zr_wr h1 L hc hk) _ _ _ (by omega),bkE_wr];rfl
theorem ld_wr (R:List (List Pc)):ldOf (wr s r) R=ldOf s R:=by
 funext y;unfold ldOf;rw[own_wr h h1 h2];rfl
theorem wk_wr (R:List (List Pc)):wkOf (wr s r) R=wkOf s R:=by
 funext y;unfold wkOf;rw[own_wr h h1 h2];rfl
theorem fix_wr {R:List (List Pc)} (hR:R.length=s.ts.length) {c:Nat} (hc:c<s.co.toNat) (l:List Ap) (x:Ap):fixV (wr s r) R (ceV (wr s r) L) l c x=fixV s R (ceV s L) l c x:=by
 unfold fixV
 rw[own_wr h h1 h2,blk_wr h h1 h2 L hR hc,ld_wr h h1 h2];rfl
theorem edf_wr {R:List (List Pc)} (hR:R.length=s.ts.length) {c:Nat} (hc:c<s.co.toNat) (l:List Ap):edfV (wr s r) R (ceV (wr s r) L) l c=edfV s R (ceV s L) l c:=by
 unfold edfV
 rw[blk_wr h h1 h2 L hR hc,wk_wr h h1 h2];rfl
theorem erC_wr {R:List (List Pc)} (hR:R.length=s.ts.length) {c:Nat} (hc:c<s.co.toNat) (l:List Ap):erC (wr s r) R (ceV (wr s r) L) l c=erC s R (ceV s L) l c:=by
 have e:∀ n,erJ (wr s r) R (ceV (wr s r) L) l c n=erJ s R (ceV s L) l c n:=λ n=>by
  induction n with
  | zero=>rfl
  | succ n ih =>
   rw[erJ,erJ,ih]
   unfold erX
   rw[fix_wr h h1 h2 L hR hc];rfl
 unfold erC
 rw[edf_wr h h1 h2 L hR hc,e];rfl
theorem erN_wr {R:List (List Pc)} (hR:R.length=s.ts.length):∀ n,n<=s.co.toNat->erN (wr s r) R (ceV (wr s r) L) n=erN s R (ceV s L) n
 | 0,_=>rfl
 | n+1,hn=>by rw[erN,erN,erN_wr hR n (by omega),erC_wr h h1 h2 L hR (by omega)]
theorem bdC_wr {R:List (List Pc)} (hR:R.length=s.ts.length):∀ n,n<=s.co.toNat->bdC (wr s r) R (ceV (wr s r) L) n=bdC s R (ceV s L) n
 | 0,_=>rfl
 | n+1,hn=>by
  have e:∀ (l:List Ap) (f:Nat->Int) (m:Nat),bdJ (wr s r) R (ceV (wr s r) L) l n f m=bdJ s R (ceV s L) l n f m:=λ l f m=>by
   induction m with
   | zero=>rfl
   | succ m ih =>
    rw[bdJ,bdJ,ih]
    have e2:bndX (wr s r) R (ceV (wr s r) L) l n (l.getD m ap0)=bndX s R (ceV s L) l n (l.getD m ap0):=by
     have e3:∀ (q:List Pc) k,sumB (wr s r) q k=sumB s q k:=λ q k=>by
      induction k with
      | zero=>rfl
      | succ k ih2=>rw[sumB,sumB,ih2];rfl
     unfold bndX
     rw[fix_wr h h1 h2 L hR (by omega),e3];rfl
    rw[e2]
  rw[bdC,bdC,bdC_wr hR n (by omega),e]
theorem chk_wr : chkV (wr s r) L=chkV s L:=by
 unfold chkV
 rw[plR_wr h h1 h2,rkV_wr]
 by_cases hp:plR s L=true
 ·rw[if_pos hp,if_pos hp]
  have hR:(rkV s L).length=s.ts.length:=by rw[rkV_len];exact(plR_parts hp).2.1
  have e1:=erN_wr h h1 h2 L hR s.co.toNat (Nat.le_refl _)
  have e2:=bdC_wr h h1 h2 L hR s.co.toNat (Nat.le_refl _)
  show (if (erN (wr s r) (rkV s L) (ceV (wr s r) L) s.co.toNat).2≠0 then (([]:List Int),erN (wr s r) (rkV s L) (ceV (wr s r) L) s.co.toNat) else ((List.range L.length).map (bdC (wr s r) (rkV s L) (ceV (wr s r) L) s.co.toNat), -1,0))=_
  rw[e1,e2]
 ·rw[if_neg hp,if_neg hp]
end
end Go.Proofs.YtlecikdjoekknaaGreat.pln
end
section
namespace Go.Proofs.YtlecikdjoekknaaGreat.pln
open val ter
def plcV (s:Sys):List (List Pc) × List Int × Int :=
 if right s=true then
  match plV s (ordN s s.ts.length) (List.replicate s.ts.length [])with
  | .ok L=>(rkV s L,(chkV s L).1,0)
  | .error e=>([], [],e)
 else ([], [],1)
theorem erM_range (m:Bool × Bool):erM m=2\/erM m=11\/erM m=12:=by
 unfold erM;split
 ·exact .inl rfl
 ·split
  ·exact .inr (.inl rfl)
  ·exact .inr (.inr rfl)
theorem plV_err {s:Sys} {e:Int}:∀ (o:List Nat) (L:List (List Pc)),plV s o L=.error e->e=2\/e=11\/e=12
 | [],L,h=>by rw[plV] at h;cases h
 | i :: o,L,h=>by
  rw[plV] at h
  rcases e2:plT s L i with⟨x,m⟩
  rw[e2] at h
  cases x with
  | none=>cases h;exact erM_range m
  | some L2=>exact plV_err o L2 h
theorem plc_cases (s:Sys):(right s=false/\plcV s=([], [],1))\/(right s=true/\∃ e,(e=2\/e=11\/e=12)/\plcV s=([], [],e))\/(right s=true/\∃ L,Plc s L/\plcV s=(rkV s L,(chkV s L).1,0)):=by
 unfold plcV
 cases h:right s with
 | false=>rw[if_neg (by simp)];exact .inl ⟨rfl,rfl⟩
 | true =>
  rw[if_pos rfl]
  refine .inr ?_
  cases e:plV s (ordN s s.ts.length) (List.replicate s.ts.length [])with
  | error x=>exact .inl ⟨rfl,x,plV_err _ _ e,rfl⟩
  | ok L =>
   refine .inr ⟨rfl,L,?_,rfl⟩
   have hn:=(right_len h).2.2.1
   obtain⟨g1,g2,g3,g4⟩:=plV_ok _ _ (λ i hi=>by rw[List.length_replicate];exact ordN_mem.1 hi) (ordN_nodup (per_pos h) (Nat.le_refl _)) e
   refine⟨g3 (λ e2=>?_),λ i hi=>g4 i (ordN_mem.2 hi)⟩
   have:=ordN_len (s:=s) s.ts.length
   rw[e2] at this
   simp at this
   omega
section
variable {s:Sys} {r:Int} (h:right s=true) (h1:s.rs<=r) (h2:r<=8)
include h h1 h2
theorem good_wr (L:List (List Pc)):good (wr s r) L=good s L:=by unfold good;rw[chk_wr h h1 h2]
theorem said_wr (L:List (List Pc)) (m:Bool × Bool):said (wr s r) L m=said s L m:=by unfold said;rw[chk_wr h h1 h2]
theorem la_wr (L:List (List Pc)) (i:Nat) (bu de:Int) (m:Bool × Bool):∀ n,laN (wr s r) L i bu de m n=laN s L i bu de m n
 | 0=>rfl
 | n+1=>by rw[laN,laN,la_wr L i bu de m n,good_wr h h1 h2,said_wr h h1 h2]
theorem bi_wr (L:List (List Pc)) (i:Nat) (c rest left:Int):∀ (n:Nat) (a b:Int) (m:Bool × Bool),biN (wr s r) L i c rest left n a b m=biN s L i c rest left n a b m
 | 0,_,_,_=>rfl
 | n+1,a,b,m=>by
  have e:(wr s r).la=s.la:=rfl
  rw[biN,biN,bi_wr L i c rest left n,bi_wr L i c rest left n,bi_wr L i c rest left n,good_wr h h1 h2,said_wr h h1 h2,e]
theorem ti_wr (L:List (List Pc)) (i:Nat) (rest left:Int) (m:Bool × Bool):∀ n,tiN (wr s r) L i rest left m n=tiN s L i rest left m n
 | 0=>rfl
 | n+1=>by rw[tiN,tiN,ti_wr L i rest left m n,bi_wr h h1 h2]
theorem sp_wr (i:Nat):∀ (n:Nat) (L:List (List Pc)) (rest left:Int) (m:Bool × Bool),spN (wr s r) i n L rest left m=spN s i n L rest left m
 | 0,_,_,_,_=>rfl
 | n+1,L,rest,left,m=>by
  have e:(wr s r).la=s.la:=rfl
  have e2:(wr s r).co=s.co:=rfl
  rw[spN,spN,e2,ti_wr h h1 h2]
  rcases tiN s L i rest left m s.co.toNat with⟨o,m1⟩
  cases o with
  | none=>rfl
  | some x =>
   obtain⟨c,a⟩:=x
   dsimp only
   rw[e,la_wr h h1 h2]
   rcases laN s (addP L i (tiP c a)) i (rest-a) (left-a-(s.la-1)) m1 s.co.toNat with⟨o2,m2⟩
   cases o2 with
   | some d=>rfl
   | none=>exact sp_wr i n _ _ _ _
theorem pl_wr (L:List (List Pc)) (i:Nat):plT (wr s r) L i=plT s L i:=by
 have e:(wr s r).ts=s.ts:=rfl
 have e2:(wr s r).co=s.co:=rfl
 unfold plT
 rw[e,e2,la_wr h h1 h2]
 rcases laN s L i (s.ts.getD i ts0).w (s.ts.getD i ts0).d (false,false) s.co.toNat with⟨o,m⟩
 cases o with
 | some c=>rfl
 | none =>
  dsimp only
  rw[sp_wr h h1 h2]
theorem plV_wr : ∀ (o:List Nat) (L:List (List Pc)),plV (wr s r) o L=plV s o L
 | [],_=>rfl
 | i :: o,L=>by
  rw[plV,plV,pl_wr h h1 h2]
  rcases plT s L i with⟨x,m⟩
  cases x with
  | none=>rfl
  | some L2=>exact plV_wr o L2
omit h h1 h2 in
theorem ord_wr : ∀ n,ordN (wr s r) n=ordN s n
 | 0=>rfl
 | n+1=>by
  have e:∀ (i:Nat) (l:List Nat),insO (wr s r) i l=insO s i l:=λ i l=>by
   induction l with
   | nil=>rfl
   | cons j l ih=>rw[insO,insO,ih];rfl
  rw[ordN,ordN,ord_wr n,e]
theorem plc_wr : plcV (wr s r)=plcV s:=by
 have e:(wr s r).ts=s.ts:=rfl
 unfold plcV
 rw[right_wr h h1 h2,h,e,ord_wr,plV_wr h h1 h2]
 cases plV s (ordN s s.ts.length) (List.replicate s.ts.length [])with
 | error x=>rfl
 | ok L=>dsimp only;rw[rkV_wr,chk_wr h h1 h2]
end
end Go.Proofs.YtlecikdjoekknaaGreat.pln
end
