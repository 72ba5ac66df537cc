/- Part 43 of a proof: PcJ PcK. -/
import Derived.Test.YtlecikdjoekknaaGreatM42
set_option maxRecDepth 100000
set_option maxHeartbeats 16000000
set_option linter.unusedVariables false
set_option linter.unusedSimpArgs false
section
namespace Go.Proofs.YtlecikdjoekknaaGreat.dem
theorem up_one {n P:Int} (h1:1<=n) (h2:n<=P):up n P=1:=by
 rw[up_eq h1 (by omega),Int.ediv_eq_zero_of_lt (by omega) (by omega)];rfl
theorem ld_alone {o P rl:Int} (ho:0<=o) (hr:0<=rl) (hP:1<=P) (h:2*(o+rl)<=P):qar.tm o P+qar.tm rl P<=4294967296:=by
 have h1:=pln.tm_lt ho (show 0<P by omega)
 have h2:=pln.tm_lt hr (show 0<P by omega)
 apply Classical.byContradiction
 intro hn
 have h3:4294967295*P<=(qar.tm o P+qar.tm rl P-2)*P:=Int.mul_le_mul_of_nonneg_right (by omega) (by omega)
 have h4:(qar.tm o P+qar.tm rl P-2)*P=(qar.tm o P-1)*P+(qar.tm rl P-1)*P:=by rw[<-Int.add_mul];congr 1;omega
 omega
theorem com_alone {o P D bl rl n:Int} (h1:1<=n) (h2:n<=P):comS [⟨o,P,D,false⟩] bl rl n=bl+(2*o+3*rl):=by
 show bl+((up n P+1)*o+(up n P+2)*rl)=_
 rw[up_one h1 h2];omega
theorem ask_alone {o P D bl rl n:Int} (h0:1<=D) (h1:D<=n) (h2:n<=P):askS [⟨o,P,D,false⟩] bl rl n=bl+(o+3*rl):=by
 have h3:(n-D)/P=0:=Int.ediv_eq_zero_of_lt (by omega) (by omega)
 show bl+((if false=true then (up n P+1)*o else if D<=n then ((n-D)/P+1)*o else 0)+(up n P+2)*rl)=_
 rw[if_neg (by simp),if_pos h1,up_one (by omega) h2,h3];omega
theorem ov_alone {o P D bl n:Int} {f:Wk->Int} (h1:1<=n) (h2:n<=P) (h:bl+f ⟨o,P,D,false⟩<=9223372036854775807):ov bl f n [⟨o,P,D,false⟩] 1=false:=by
 cases e:ov bl f n [⟨o,P,D,false⟩] 1 with
 | false=>rfl
 | true =>
  rcases ov_iff.1 e with e2 | ⟨j,x,hj,hx,e2⟩
  ·have e3:sN bl f [⟨o,P,D,false⟩] 1=bl+f ⟨o,P,D,false⟩:=rfl
   omega
  ·obtain rfl:j=0:=by omega
   cases hx
   have e3:up n P=1:=up_one h1 h2
   simp only[e3] at e2
   omega
theorem test_alone {o P D bl rl:Int} (h:right [⟨o,P,D,false⟩] bl rl=true) (hP:2*(o+bl+3*rl)<=P) (hD:o+bl+3*rl<=D) (hDP:D<=P):testV [⟨o,P,D,false⟩] bl rl=0:=by
 obtain⟨_,hb,hr,ha⟩:=right_iff.1 h
 obtain⟨ho,hp,hd1,hd2⟩:=okW_iff.1 (ha _ (List.mem_singleton.2 rfl))
 dsimp only at ho hp hd1 hd2
 have hl:least [⟨o,P,D,false⟩]=D:=by
  show (if (false=false/\((0:Int)=0\/D<0)) then D else 0)=D
  rw[if_pos ⟨rfl,.inl rfl⟩]
 have hcO:∀ n,1<=n->n<=P->comO [⟨o,P,D,false⟩] bl rl n=false:=λ n n1 n2=>by
  refine ov_alone n1 n2 ?_
  have:=com_alone (o:=o) (D:=D) (bl:=bl) (rl:=rl) n1 n2
  have e:comS [⟨o,P,D,false⟩] bl rl n=bl+cmt rl n ⟨o,P,D,false⟩:=rfl
  omega
 have hask:∀ n,D<=n->n<=P->askE [⟨o,P,D,false⟩] bl rl n=0/\askV [⟨o,P,D,false⟩] bl rl n=bl+(o+3*rl):=λ n n1 n2=>by
  have e1:=ask_alone (o:=o) (bl:=bl) (rl:=rl) hd1 n1 n2
  have e2:askO [⟨o,P,D,false⟩] bl rl n=false:=by
   refine ov_alone (by omega) n2 ?_
   have e:askS [⟨o,P,D,false⟩] bl rl n=bl+trm rl n ⟨o,P,D,false⟩:=rfl
   omega
  have:=ask_is h (show 1<=n by omega) e2
  rw[e1] at this
  exact this
 have hbz:∃ n,busyP [⟨o,P,D,false⟩] bl rl=(n,0)/\n<=P:=by
  have hY:=com_alone (o:=o) (P:=P) (D:=D) (bl:=bl) (rl:=rl) (n:=1) (by omega) (by omega)
  unfold busyP
  have hld:¬4294967296<ldS rl [⟨o,P,D,false⟩]:=by
   have e:ldS rl [⟨o,P,D,false⟩]=0+(qar.tm o P+qar.tm rl P):=rfl
   have:=ld_alone ho.1 hr.1 hp.1 (by omega)
   omega
  rw[if_pos h,if_neg hld,busyGo,hcO 1 (by omega) (by omega),if_neg (by simp),hY]
  by_cases hc:bl+(2*o+3*rl)<=1
  ·rw[if_pos hc];exact⟨1,rfl,by omega⟩
  ·rw[if_neg hc,busyGo,hcO _ (by omega) (by omega),if_neg (by simp),com_alone (by omega) (by omega),if_pos (Int.le_refl _)]
   exact⟨_,rfl,by omega⟩
 obtain⟨n,hn,hnP⟩:=hbz
 unfold testV
 rw[if_pos h,hl,if_neg (by omega),hn,if_neg (by simp)]
 show testGo [⟨o,P,D,false⟩] bl rl D 5000 n=0
 have low:∀ k m,m<D->testGo [⟨o,P,D,false⟩] bl rl D (k+1) m=0:=λ k m hm=>by rw[testGo,if_pos hm]
 have step:∀ k m,m<=D->testGo [⟨o,P,D,false⟩] bl rl D (k+1+1+1) m=0:=λ k m hm=>by
  by_cases e:m<D
  ·exact low _ _ e
  ·obtain rfl:m=D:=by omega
   obtain⟨a1,a2⟩:=hask m (Int.le_refl _) hDP
   rw[testGo,if_neg (by omega),a1,if_neg (by simp),a2,if_neg (by omega)]
   split
   ·exact low _ _ (by omega)
   ·exact low _ _ (by omega)
 by_cases e:n<=D
 ·exact step 4997 n e
 ·obtain⟨a1,a2⟩:=hask n (by omega) hnP
  rw[testGo,if_neg (by omega),a1,if_neg (by simp),a2,if_neg (by omega),if_pos (by omega)]
  exact step 4996 _ (by omega)
end Go.Proofs.YtlecikdjoekknaaGreat.dem
namespace Go.Proofs.YtlecikdjoekknaaGreat.rsp
theorem up_one {n P:Int} (h1:1<=n) (h2:n<=P):up n P=1:=dem.up_one h1 h2
theorem bn_alone {o P d bl rl:Int} (h:right o bl rl [] [⟨o,P,0⟩]=true) (ho:1<=o) (hd:d<=1099511627776) (hX:o+bl+2*rl<=d) (hdP:d<=P):(bnP o bl rl [] [⟨o,P,0⟩] d).2=0:=by
 obtain⟨_,_,h3,h4,h5⟩:=right_iff.1 h
 have hw:∀ n,1<=n->n<=P->wiE o bl rl [] [⟨o,P,0⟩] n=0/\wiV o bl rl [] [⟨o,P,0⟩] n=o+bl+2*rl:=λ n n1 n2=>by
  have e:wiS o bl rl [] [⟨o,P,0⟩] n=o+bl+2*rl:=by
   rw[wiS_L]
   show o+bl+0+((up (n+0) P+1)*rl+0)=_
   rw[Int.add_zero n,up_one n1 n2];omega
  by_cases hn:n<=4611686018427387904
  ·have e1:wiE o bl rl [] [⟨o,P,0⟩] n=0:=by
    unfold wiE
    rw[if_pos ⟨h,by omega,hn⟩,e,if_neg (by omega)]
   refine⟨e1,?_⟩
   unfold wiV
   rw[if_pos e1,e]
  ·exfalso
   obtain⟨_,h7,_⟩:=right_iff.1 h
   have:=(okD_iff.1 ((okLs_iff.1 h7).2 _ (List.mem_singleton.2 rfl))).2.1.2
   dsimp only at this
   omega
 obtain⟨a1,a2⟩:=hw 1 (by omega) (by omega)
 unfold bnP
 rw[if_pos ⟨h,by omega,hd⟩,bnGo,a1,if_neg (by simp),a2]
 by_cases hc:o+bl+2*rl<=1
 ·rw[if_pos hc]
 ·obtain⟨b1,b2⟩:=hw (o+bl+2*rl) (by omega) (by omega)
  rw[if_neg hc,if_neg (by omega),bnGo,b1,if_neg (by simp),b2,if_pos (Int.le_refl _)]
end Go.Proofs.YtlecikdjoekknaaGreat.rsp
end
section
namespace Go.Proofs.YtlecikdjoekknaaGreat.pln
open val ter
section
variable {s:Sys} {t:Tsk} (h:right s=true) (ht:s.ts = [t])
include h ht
theorem al_nums : (1<=s.co/\s.co<=8)/\(1<=t.p/\t.p<=1099511627776)/\(1<=t.d/\t.d<=t.p)/\(1<=t.w/\t.w<=t.d):=by
 have h6:=(right_parts h).2 t (by rw[ht];simp)
 unfold vTsk vHead at h6
 simp only[Bool.and_eq_true,wi_true] at h6
 have:=(right_nums h).1
 omega
theorem al_cr : cr s.co [0] 0=0:=by
 have:=al_nums h ht
 unfold cr
 rw[if_pos ⟨by simp,by simp,by show (0:Int)<s.co;omega⟩];rfl
theorem al_F : ∀ x ∈ F s [0],x.1=0:=λ x hx=>by
 unfold F at hx
 rw[ht] at hx
 obtain⟨i,hi,hx⟩:=fl_mem.1 hx
 obtain rfl:i=0:=by simpa using hi
 rw[al_cr h ht] at hx
 exact(enS_mem.1 hx).2.1
theorem al_sm (r:Int):smV s [0] 0 r=0:=by
 unfold smV
 rw[al_cr h ht]
 exact sm_alone (al_F h ht) r _
theorem al_tsk : tsk? s ((0:Nat):Int)=some t:=by
 unfold tsk?
 rw[if_pos ⟨h,Int.le_refl _⟩,ht];rfl
theorem al_extra : extraV s [0] ((0:Nat):Int)=0:=by
 unfold extraV
 rw[al_tsk h ht]
 show exN s [0] 0 t.secs t.secs.length=0
 generalize t.secs.length=n
 induction n with
 | zero=>rfl
 | succ n ih=>rw[exN,ih,al_sm h ht];rfl
theorem al_hold {M:Int} (hM:∀ x ∈ t.secs,x.2.2<=M) (h0:0<=M) (k:Int):holdV s [0] ((0:Nat):Int) k<=M:=by
 unfold holdV sec?
 rw[al_tsk h ht]
 show (match (if 0<=k then t.secs[k.toNat]? else none)with | some x=>smV s [0] 0 x.2.1+x.2.2 | none=>0)<=M
 split
 ·next x e =>
  rw[al_sm h ht]
  split at e
  ·rw[Int.zero_add];exact hM x (List.mem_of_getElem? e)
  ·cases e
 ·exact h0
theorem al_bkS {M:Int} (hM:∀ x ∈ t.secs,x.2.2<=M) (h0:0<=M) (z:Int->Int) (pr:Int) (ss:List (Int × Int × Int)):∀ n,0<=bkS s [0] z pr 0 ss 0 n/\bkS s [0] z pr 0 ss 0 n<=M
 | 0=>⟨Int.le_refl _,h0⟩
 | n+1=>by
  have ih:=al_bkS hM h0 z pr ss n
  have:=al_hold h ht hM h0 (n:Int)
  rw[bkS]
  split
  ·exact ih
  ·omega
theorem al_blk {M:Int} (hM:∀ x ∈ t.secs,x.2.2<=M) (h0:0<=M) {q:Pc} (hq:whO [q]=0) (Z:List (List Int)) (pr:Int) (hin:inP s [[q]] pr 0=false):0<=blkV s [[q]] Z 0 pr/\blkV s [[q]] Z 0 pr<=M+2*s.fi+2*s.sw:=by
 have hc:=right_costs h
 have e0:([[q]]:List (List Pc)).map whO = [0]:=by rw[List.map_cons,hq];rfl
 have e1:bkE s [0] [[q]] ((0:Nat):Int) pr 1=2:=by
  rw[bkE]
  split
  ·rfl
  ·rw[hin];rfl
 have e2:0<=bkM s [0] [[q]] (zr Z 0) ((0:Nat):Int) pr 1/\bkM s [0] [[q]] (zr Z 0) ((0:Nat):Int) pr 1<=M:=by
  rw[bkM]
  split
  ·exact⟨Int.le_refl _,h0⟩
  ·exact al_bkS h ht hM h0 _ _ _ _
 unfold blkV
 rw[e0]
 show 0<=bkM s [0] [[q]] (zr Z 0) ((0:Nat):Int) pr 1+bkE s [0] [[q]] ((0:Nat):Int) pr 1*s.fi+2*s.sw/\bkM s [0] [[q]] (zr Z 0) ((0:Nat):Int) pr 1+bkE s [0] [[q]] ((0:Nat):Int) pr 1*s.fi+2*s.sw<=_
 rw[e1]
 omega
theorem al_own {q:Pc} (hq:whO [q]=0):ownV s [[q]] 0 q=q.bu+s.fi+2*s.sw:=by
 have e0:([[q]]:List (List Pc)).map whO = [0]:=by rw[List.map_cons,hq];rfl
 unfold ownV
 rw[e0,al_extra h ht]
 show q.bu+s.fi+2*s.sw+(if (0:Int)<=0 then 0 else 0)=_
 rw[if_pos (Int.le_refl _)];omega
theorem al_right : plR s [[lstP 0 t.w t.d]]=true:=by
 obtain⟨hco,hp,hd,hw⟩:=al_nums h ht
 have hL:okL s t [lstP 0 t.w t.d]=true:=by
  have hb:badP s t [lstP 0 t.w t.d] 0 (lstP 0 t.w t.d)=false:=by
   unfold badP bad1 bad2 bad3
   simp only[lstP,lfN,List.take_zero,List.any_nil,List.length_singleton,Bool.or_eq_false_iff,decide_eq_false_iff_not,Bool.and_eq_false_iff]
   exact⟨⟨decide_eq_false (by omega),decide_eq_false (by omega),decide_eq_false (by omega),decide_eq_false (by omega),.inr (by simp),.inl trivial⟩,trivial,.inl trivial,.inr ⟨by simp,decide_eq_false (by omega)⟩⟩
  unfold okL
  have e1:okN s t [lstP 0 t.w t.d] 1=true:=by
   rw[okN]
   show (true && !badP s t [lstP 0 t.w t.d] 0 (lstP 0 t.w t.d))=true
   rw[hb];rfl
  show (decide (1<=8) && (okN s t [lstP 0 t.w t.d] 1 && (decide ([lstP 0 t.w t.d] = []) || if false=true then decide ((0:Int)+t.w<t.w) else decide ((0:Int)+t.w=t.w))))=true
  rw[e1,if_neg (by simp)]
  simp
 have hC:∀ n,okC s [[lstP 0 t.w t.d]] n=true:=λ n=>by
  induction n with
  | zero=>rfl
  | succ n ih =>
   have e:tN [[lstP 0 t.w t.d]] (n:Int) [[lstP 0 t.w t.d]].length=0:=by
    show (0:Int)+(0+if (false=true/\(0:Int)=(n:Int)) then 1 else 0)=0
    rw[if_neg (λ e=>by simp at e)];rfl
   rw[okC,ih,e];simp
 unfold plR
 rw[h,hC,ht]
 show (true && (true && ((true && okL s (s.ts.getD 0 ts0) [lstP 0 t.w t.d]) && true)))=true
 have e:s.ts.getD 0 ts0=t:=by rw[ht];rfl
 rw[e,hL];rfl
theorem al_good {M:Int} (hM:∀ x ∈ t.secs,x.2.2<=M) (h0:0<=M) (hD:t.w+M+3*s.fi+4*s.sw+3*s.re<=t.d) (hP:2*(t.w+M+3*s.fi+4*s.sw+3*s.re)<=t.p):good s [[lstP 0 t.w t.d]]=true:=by
 obtain⟨hco,hp,hd,hw⟩:=al_nums h ht
 have hc:=right_costs h
 have hpo:=(right_pr h).2.1
 have hrk:rkV s [[lstP 0 t.w t.d]] = [[rkP s [[lstP 0 t.w t.d]] 0 (lstP 0 t.w t.d)]]:=rfl
 obtain⟨q,hq⟩:∃ q,q=rkP s [[lstP 0 t.w t.d]] 0 (lstP 0 t.w t.d):=⟨_,rfl⟩
 have q1:q.co=0:=by rw[hq];rfl
 have q2:q.bu=t.w:=by rw[hq];rfl
 have q3:q.de=t.d:=by rw[hq];rfl
 have q4:q.ti=false:=by rw[hq];rfl
 have hwh:whO [q]=0:=by
  unfold whO
  rw[if_pos ⟨rfl,q4⟩];exact q1
 have hts:s.ts.getD 0 ts0=t:=by rw[ht];rfl
 have hown:=al_own h ht hwh
 have hap:∀ c:Nat,apS (c:Int) [[q]]=if c=0 then [⟨q,0,0⟩] else []:=λ c=>by
  show [] ++ ([] ++ if q.co=(c:Int) then [(⟨q,0,0⟩:Ap)] else [])=_
  rw[List.nil_append,List.nil_append,q1]
  by_cases e:c=0
  ·subst e;rw[if_pos (show (0:Int)=((0:Nat):Int) from rfl),if_pos rfl]
  ·rw[if_neg (by omega),if_neg e]
 have her:∀ c:Nat,erC s [[q]] (ceV s [[lstP 0 t.w t.d]]) (apS (c:Int) [[q]]) c=0:=λ c=>by
  rw[hap]
  by_cases e:c=0
  ·subst e
   rw[if_pos rfl]
   rcases hpo with hpo | hpo
   ·have hb:=al_blk h ht hM h0 hwh (ceV s [[lstP 0 t.w t.d]]) q.pr (by
     unfold inP
     rw[show decide (q.pr<((([[q]]:List (List Pc)).getD 0 []).getD 0 pc0).pr)=false from decide_eq_false (by show ¬q.pr<q.pr;omega)]
     simp)
    unfold erC
    rw[if_neg (by omega)]
    show erX s [[q]] (ceV s [[lstP 0 t.w t.d]]) [⟨q,0,0⟩] 0 ⟨q,0,0⟩=0
    unfold erX
    rw[if_neg (by rintro(e | e);rw[q4] at e;cases e;omega)]
    unfold fixV
    have ha:abv q.pr [(⟨q,0,0⟩:Ap)] = []:=by
     unfold abv
     rw[List.filter_cons_of_neg (by simp)];rfl
    show (rsp.bnP (ownV s [[q]] 0 q) (blkV s [[q]] (ceV s [[lstP 0 t.w t.d]]) 0 q.pr) s.re ((abv q.pr [(⟨q,0,0⟩:Ap)]).map (ldOf s [[q]])) [⟨ownV s [[q]] 0 q,(s.ts.getD 0 ts0).p,((0:Nat):Int)*(s.la-1)⟩] q.de).2=0
    rw[ha,hts,hown,q3,q2,show ((0:Nat):Int)*(s.la-1)=0 from Int.zero_mul _]
    refine rsp.bn_alone (rsp.right_iff.2 ⟨rfl,rsp.okLs_iff.2 ⟨by simp,λ x hx=>?_⟩,by omega,by omega,by omega⟩) (by omega) (by omega) (by omega) (by omega)
    rw[List.mem_singleton.1 hx]
    exact rsp.okD_iff.2 ⟨by dsimp only;omega,by dsimp only;omega,by dsimp only;omega⟩
   ·have hb:=al_blk h ht hM h0 hwh (ceV s [[lstP 0 t.w t.d]]) 0 (by
     have hv:=(right_parts h).1
     unfold vWhole at hv
     simp only[Bool.and_eq_true,Bool.not_eq_true',Bool.and_eq_false_iff,decide_eq_false_iff_not,Bool.not_eq_false',decide_eq_true_eq] at hv
     have hpr:¬s.pr=2:=by rcases hv.2.2.2.1 with e | e;exact e;omega
     unfold inP
     rw[decide_eq_false hpr];rfl)
    have het:edfV s [[q]] (ceV s [[lstP 0 t.w t.d]]) [⟨q,0,0⟩] 0=0:=by
     unfold edfV
     show dem.testV [⟨ownV s [[q]] 0 q,(s.ts.getD 0 ts0).p,q.de,q.ti⟩] _ _=0
     rw[hown,hts,q2,q3,q4]
     refine dem.test_alone (dem.right_iff.2 ⟨by simp,by omega,by omega,λ x hx=>?_⟩) (by omega) (by omega) (by omega)
     rw[List.mem_singleton.1 hx]
     exact dem.okW_iff.2 ⟨by dsimp only;omega,by dsimp only;omega,by dsimp only;omega⟩
    unfold erC
    rw[if_neg (λ e=>e.2.2 het)]
    show erX s [[q]] (ceV s [[lstP 0 t.w t.d]]) [⟨q,0,0⟩] 0 ⟨q,0,0⟩=0
    unfold erX
    rw[if_pos (.inr hpo)]
  ·rw[if_neg e]
   unfold erC
   rw[if_neg (λ e=>e.2.1 rfl)];rfl
 have hN:∀ n,(erN s [[q]] (ceV s [[lstP 0 t.w t.d]]) n).2=0:=λ n=>by
  induction n with
  | zero=>rfl
  | succ n ih =>
   rw[erN,if_neg (by omega),her n,if_neg (by simp)]
 unfold good chkV
 rw[decide_eq_true_eq,if_pos (al_right h ht),hrk,<-hq,if_neg (by rw[hN];simp)]
theorem plc_alone {M:Int} (hM:∀ x ∈ t.secs,x.2.2<=M) (h0:0<=M) (hD:t.w+M+3*s.fi+4*s.sw+3*s.re<=t.d) (hP:2*(t.w+M+3*s.fi+4*s.sw+3*s.re)<=t.p) :
  plcV s=([[rkP s [[lstP 0 t.w t.d]] 0 (lstP 0 t.w t.d)]],(chkV s [[lstP 0 t.w t.d]]).1,0):=by
 have hg:=al_good h ht hM h0 hD hP
 obtain⟨hco,_⟩:=al_nums h ht
 have hla:∀ n,(laN s [[]] 0 t.w t.d (false,false) (n+1)).1=some 0:=λ n=>by
  induction n with
  | zero =>
   show (if hasC [[]] 0 ((0:Nat):Int)=true then ((none:Option Nat),(false,false)) else (if good s (addP [[]] 0 (lstP ((0:Nat):Int) t.w t.d))=true then some 0 else none,said s (addP [[]] 0 (lstP ((0:Nat):Int) t.w t.d)) (false,false))).1=some 0
   rw[if_neg (by unfold hasC;simp)]
   have e:addP [[]] 0 (lstP ((0:Nat):Int) t.w t.d) = [[lstP 0 t.w t.d]]:=rfl
   rw[e,hg];rfl
  | succ n ih=>rw[laN,ih]
 have hts:s.ts.getD 0 ts0=t:=by rw[ht];rfl
 have hpl:(plT s [[]] 0).1=some [[lstP 0 t.w t.d]]:=by
  obtain⟨n,hn⟩:∃ n,s.co.toNat=n+1:=⟨s.co.toNat-1,by omega⟩
  have e:=hla n
  unfold plT
  rw[hts,hn]
  rcases e2:laN s [[]] 0 t.w t.d (false,false) (n+1)with⟨o,m⟩
  rw[e2] at e
  cases e
  rfl
 unfold plcV
 rw[if_pos h,ht]
 show (match plV s [0] [[]] with | .ok L=>(rkV s L,(chkV s L).1,(0:Int)) | .error e=>([], [],e))=_
 rw[plV]
 rcases e:plT s [[]] 0 with⟨o,m⟩
 rw[e] at hpl
 cases hpl
 rfl
end
end Go.Proofs.YtlecikdjoekknaaGreat.pln
end
