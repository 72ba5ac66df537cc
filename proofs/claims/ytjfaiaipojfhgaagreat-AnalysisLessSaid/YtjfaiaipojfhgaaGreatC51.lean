/- Part 51 of a proof: PaM5 PaM6. -/
import Derived.Test.YtjfaiaipojfhgaaGreatC50
section
namespace Go.Proofs.YtjfaiaipojfhgaaGreat.pln
set_option linter.unusedVariables false
set_option linter.unusedSimpArgs false
open Go.ChangeShapes Go.WideShapes Go.ChangeAt Go.RowKit Go.Deep val ter
theorem core_cases {s:Sys} {L:List (List Pc)} (h:plR s L=true) (c:Nat) {i:Nat} {l:List Pc} (hl:L[i]? = some l) :
  (apL (c:Int) i (rkL s L i l) (rkL s L i l).length = []∧whO l≠(c:Int))∨∃ y:Ap,apL (c:Int) i (rkL s L i l) (rkL s L i l).length = [y]∧y.i=i∧(∃ x,l[y.k]? = some x∧y.p=rkP s L i x∧x.co=(c:Int)) ∧
   ((whO l=(c:Int)∧y.k=0∧l.length=1∧y.p.ti=false∧y.p=rkP s L i (l.getD 0 pc0))∨(whO l≠(c:Int)∧(s.ts.getD i ts0).secs.length=0)):=by
 obtain⟨hr,hL,hok⟩:=plR_parts h
 have hoL:=okS_at hok hl
 obtain⟨hw,_⟩:=tsk_nums hr hL hl
 have hlen:(rkL s L i l).length=l.length:=by unfold rkL;rw[List.length_map]
 by_cases hex:∃ (k:Nat) (x:Pc),l[k]? = some x∧x.co=(c:Int)
 ·obtain⟨k,x,hx,hc⟩:=hex
  have hkl:k<l.length:=(List.getElem?_eq_some_iff.1 hx).1
  refine .inr ⟨⟨rkP s L i x,i,k⟩,?_,rfl,⟨x,hx,rfl,hc⟩,?_⟩
  ·rw[hlen,apL_map _ (Nat.le_refl _),apL_one hx hc (fun k' z hz e=>okL_core_one hoL hz hx (by rw[e,hc])) _ (Nat.le_refl _),if_pos hkl]
   rfl
  ·obtain⟨⟨_,_,_,g4,g5⟩,_⟩:=okL_rg hoL hw.1 hx
   by_cases hwh:whO l=(c:Int)
   ·obtain⟨z,e1,e2,e3⟩:=whO_is hwh (Int.natCast_nonneg c)
    subst e1
    have hk0:k=0:=by simp at hkl;exact hkl
    subst hk0
    simp at hx
    subst hx
    exact .inl ⟨hwh,rfl,rfl,e2,rfl⟩
   ·refine .inr ⟨hwh,?_⟩
    cases ht:x.ti with
    | true=>exact(g4 ht).2.2
    | false =>
     have hk1:=(g5 ht).1
     by_cases hk0:k=0
     ·exfalso
      apply hwh
      subst hk0
      have h0:l.getD 0 pc0=x:=by simp[List.getD,hx]
      unfold whO
      rw[if_pos ⟨hk1.symm,by rw[h0];exact ht⟩,h0,hc]
     ·have hx0:l[0]? = some (l[0]'(by omega)):=List.getElem?_eq_getElem (by omega)
      obtain⟨⟨_,_,_,f4,f5⟩,_⟩:=okL_rg hoL hw.1 hx0
      cases ht0:(l[0]'(by omega)).ti with
      | true=>exact(f4 ht0).2.2
      | false=>have:=(f5 ht0).1;omega
 ·have hno:∀ (k:Nat) (y:Pc),l[k]? = some y→y.co≠(c:Int):=fun k y hy e=>hex ⟨k,y,hy,e⟩
  refine .inl ⟨by rw[hlen,apL_map _ (Nat.le_refl _),apL_none hno _ (Nat.le_refl _)];rfl,fun e=>?_⟩
  obtain⟨z,e1,e2,e3⟩:=whO_is e (Int.natCast_nonneg c)
  exact hno 0 z (by rw[e1];rfl) e3
theorem ap_step {s:Sys} {L:List (List Pc)} {c:Int} {i:Nat} {l:List Pc} (hl:L[i]? = some l):apN c (rkV s L) (i+1)=apN c (rkV s L) i ++ apL c i (rkL s L i l) (rkL s L i l).length:=apN_next (rkV_at (s:=s) hl)
theorem ce_is {s:Sys} {L:List (List Pc)} (h:plR s L=true) (c:Nat):∀ i,i≤L.length→ceF s ((apN (c:Int) (rkV s L) i).map (ptOf s L))=ceN s L (c:Int) i
 | 0,_=>rfl
 | i+1,hi=>by
  have hl:L[i]? = some (L[i]'(by omega)):=List.getElem?_eq_getElem (by omega)
  have ih:=ce_is h c i (by omega)
  rw[ap_step hl]
  funext r
  rw[ceN,getL hl]
  rcases core_cases h c hl with⟨e,hw⟩ | ⟨y,e,hyi,⟨x,hx,hyp,hxc⟩,hcase⟩
  ·rw[e,List.append_nil,ih,if_neg hw]
  ·rw[e,List.map_append,List.map_cons,List.map_nil,ceF_snoc,ih]
   unfold ceX
   have e1:(ptOf s L y).i=i:=hyi
   have e2:(ptOf s L y).p.pr=y.p.pr:=rfl
   rw[e1,e2]
   rcases hcase with⟨hw,_,_,_,hp⟩ | ⟨hw,h0⟩
   ·rw[if_pos hw]
    unfold ceP
    rw[hp,Int.max_comm]
   ·rw[if_neg hw,h0];rfl
theorem ce_core {s:Sys} {L:List (List Pc)} (h:plR s L=true) (c:Nat):ceF s ((apS (c:Int) (rkV s L)).map (ptOf s L))=ceN s L (c:Int) L.length:=by
 unfold apS;rw[rkV_len];exact ce_is h c _ (Nat.le_refl _)
theorem own_is {s:Sys} {L:List (List Pc)} (h:plR s L=true) {c:Nat} {y:Ap} (hy:y ∈ apS (c:Int) (rkV s L)):ownP s (L.map whO) (ptOf s L y)=ownV s (rkV s L) y.i y.p:=by
 obtain⟨hr,hL,hok⟩:=plR_parts h
 obtain⟨rl,h1,h2,h3⟩:=apS_mem hy
 have hi:y.i<L.length:=by have:=(List.getElem?_eq_some_iff.1 h1).1;rw[rkV_len] at this;exact this
 obtain⟨l,hl⟩:∃ l,L[y.i]? = some l:=⟨_,List.getElem?_eq_getElem hi⟩
 rw[rkV_at hl] at h1
 cases h1
 obtain⟨x,hx,hp⟩:=rkL_at h2
 have hkl:y.k<l.length:=(List.getElem?_eq_some_iff.1 hx).1
 unfold ownP ownV
 rw[wh_rk,wh_at hl]
 have hb:(whB (ptOf s L y)=true) ↔ 0≤whO l:=by
  have e1:whB (ptOf s L y)=(decide (y.k=0) && (decide (y.k+1=l.length) && !y.p.ti)):=by
   unfold whB ptOf
   rw[getL hl]
  have e2:y.p.ti=x.ti:=by rw[hp];rfl
  rw[e1,e2]
  unfold whO
  by_cases h1:l.length=1∧(l.getD 0 pc0).ti=false
  ·rw[if_pos h1]
   have hk0:y.k=0:=by omega
   rw[hk0] at hx
   have h0:l.getD 0 pc0=x:=by simp[List.getD,hx]
   have hbp:=okL_piece (okS_at hok hl) hx
   unfold badP bad1 at hbp
   simp only[Bool.or_eq_false_iff,decide_eq_false_iff_not] at hbp
   rw[h0] at h1 ⊢
   rw[hk0,h1.2]
   simp[h1.1]
   omega
  ·rw[if_neg h1]
   simp only[Bool.and_eq_true,decide_eq_true_eq,Bool.not_eq_true']
   constructor
   ·rintro⟨a1,a2,a3⟩
    exfalso
    rw[a1] at hx a2
    have h0:l.getD 0 pc0=x:=by simp[List.getD,hx]
    exact h1 ⟨a2.symm,by rw[h0];exact a3⟩
   ·intro h;omega
 have e3:(ptOf s L y).p.bu=y.p.bu:=rfl
 have e4:(ptOf s L y).i=y.i:=rfl
 rw[e3,e4]
 by_cases h9:0≤whO l
 ·rw[if_pos h9,if_pos (hb.2 h9)]
 ·rw[if_neg h9,if_neg (fun e=>h9 (hb.1 e))]
theorem wk_is {s:Sys} {L:List (List Pc)} (h:plR s L=true) (c:Nat):((apS (c:Int) (rkV s L)).map (ptOf s L)).map (wkP s (L.map whO))=(apS (c:Int) (rkV s L)).map (wkOf s (rkV s L)):=by
 rw[List.map_map]
 apply List.map_congr_left
 intro y hy
 show wkP s (L.map whO) (ptOf s L y)=_
 unfold wkP wkOf
 rw[own_is h hy]
 rfl
theorem ld_is1 {s:Sys} {L:List (List Pc)} (h:plR s L=true) {c:Nat} {y:Ap} (hy:y ∈ apS (c:Int) (rkV s L)):ldP s (L.map whO) (ptOf s L y)=ldOf s (rkV s L) y:=by
 unfold ldP ldOf
 rw[own_is h hy]
 rfl
theorem ld_isA {s:Sys} {L:List (List Pc)} (h:plR s L=true) (c:Nat):((apS (c:Int) (rkV s L)).map (ptOf s L)).map (ldP s (L.map whO))=(apS (c:Int) (rkV s L)).map (ldOf s (rkV s L)):=by
 rw[List.map_map]
 exact List.map_congr_left (fun y hy=>ld_is1 h hy)
theorem ab_pre {pr:Int} {l:List Pt} {ls:List rsp.Ld} (hl:ls.length=l.length):∀ q,q≤l.length→abN pr l ls q=(((l.zip ls).take q).filter (fun z=>decide (z.1.p.pr<pr))).map Prod.snd
 | 0,_=>rfl
 | q+1,hq=>by
  have hx:l[q]? = some (l[q]'(by omega)):=List.getElem?_eq_getElem (by omega)
  have hy:ls[q]? = some (ls[q]'(by omega)):=List.getElem?_eq_getElem (by omega)
  have hz:(l.zip ls)[q]? = some (l[q]'(by omega),ls[q]'(by omega)):=by rw[List.getElem?_zip_eq_some];exact⟨hx,hy⟩
  rw[abN_next hx hy,ab_pre hl q (by omega),List.take_add_one,hz,List.filter_append,List.map_append]
  congr 1
  by_cases e:l[q].p.pr<pr
  ·simp[e]
  ·simp[e]
theorem ab_is {s:Sys} {L:List (List Pc)} (h:plR s L=true) (c:Nat) (pr:Int):abN pr ((apS (c:Int) (rkV s L)).map (ptOf s L)) (((apS (c:Int) (rkV s L)).map (ptOf s L)).map (ldP s (L.map whO))) ((apS (c:Int) (rkV s L)).map (ptOf s L)).length=(abv pr (apS (c:Int) (rkV s L))).map (ldOf s (rkV s L)):=by
 rw[ab_pre (by simp) _ (Nat.le_refl _),List.take_of_length_le (by simp),ld_isA h c]
 unfold abv
 generalize apS (c:Int) (rkV s L)=A
 induction A with
 | nil=>rfl
 | cons y A ih =>
  rw[List.map_cons,List.map_cons,List.zip_cons_cons]
  by_cases e:y.p.pr<pr
  ·rw[List.filter_cons_of_pos (by show decide (y.p.pr<pr)=true;exact decide_eq_true e),List.filter_cons_of_pos (by show decide (y.p.pr<pr)=true;exact decide_eq_true e),List.map_cons,List.map_cons,ih]
  ·rw[List.filter_cons_of_neg (by show ¬decide (y.p.pr<pr)=true;simpa using e),List.filter_cons_of_neg (by show ¬decide (y.p.pr<pr)=true;simpa using e),ih]
end Go.Proofs.YtjfaiaipojfhgaaGreat.pln
end
section
namespace Go.Proofs.YtjfaiaipojfhgaaGreat.pln
set_option linter.unusedVariables false
set_option linter.unusedSimpArgs false
open Go.ChangeShapes Go.WideShapes Go.ChangeAt Go.RowKit Go.Deep val ter
theorem blN_pre {s:Sys} {pr:Int} {l r:List (Int × Int × Int)}:∀ q,q≤l.length→blN s pr (l ++ r) q=blN s pr l q
 | 0,_=>rfl
 | q+1,h=>by
  have hx:l[q]? = some (l[q]'(by omega)):=List.getElem?_eq_getElem (by omega)
  rw[blN_next hx,blN_next (l:=l ++ r) (h:=l[q]) (by rw[List.getElem?_append_left (by omega)];exact hx),blN_pre q (by omega)]
def blT (s:Sys) (pr:Int) (l:List (Int × Int × Int)):Int:=blN s pr l l.length
theorem blT_snoc (s:Sys) (pr:Int) (l:List (Int × Int × Int)) (h:Int × Int × Int):blT s pr (l ++ [h])=bl1 s pr (blT s pr l) h:=by
 unfold blT
 have e:(l ++ [h]).length=l.length+1:=by simp
 rw[e,blN_next (h:=h) (by simp),blN_pre _ (Nat.le_refl _)]
theorem bl_skip {s:Sys} {pr:Int} {wh:List Int} {z:Nat→Int} {x:Pt} {H:List (Int × Int × Int)} (h:x.p.pr<pr):∀ m,blT s pr (H ++ hoX s wh z x m)=blT s pr H
 | 0=>by rw[hoX,List.append_nil]
 | m+1=>by
  rw[hoX,←List.append_assoc,blT_snoc,bl_skip h m]
  unfold bl1 ho1
  rw[if_neg (by dsimp only;omega)]
theorem bl_take {s:Sys} (hpr:s.pr=1∨s.pr=2) {pr:Int} {wh:List Int} {z:Nat→Int} {Zf:Int→Int} {x:Pt} {i:Nat} (hi:x.i=i) {H:List (Int × Int × Int)} {M:Int} (h:pr≤x.p.pr) (hz:∀ y ∈ (s.ts.getD i ts0).secs,Zf y.2.1=z y.2.1.toNat) (h0:blT s pr H=M):∀ m,m≤(s.ts.getD i ts0).secs.length→blT s pr (H ++ hoX s wh z x m)=bkS s wh Zf pr i (s.ts.getD i ts0).secs M m
 | 0,_=>by rw[hoX,List.append_nil,h0];rfl
 | m+1,hm=>by
  have hy:(s.ts.getD i ts0).secs[m]? = some ((s.ts.getD i ts0).secs[m]'(by omega)):=List.getElem?_eq_getElem (by omega)
  have hd:(s.ts.getD i ts0).secs.getD m (0,0,0)=(s.ts.getD i ts0).secs[m]'(by omega):=by rw[List.getD,hy];rfl
  have hzz:=hz _ (List.getElem_mem (show m<(s.ts.getD i ts0).secs.length by omega))
  rw[hoX,←List.append_assoc,blT_snoc,bl_take hpr hi h hz h0 m (by omega),bkS,hd]
  unfold bl1 ho1 hiP
  dsimp only
  rw[hi,hd,hzz]
  generalize z (s.ts.getD i ts0).secs[m].2.1.toNat=Z0
  rcases hpr with e | e
  ·rw[if_pos ⟨h,.inl e⟩,if_neg (by rw[e];simp)]
  ·by_cases hq:pr<Z0
   ·rw[if_neg (by omega),if_pos (by rw[e,decide_eq_true hq];rfl)]
   ·rw[if_pos ⟨h,.inr (by omega)⟩,if_neg (by rw[decide_eq_false hq,Bool.and_false];simp)]
theorem heN_pre {s:Sys} {pr:Int} {l r:List Pt}:∀ q,q≤l.length→heN s pr (l ++ r) q=heN s pr l q
 | 0,_=>rfl
 | q+1,h=>by
  have hx:l[q]? = some (l[q]'(by omega)):=List.getElem?_eq_getElem (by omega)
  rw[heN_next hx,heN_next (l:=l ++ r) (x:=l[q]) (by rw[List.getElem?_append_left (by omega)];exact hx),heN_pre q (by omega)]
theorem heN_snoc (s:Sys) (pr:Int) (l:List Pt) (x:Pt):heN s pr (l ++ [x]) (l ++ [x]).length=heN s pr l l.length+(if s.pr=2∧(pr<x.p.pr∧0<(s.ts.getD x.i ts0).secs.length) then s.fi else 0):=by
 have e:(l ++ [x]).length=l.length+1:=by simp
 rw[e,heN_next (x:=x) (by simp),heN_pre _ (Nat.le_refl _)]
theorem right_pr {s:Sys} (h:right s=true):(s.pr=1∨s.pr=2)∧(s.po=1∨s.po=2)∧(0≤s.rs∧s.rs≤8):=by
 obtain⟨h1,_⟩:=right_parts h
 unfold vWhole at h1
 simp only[Bool.and_eq_true,wi_true] at h1
 omega
theorem rk0 {s:Sys} {L:List (List Pc)} (hpo:s.po≠1) (i:Nat) (x:Pc):(rkP s L i x).pr=0:=by unfold rkP;dsimp only;rw[if_neg (fun e=>hpo e.1)]
theorem rk_head {s:Sys} {L:List (List Pc)} {i:Nat} {l:List Pc} (hl:L[i]? = some l) (h1:l.length=1):((rkV s L).getD i []).getD 0 pc0=rkP s L i (l.getD 0 pc0):=by
 have hx:l[0]? = some (l[0]'(by omega)):=List.getElem?_eq_getElem (by omega)
 have hv:=rkV_at (s:=s) hl
 have e1:(rkV s L).getD i []=rkL s L i l:=by simp[List.getD,hv]
 have e2:l.getD 0 pc0=l[0]'(by omega):=by simp[List.getD,hx]
 rw[e1,e2]
 unfold rkL
 simp[List.getD,hx]
theorem bk_is {s:Sys} {L:List (List Pc)} (h:plR s L=true) (c:Nat) {pr:Int} (hpr0:s.po=1∨pr=0) {z:Nat→Int} {Zf:Int→Int} (hz:∀ t ∈ s.ts,∀ y ∈ t.secs,Zf y.2.1=z y.2.1.toNat):∀ i,i≤L.length →
  blT s pr (hoF s (L.map whO) z ((apN (c:Int) (rkV s L) i).map (ptOf s L)))=bkM s (L.map whO) (rkV s L) Zf (c:Int) pr i ∧
  heN s pr ((apN (c:Int) (rkV s L) i).map (ptOf s L)) ((apN (c:Int) (rkV s L) i).map (ptOf s L)).length+2*s.fi=bkE s (L.map whO) (rkV s L) (c:Int) pr i*s.fi
 | 0,_=>⟨rfl,by rw[bkE];simp[apN,heN]⟩
 | i+1,hi=>by
  have hl:L[i]? = some (L[i]'(by omega)):=List.getElem?_eq_getElem (by omega)
  obtain⟨hr,hL,hok⟩:=plR_parts h
  obtain⟨ih1,ih2⟩:=bk_is h c hpr0 hz i (by omega)
  obtain⟨hspr,hspo,_⟩:=right_pr hr
  rw[ap_step hl,bkM,bkE]
  have hwi:(L.map whO).getD i 0=whO L[i]:=wh_at hl
  rcases core_cases h c hl with⟨e,hw⟩ | ⟨y,e,hyi,⟨x,hx,hyp,hxc⟩,hcase⟩
  ·have hsk:skP s (L.map whO) (rkV s L) (c:Int) pr i=true:=by unfold skP;rw[hwi,decide_eq_false hw];rfl
   rw[e,List.append_nil,if_pos hsk,if_pos hsk]
   exact⟨ih1,ih2⟩
  ·rw[e,List.map_append,List.map_cons,List.map_nil,hoF_snoc,heN_snoc]
   have e1:(ptOf s L y).i=i:=hyi
   have e2:(ptOf s L y).p.pr=y.p.pr:=rfl
   rw[e1,e2]
   rcases hcase with⟨hw,_,hlen1,_,hp⟩ | ⟨hw,h0⟩
   ·have hhd:((rkV s L).getD i []).getD 0 pc0=y.p:=by rw[rk_head hl hlen1,hp]
    have hti:s.ts.getD i ts0 ∈ s.ts:=by
     have hi2:i<s.ts.length:=by omega
     have:s.ts.getD i ts0=s.ts[i]:=by simp[List.getD,List.getElem?_eq_getElem hi2]
     rw[this];exact List.getElem_mem hi2
    by_cases hsk:s.po=1∧y.p.pr<pr
    ·have hs:skP s (L.map whO) (rkV s L) (c:Int) pr i=true:=by unfold skP;rw[hhd,decide_eq_true hsk.1,decide_eq_true hsk.2];simp
     rw[if_pos hs,if_pos hs,bl_skip (by rw[e2];exact hsk.2),if_neg (by omega),Int.add_zero]
     exact⟨ih1,ih2⟩
    ·have hge:pr≤y.p.pr:=by
      rcases hpr0 with e9 | e9
      ·omega
      ·by_cases e8:s.po=1
       ·omega
       ·rw[hp,rk0 e8,e9];exact Int.le_refl _
     have hs:skP s (L.map whO) (rkV s L) (c:Int) pr i=false:=by
      unfold skP
      rw[hwi,hhd,decide_eq_true hw]
      by_cases e8:s.po=1
      ·simp;omega
      ·simp[e8]
     rw[hs]
     simp only[Bool.false_eq_true,if_false]
     refine⟨bl_take hspr hyi (by rw[e2];exact hge) (hz _ hti) ih1 _ (Nat.le_refl _),?_⟩
     unfold inP
     rw[hhd]
     by_cases hin:s.pr=2∧(pr<y.p.pr∧0<(s.ts.getD i ts0).secs.length)
     ·rw[if_pos hin,if_pos (by simp[hin.1,hin.2.1];exact hin.2.2)]
      rw[Int.add_mul]
      omega
     ·rw[if_neg hin,if_neg (by simp only[Bool.and_eq_true,decide_eq_true_eq];exact hin)]
      simpa using ih2
   ·have hs:skP s (L.map whO) (rkV s L) (c:Int) pr i=true:=by unfold skP;rw[hwi,decide_eq_false hw];rfl
    rw[if_pos hs,if_pos hs,h0,if_neg (by omega),Int.add_zero]
    refine⟨?_,ih2⟩
    rw[hoX,List.append_nil]
    exact ih1
theorem zr_is {s:Sys} {L:List (List Pc)} (hr:right s=true) {c:Nat} (hc:c<s.co.toNat):∀ t ∈ s.ts,∀ y ∈ t.secs,zr (ceV s L) c y.2.1=ceN s L (c:Int) L.length y.2.1.toNat:=fun t ht y hy=>by
 obtain⟨⟨h1,h2⟩,_⟩:=right_sec hr ht hy
 have hlt:y.2.1.toNat<s.rs.toNat:=by omega
 unfold zr ceV ceR
 simp[List.getD,hc,hlt]
theorem blk_is {s:Sys} {L:List (List Pc)} (h:plR s L=true) {c:Nat} (hc:c<s.co.toNat) {pr:Int} (hpr0:s.po=1∨pr=0) :
  blH s pr (hoF s (L.map whO) (ceF s ((apS (c:Int) (rkV s L)).map (ptOf s L))) ((apS (c:Int) (rkV s L)).map (ptOf s L)))+heN s pr ((apS (c:Int) (rkV s L)).map (ptOf s L)) ((apS (c:Int) (rkV s L)).map (ptOf s L)).length=blkV s (rkV s L) (ceV s L) c pr:=by
 obtain⟨hr,hL,hok⟩:=plR_parts h
 rw[ce_core h c]
 have h1:=bk_is h c hpr0 (zr_is (L:=L) hr hc) L.length (Nat.le_refl _)
 have hA:apS (c:Int) (rkV s L)=apN (c:Int) (rkV s L) L.length:=by unfold apS;rw[rkV_len]
 rw[←hA] at h1
 obtain⟨h2,h3⟩:=h1
 unfold blkV blH
 rw[wh_rk,rkV_len,←h2,←h3]
 unfold blT
 omega
theorem he0 {s:Sys} {pr:Int} (hs:s.pr≠2) (l:List Pt):∀ q,heN s pr l q=0
 | 0=>rfl
 | q+1=>by rw[heN,he0 hs l q,if_neg (fun e=>hs e.1)];rfl
theorem he_low {s:Sys} {pr:Int} {l:List Pt} (h:∀ x ∈ l,x.p.pr≤pr):∀ q,q≤l.length→heN s pr l q=0
 | 0,_=>rfl
 | q+1,hq=>by
  have hx:l[q]? = some (l[q]'(by omega)):=List.getElem?_eq_getElem (by omega)
  have:=h _ (List.getElem_mem (show q<l.length by omega))
  rw[heN_next hx,he_low h q (by omega),if_neg (by omega)];rfl
theorem fx_is {s:Sys} {L:List (List Pc)} (h:plR s L=true) {c:Nat} (hc:c<s.co.toNat) (hpo:s.po=1) {y:Ap} (hy:y ∈ apS (c:Int) (rkV s L)) :
  fx1 s (L.map whO) (hoF s (L.map whO) (ceF s ((apS (c:Int) (rkV s L)).map (ptOf s L))) ((apS (c:Int) (rkV s L)).map (ptOf s L))) ((apS (c:Int) (rkV s L)).map (ptOf s L)) (ptOf s L y)=fixV s (rkV s L) (ceV s L) (apS (c:Int) (rkV s L)) c y:=by
 unfold fx1 fixV
 have e2:(ptOf s L y).p.pr=y.p.pr:=rfl
 have e3:(ptOf s L y).p.de=y.p.de:=rfl
 rw[e2,e3,own_is h hy,blk_is h hc (.inl hpo),ab_is h c,ld_isA h c]
theorem sumB_is {s:Sys} {l:List Pc}:∀ k:Nat,sumB s l k=smN l k+(k:Int)*(s.la-1)
 | 0=>by rw[sumB,smN];simp
 | k+1=>by
  rw[sumB,smN,sumB_is k]
  have:((k+1:Nat):Int)*(s.la-1)=(k:Int)*(s.la-1)+(s.la-1):=by rw[Int.natCast_add,Int.add_mul];simp
  omega
theorem fxE_is {s:Sys} {L:List (List Pc)} (h:plR s L=true) {c:Nat} (hc:c<s.co.toNat) (hpo:s.po=1):∀ q,q≤(apS (c:Int) (rkV s L)).length →
  fxE s (L.map whO) (hoF s (L.map whO) (ceF s ((apS (c:Int) (rkV s L)).map (ptOf s L))) ((apS (c:Int) (rkV s L)).map (ptOf s L))) ((apS (c:Int) (rkV s L)).map (ptOf s L)) q=erJ s (rkV s L) (ceV s L) (apS (c:Int) (rkV s L)) c q
 | 0,_=>rfl
 | q+1,hq=>by
  have hy:(apS (c:Int) (rkV s L))[q]? = some ((apS (c:Int) (rkV s L))[q]'(by omega)):=List.getElem?_eq_getElem (by omega)
  have hx:((apS (c:Int) (rkV s L)).map (ptOf s L))[q]? = some (ptOf s L ((apS (c:Int) (rkV s L))[q]'(by omega))):=by rw[List.getElem?_map,hy];rfl
  have hd:(apS (c:Int) (rkV s L)).getD q ap0=(apS (c:Int) (rkV s L))[q]'(by omega):=by simp[List.getD,hy]
  rw[fxE_next hx,erJ,fxE_is h hc hpo q (by omega),fx_is h hc hpo (List.getElem_mem _),hd]
  unfold erX
  have e:(ptOf s L ((apS (c:Int) (rkV s L))[q]'(by omega))).p.ti=((apS (c:Int) (rkV s L))[q]'(by omega)).p.ti:=rfl
  rw[e]
  have hp2:¬s.po=2:=by omega
  simp only[hp2,or_false]
theorem fxB_is {s:Sys} {L:List (List Pc)} (h:plR s L=true) {c:Nat} (hc:c<s.co.toNat) (hpo:s.po=1) (g:Nat→Int):∀ q,q≤(apS (c:Int) (rkV s L)).length →
  fxB s (L.map whO) (hoF s (L.map whO) (ceF s ((apS (c:Int) (rkV s L)).map (ptOf s L))) ((apS (c:Int) (rkV s L)).map (ptOf s L))) ((apS (c:Int) (rkV s L)).map (ptOf s L)) g q=bdJ s (rkV s L) (ceV s L) (apS (c:Int) (rkV s L)) c g q
 | 0,_=>rfl
 | q+1,hq=>by
  have hy:(apS (c:Int) (rkV s L))[q]? = some ((apS (c:Int) (rkV s L))[q]'(by omega)):=List.getElem?_eq_getElem (by omega)
  have hm:=List.getElem_mem (show q<(apS (c:Int) (rkV s L)).length by omega)
  have hx:((apS (c:Int) (rkV s L)).map (ptOf s L))[q]? = some (ptOf s L ((apS (c:Int) (rkV s L))[q]'(by omega))):=by rw[List.getElem?_map,hy];rfl
  have hd:(apS (c:Int) (rkV s L)).getD q ap0=(apS (c:Int) (rkV s L))[q]'(by omega):=by simp[List.getD,hy]
  rw[fxB_next hx,bdJ,fxB_is h hc hpo g q (by omega),fx_is h hc hpo hm,hd]
  generalize (apS (c:Int) (rkV s L))[q]'(by omega)=y at hm ⊢
  have e1:(ptOf s L y).p.ti=y.p.ti:=rfl
  have e2:(ptOf s L y).i=y.i:=rfl
  rw[e1,e2]
  cases y.p.ti with
  | true=>rfl
  | false =>
   simp only[Bool.false_eq_true,if_false]
   funext j
   have hb:(ptOf s L y).dn+(ptOf s L y).ji+(fixV s (rkV s L) (ceV s L) (apS (c:Int) (rkV s L)) c y).1=bndX s (rkV s L) (ceV s L) (apS (c:Int) (rkV s L)) c y:=by
    unfold bndX
    rw[if_neg (by omega),sumB_is]
    have e3:smN ((rkV s L).getD y.i []) y.k=smN (L.getD y.i []) y.k:=smN_ups (rk_ups s L y.i) y.k
    rw[e3]
    show smN (L.getD y.i []) y.k+(y.k:Int)*(s.la-1)+_=_
    omega
   rw[hb]
theorem bdE_is {s:Sys} {L:List (List Pc)} (hpo:s.po=2) {Z:List (List Int)} {R:List (List Pc)} {c:Nat} (A:List Ap) (g:Nat→Int):∀ q,q≤A.length→bdE s ((A.take q).map (ptOf s L)) g=bdJ s R Z A c g q
 | 0,_=>rfl
 | q+1,hq=>by
  have hy:A[q]? = some (A[q]'(by omega)):=List.getElem?_eq_getElem (by omega)
  have hd:A.getD q ap0=A[q]'(by omega):=by simp[List.getD,hy]
  rw[List.take_add_one,hy,List.map_append]
  show bdE s ((A.take q).map (ptOf s L) ++ [ptOf s L A[q]]) g=_
  rw[bdE_snoc,bdE_is hpo A g q (by omega),bdJ,hd]
  unfold bd1
  have e1:(ptOf s L A[q]).p.ti=A[q].p.ti:=rfl
  have e2:(ptOf s L A[q]).i=A[q].i:=rfl
  rw[e1,e2]
  cases A[q].p.ti with
  | true=>rfl
  | false =>
   simp only[Bool.false_eq_true,if_false]
   funext j
   unfold bndX
   rw[if_pos hpo]
theorem erJ_edf {s:Sys} (hpo:s.po=2) {R:List (List Pc)} {Z:List (List Int)} {A:List Ap} {c:Nat}:∀ q,erJ s R Z A c q=0
 | 0=>rfl
 | q+1=>by rw[erJ,erJ_edf hpo q];simp[erX,hpo]
theorem test_nil {bl rl:Int} (h1:0≤bl∧bl≤1099511627776) (h2:0≤rl∧rl≤1099511627776):dem.testV [] bl rl=0:=by
 unfold dem.testV
 rw[if_pos (dem.right_iff.2 ⟨by simp,h1,h2,by simp⟩),if_pos (show dem.least []=0 from rfl)]
end Go.Proofs.YtjfaiaipojfhgaaGreat.pln
end
