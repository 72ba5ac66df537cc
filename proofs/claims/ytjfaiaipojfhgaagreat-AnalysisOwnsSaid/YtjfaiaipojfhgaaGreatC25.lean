/- Part 25 of a proof: PlS7 PlS8 PlS9 PlX. -/
import Derived.Test.YtjfaiaipojfhgaaGreatC23
import Derived.Test.YtjfaiaipojfhgaaGreatC24
section
namespace Go.Proofs.YtjfaiaipojfhgaaGreat.pln
open val ter
theorem bndX_pos {s:Sys} {L:List (List Pc)} {w:Go.World} {A:Option Go.Addr} {N:Nat} (hl:RPl w A N L) (h:plR s L=true) {c:Nat} {y:Ap} (hy:y ∈ apS (c:Int) (rkV s L)) (ht:y.p.ti=false) (h0:erX s (rkV s L) (ceV s L) (apS (c:Int) (rkV s L)) c y=0):0≤bndX s (rkV s L) (ceV s L) (apS (c:Int) (rkV s L)) c y:=by
 obtain⟨l,x,t,e1,e2,e3,e4,e5,e6,e7,e8,e9,e10⟩:=rk_ap hl h hy
 have hn:=right_nums (plR_parts h).1
 unfold bndX
 by_cases hpo:s.po=2
 ·rw[if_pos hpo,getT e3]
  have:=(hn.2.2.2 t (List.mem_of_getElem? e3)).2
  omega
 ·rw[if_neg hpo]
  unfold erX at h0
  rw[if_neg (by rintro(e | e);rw[ht] at e;cases e;exact hpo e)] at h0
  have h1:=(rsp.bn_ok h0).2.2.1
  have hk:=(List.getElem?_eq_some_iff.1 e6).1
  have hg:(rkV s L).getD y.i []=rkL s L y.i l:=by simp[List.getD,e5]
  have h2:=sumB_bd (s:=s) (l:=rkL s L y.i l) (fun z hz=>rk_bu h e5 hz) hn.2.1 y.k (by omega)
  rw[hg]
  unfold fixV
  omega
theorem RelA.bd {s s':Sys} {L L':List (List Pc)} (h:RelA s s' L L') {w:Go.World} {A:Option Go.Addr} {N:Nat} (hl:RPl w A N L) (h0:(pln.erN s (rkV s L) (ceV s L) s.co.toNat).2=0) (h0':(pln.erN s' (rkV s' L') (ceV s' L') s.co.toNat).2=0) (k:Nat):∀ c,c≤s.co.toNat→0≤bdC s (rkV s L) (ceV s L) c k∧(L'[k]? = some []→bdC s' (rkV s' L') (ceV s' L') c k=0)∧(L'[k]? = L[k]? → bdC s' (rkV s' L') (ceV s' L') c k≤bdC s (rkV s L) (ceV s L) c k)
 | 0,_=>⟨Int.le_refl 0,fun _=>rfl,fun _=>Int.le_refl 0⟩
 | c+1,hc=>by
  obtain⟨i1,i2,i3⟩:=RelA.bd h hl h0 h0' k c (by omega)
  obtain⟨hE,hJ⟩:=erC_parts (erN_zero h0 (show c<s.co.toNat by omega))
  obtain⟨hE',hJ'⟩:=erC_parts (erN_zero h0' (show c<s.co.toNat by omega))
  have hx0:∀ y ∈ apS (c:Int) (rkV s L),pln.erX s (rkV s L) (ceV s L) (apS (c:Int) (rkV s L)) c y=0:=fun y hy=>by
   obtain⟨j,hj⟩:=List.mem_iff_getElem?.1 hy;exact erJ_zero hJ hj
  have hx0':∀ y ∈ apS (c:Int) (rkV s' L'),pln.erX s' (rkV s' L') (ceV s' L') (apS (c:Int) (rkV s' L')) c y=0:=fun y hy=>by
   obtain⟨j,hj⟩:=List.mem_iff_getElem?.1 hy;exact erJ_zero hJ' hj
  have v:=bdJ_val (s:=s) (R:=rkV s L) (Z:=ceV s L) (l:=apS (c:Int) (rkV s L)) (c:=c) (f:=bdC s (rkV s L) (ceV s L) c) k _ (Nat.le_refl _)
  have v':=bdJ_val (s:=s') (R:=rkV s' L') (Z:=ceV s' L') (l:=apS (c:Int) (rkV s' L')) (c:=c) (f:=bdC s' (rkV s' L') (ceV s' L') c) k _ (Nat.le_refl _)
  have hem:=h.emb (c:Int)
  rw[bdC,bdC]
  refine⟨?_,fun hk=>?_,fun hk=>?_⟩
  ·rcases v with⟨y,hy,hyi,hyt,e⟩ | ⟨_,e⟩
   ·rw[e];exact bndX_pos hl h.ok hy hyt (hx0 y hy)
   ·rw[e];exact i1
  ·rcases v' with⟨x,hx,hxi,hxt,e⟩ | ⟨_,e⟩
   ·obtain⟨y,hy,g1,g2,l,p,g3,g4,g5,_⟩:=dem.emb_mem hem x hx
    rw[hxi,hk] at g3
    cases g3
    cases g5
   ·rw[e];exact i2 hk
  ·rcases v' with⟨x,hx,hxi,hxt,e'⟩ | ⟨ha',e'⟩
   ·obtain⟨y,hy,hs⟩:=dem.emb_mem hem x hx
    have hs0:=hs
    obtain⟨g1,g2,l,p,g3,g4,g5,g6,g7⟩:=hs
    have hyt:y.p.ti=false:=by rw[g7];rw[g6] at hxt;exact hxt
    have hyi:y.i=k:=by rw[←g1];exact hxi
    rcases v with⟨y2,hy2,hy2i,hy2t,e⟩ | ⟨ha,_⟩
    ·have:y2=y:=ap_one h.ok hy2 hy (by rw[hy2i,hyi])
     subst this
     rw[e',e]
     unfold bndX
     rw[h.po,h.ts,g1]
     by_cases hpo:s.po=2
     ·rw[if_pos hpo,if_pos hpo];exact Int.le_refl _
     ·rw[if_neg hpo,if_neg hpo]
      have hpo1:s.po=1:=by rcases(right_pol (plR_parts h.ok).1).1 with e | e;exact e;exact absurd e hpo
      have z:=hx0 _ hy
      have z':=hx0' x hx
      unfold pln.erX at z z'
      rw[if_neg (by rintro(e | e);rw[hyt] at e;cases e;exact hpo e)] at z
      rw[if_neg (by rintro(e | e);rw[hxt] at e;cases e;rw[h.po] at e;exact hpo e)] at z'
      have hf:(fixV s' (rkV s' L') (ceV s' L') (apS (c:Int) (rkV s' L')) c x).1≤(fixV s (rkV s L) (ceV s L) (apS (c:Int) (rkV s L)) c y2).1:=by
       rcases h.fix hl hpo1 (show c<s.co.toNat by omega) hy hs0 hyt z with e | ⟨_,e⟩
       ·rw[z'] at e;cases e
       ·exact e
      have hkl:=(List.getElem?_eq_some_iff.1 g5).1
      rw[g1] at g3 g4
      have r1:(rkV s' L').getD y2.i []=rkL s' L' y2.i l:=by simp[List.getD,rkV_at (s:=s') g3]
      have r2:(rkV s L).getD y2.i []=rkL s L y2.i l:=by simp[List.getD,rkV_at (s:=s) g4]
      have q1:=sumB_rk s L' y2.i l s' h.la x.k (by omega)
      have q2:=sumB_rk s L y2.i l s rfl y2.k (by omega)
      rw[r1,r2,q1,q2,g2]
      omega
    ·obtain⟨j,hj⟩:=List.mem_iff_getElem?.1 hy
     have:=ha j y (List.getElem?_eq_some_iff.1 hj).1 hj hyi
     rw[hyt] at this;cases this
   ·rcases v with⟨y,hy,hyi,hyt,e⟩ | ⟨_,e⟩
    ·obtain⟨l,x,t,e1,e2,e3,e4,e5,e6,e7,_⟩:=rk_ap hl h.ok hy
     rw[hyi] at e1
     have e1':L'[k]? = some l:=by rw[hk];exact e1
     have hv':=rkV_at (s:=s') e1'
     have hp':(rkL s' L' k l)[y.k]? = some (rkP s' L' k x):=by unfold rkL;rw[List.getElem?_map,e2];rfl
     have hin:=apS_in (c:=(c:Int)) hv' hp' (by show x.co=(c:Int);rw[e4] at e7;exact e7)
     obtain⟨j,hj⟩:=List.mem_iff_getElem?.1 hin
     have:=ha' j _ (List.getElem?_eq_some_iff.1 hj).1 hj rfl
     have hxt:x.ti=false:=by rw[e4] at hyt;exact hyt
     rw[show (rkP s' L' k x).ti=x.ti from rfl,hxt] at this
     cases this
    ·rw[e',e];exact i3 hk
theorem RelA.chk {s s':Sys} {L L':List (List Pc)} (h:RelA s s' L L') {w:Go.World} {A:Option Go.Addr} {N:Nat} (hl:RPl w A N L) (h0:(chkV s L).2.2=0) :
  (chkV s' L').2.2=11∨((chkV s' L').2.2=0∧(chkV s' L').1.length=L.length∧(chkV s L).1.length=L.length∧∀ k,k<L.length→(L'[k]? = some []→(chkV s' L').1.getD k 0=0)∧(chkV s' L').1.getD k 0≤(chkV s L).1.getD k 0):=by
 have hN:(pln.erN s (rkV s L) (ceV s L) s.co.toNat).2=0:=by
  apply Classical.byContradiction
  intro hne
  unfold chkV at h0
  rw[h.ok,if_pos rfl,if_pos hne] at h0
  exact hne h0
 have e1:chkV s L=((List.range L.length).map (bdC s (rkV s L) (ceV s L) s.co.toNat), -1,0):=by
  unfold chkV;rw[h.ok,if_pos rfl,if_neg (by rw[hN];simp)]
 rcases h.erN hl hN with e | e
 ·right
  have e2:chkV s' L'=((List.range L'.length).map (bdC s' (rkV s' L') (ceV s' L') s'.co.toNat), -1,0):=by
   unfold chkV;rw[h.ok',if_pos rfl,if_neg (by rw[e];simp)]
  rw[e1,e2,h.co,h.len]
  rw[h.co] at e
  refine⟨rfl,by simp,by simp,fun k hk=>?_⟩
  obtain⟨q1,q2,q3⟩:=h.bd hl hN e k s.co.toNat (Nat.le_refl _)
  have g1:((List.range L.length).map (bdC s (rkV s L) (ceV s L) s.co.toNat)).getD k 0=bdC s (rkV s L) (ceV s L) s.co.toNat k:=by simp[List.getD,hk]
  have g2:((List.range L.length).map (bdC s' (rkV s' L') (ceV s' L') s.co.toNat)).getD k 0=bdC s' (rkV s' L') (ceV s' L') s.co.toNat k:=by simp[List.getD,hk]
  dsimp only
  rw[g1,g2]
  refine⟨q2,?_⟩
  obtain⟨l',hl'⟩:∃ l,L'[k]? = some l:=⟨_,List.getElem?_eq_getElem (by rw[h.len];exact hk)⟩
  rcases h.at_ k l' hl' with rfl | e3
  ·rw[q2 hl'];exact q1
  ·exact q3 (by rw[hl',e3])
 ·left
  unfold chkV
  rw[h.ok',if_pos rfl,if_pos (by rw[e];simp)]
  exact e
end Go.Proofs.YtjfaiaipojfhgaaGreat.pln
end
section
namespace Go.Proofs.YtjfaiaipojfhgaaGreat.pln
open val ter
theorem getD_setL (L:List (List Pc)) (i j:Nat):(L.set i []).getD j []=if j=i then [] else L.getD j []:=by
 simp only[List.getD,List.getElem?_set]
 by_cases e:i=j
 ·subst e
  by_cases h:i<L.length
  ·simp[h]
  ·simp[h]
 ·rw[if_neg e,if_neg (fun h=>e h.symm)]
theorem okL_nil (s:Sys) (t:Tsk):okL s t []=true:=by simp[okL,okN]
theorem tN_less (L:List (List Pc)) (i:Nat) (c:Int):∀ n,0≤tN (L.set i []) c n∧tN (L.set i []) c n≤tN L c n
 | 0=>⟨Int.le_refl 0,Int.le_refl 0⟩
 | n+1=>by
  have ih:=tN_less L i c n
  have h1:=(tL_bd c (L.getD n []) (L.getD n []).length).1
  rw[tN,tN,getD_setL]
  by_cases e:n=i
  ·rw[if_pos e]
   show 0≤tN (L.set i []) c n+0∧tN (L.set i []) c n+0≤_
   omega
  ·rw[if_neg e];omega
theorem uN_less (s:Sys) (L:List (List Pc)) (i:Nat) (c:Int):∀ n,uN s (L.set i []) c n≤uN s L c n
 | 0=>Int.le_refl 0
 | n+1=>by
  have ih:=uN_less s L i c n
  have h1:=(uL_bd c (L.getD n []) (L.getD n []).length).1
  rw[uN,uN,getD_setL]
  by_cases e:n=i
  ·rw[if_pos e]
   have h2:uL c ([]:List Pc) ([]:List Pc).length=0:=rfl
   rw[h2]
   split <;> omega
  ·rw[if_neg e];omega
theorem okS_less (s:Sys) (L:List (List Pc)) (i:Nat):∀ n,okS s L n=true→okS s (L.set i []) n=true
 | 0,_=>rfl
 | n+1,h=>by
  rw[okS,Bool.and_eq_true] at h
  rw[okS,Bool.and_eq_true,getD_setL]
  refine⟨okS_less s L i n h.1,?_⟩
  split
  ·exact okL_nil _ _
  ·exact h.2
theorem okC_less (s:Sys) (L:List (List Pc)) (i:Nat):∀ n,okC s L n=true→okC s (L.set i []) n=true
 | 0,_=>rfl
 | n+1,h=>by
  rw[okC,Bool.and_eq_true] at h
  rw[okC,Bool.and_eq_true]
  refine⟨okC_less s L i n h.1,?_⟩
  have h2:=h.2
  have a:=tN_less L i (n:Int) L.length
  have b:=uN_less s L i (n:Int) L.length
  rw[List.length_set]
  simp only[Bool.not_eq_true',Bool.or_eq_false_iff,Bool.and_eq_false_iff,decide_eq_false_iff_not] at h2 ⊢
  refine⟨by omega,?_⟩
  rcases h2.2 with h3 | h3
  ·left;omega
  ·right;omega
theorem rel_less {s:Sys} {L:List (List Pc)} (h:plR s L=true) (i:Nat):RelA s s L (L.set i []):=by
 have h0:=h
 obtain⟨h1,h2,h3⟩:=plR_parts h
 have h4:okC s L s.co.toNat=true:=by
  unfold plR at h
  simp only[Bool.and_eq_true] at h
  exact h.2.2.2
 have hc:=right_costs h1
 refine⟨h0,?_,rfl,rfl,rfl,rfl,rfl,rfl,⟨hc.1.1,Int.le_refl _⟩,⟨hc.2.1.1,Int.le_refl _⟩,⟨hc.2.2.1,Int.le_refl _⟩,by rw[List.length_set],fun j l hj=>?_⟩
 ·unfold plR
  rw[h1,List.length_set,okS_less s L i _ h3,okC_less s L i _ h4]
  simp[h2]
 ·rw[List.getElem?_set] at hj
  split at hj
  ·split at hj
   ·left;cases hj;rfl
   ·cases hj
  ·exact .inr hj
def noCosts (s:Sys):Sys:={ s with re:=0,sw:=0,fi:=0 }
theorem okN_costs (s:Sys) (t:Tsk) (l:List Pc):∀ n,okN (noCosts s) t l n=okN s t l n
 | 0=>rfl
 | n+1=>by rw[okN,okN,okN_costs s t l n];rfl
theorem okL_costs (s:Sys) (t:Tsk) (l:List Pc):okL (noCosts s) t l=okL s t l:=by
 unfold okL
 rw[okN_costs]
theorem okS_costs (s:Sys) (L:List (List Pc)):∀ n,okS (noCosts s) L n=okS s L n
 | 0=>rfl
 | n+1=>by rw[okS,okS,okS_costs s L n,okL_costs];rfl
theorem uN_costs (s:Sys) (L:List (List Pc)) (c:Int):∀ n,uN (noCosts s) L c n=uN s L c n
 | 0=>rfl
 | n+1=>by rw[uN,uN,uN_costs s L c n];rfl
theorem okC_costs (s:Sys) (L:List (List Pc)):∀ n,okC (noCosts s) L n=okC s L n
 | 0=>rfl
 | n+1=>by rw[okC,okC,okC_costs s L n,uN_costs]
theorem right_costs0 {s:Sys} (h:right s=true):right (noCosts s)=true:=by
 obtain⟨h1,h2⟩:=right_parts h
 refine right_of ?_ h2
 unfold vWhole at h1 ⊢
 simp only[Bool.and_eq_true] at h1 ⊢
 exact⟨h1.1,h1.2.1,h1.2.2.1,h1.2.2.2.1,(by decide:wi 0 0 50=true),(by decide:wi 0 0 50=true),(by decide:wi 0 0 50=true),h1.2.2.2.2.2.2.2⟩
theorem rel_costs {s:Sys} {L:List (List Pc)} (h:plR s L=true):RelA s (noCosts s) L L:=by
 have h0:=h
 obtain⟨h1,h2,h3⟩:=plR_parts h
 have h4:okC s L s.co.toNat=true:=by
  unfold plR at h
  simp only[Bool.and_eq_true] at h
  exact h.2.2.2
 have hc:=right_costs h1
 refine⟨h0,?_,rfl,rfl,rfl,rfl,rfl,rfl,⟨Int.le_refl 0,hc.1.1⟩,⟨Int.le_refl 0,hc.2.1.1⟩,⟨Int.le_refl 0,hc.2.2.1⟩,rfl,fun j l hj=>.inr hj⟩
 unfold plR
 rw[right_costs0 h1,okS_costs,h3,okC_costs]
 simp[h2,show (noCosts s).ts=s.ts from rfl,show (noCosts s).co=s.co from rfl,h4]
theorem lfN_sum (s:Sys) (d:Int) (l:List Pc):∀ k,lfN s.la d l k=d-sumB s l k
 | 0=>by rw[lfN,sumB];omega
 | k+1=>by rw[lfN,sumB,lfN_sum s d l k];omega
theorem okL_de {s:Sys} {t:Tsk} {l:List Pc} {k:Nat} {x:Pc} (h:okL s t l=true) (hx:l[k]? = some x) (ht:x.ti=false):x.de=t.d-sumB s l k∧1≤x.de:=by
 have h1:=okL_piece h hx
 unfold badP bad3 at h1
 rw[ht] at h1
 simp only[Bool.or_eq_false_iff,Bool.false_and,Bool.not_false,Bool.true_and,Bool.not_eq_false',decide_eq_true_eq,decide_eq_false_iff_not] at h1
 have h2:=lfN_sum s t.d l k
 have h3:=h1.2.2.2
 omega
theorem bnd_dead {s:Sys} {L:List (List Pc)} {w:Go.World} {A:Option Go.Addr} {N:Nat} (hl:RPl w A N L) (h:plR s L=true) (h0:(erN s (rkV s L) (ceV s L) s.co.toNat).2=0) {k:Nat} {t:Tsk} (ht:s.ts[k]? = some t):∀ c,c≤s.co.toNat→bdC s (rkV s L) (ceV s L) c k≤t.d
 | 0,_=>by have:=((right_nums (plR_parts h).1).2.2.2 t (List.mem_of_getElem? ht)).2;rw[bdC];show (0:Int)≤t.d;omega
 | c+1,hc=>by
  have ih:=bnd_dead hl h h0 ht c (by omega)
  obtain⟨hE,hJ⟩:=erC_parts (erN_zero h0 (show c<s.co.toNat by omega))
  rw[bdC]
  rcases bdJ_val (s:=s) (R:=rkV s L) (Z:=ceV s L) (l:=apS (c:Int) (rkV s L)) (c:=c) (f:=bdC s (rkV s L) (ceV s L) c) k _ (Nat.le_refl _)with⟨y,hy,hyi,hyt,e⟩ | ⟨_,e⟩
  ·rw[e]
   obtain⟨l,x,t',e1,e2,e3,e4,e5,e6,e7,_⟩:=rk_ap hl h hy
   rw[hyi,ht] at e3
   cases e3
   unfold bndX
   by_cases hpo:s.po=2
   ·rw[if_pos hpo,hyi,getT ht];exact Int.le_refl _
   ·rw[if_neg hpo]
    obtain⟨j,hj⟩:=List.mem_iff_getElem?.1 hy
    have z:=erJ_zero hJ hj
    unfold erX at z
    rw[if_neg (by rintro(e | e);rw[hyt] at e;cases e;exact hpo e)] at z
    have b:=rsp.bn_ok z
    have hxt:x.ti=false:=by rw[e4] at hyt;exact hyt
    have ho:=okS_at (plR_parts h).2.2 e1
    rw[hyi,getT ht] at ho
    obtain⟨d1,d2⟩:=okL_de ho e2 hxt
    have hde:y.p.de=x.de:=by rw[e4];rfl
    have hk:=(List.getElem?_eq_some_iff.1 e2).1
    have q:=sumB_rk s L y.i l s rfl y.k (by omega)
    have hg:(rkV s L).getD y.i []=rkL s L y.i l:=by simp[List.getD,e5]
    rw[hg,q]
    have b5:=b.2.2.2.2.1
    have b1:=b.2.1
    unfold fixV
    rw[hde] at b5 b1 ⊢
    rcases b5 with b5 | b5 <;> omega
  ·rw[e];exact ih
end Go.Proofs.YtjfaiaipojfhgaaGreat.pln
end
section
namespace Go.Proofs.YtjfaiaipojfhgaaGreat.pln
open val ter
def ups (l m:List Pc):Prop:=l.length=m.length∧∀ (k:Nat) (x y:Pc),l[k]? = some x→m[k]? = some y→zp x=zp y
theorem ups_rk (s:Sys) (L:List (List Pc)) (i:Nat) (l:List Pc):ups (rkL s L i l) l:=by
 refine⟨by unfold rkL;rw[List.length_map],fun k x y hx hy=>?_⟩
 obtain⟨x',h1,rfl⟩:=rkL_at hx
 rw[hy] at h1
 cases h1
 rfl
theorem zp_get {l m:List Pc} (h:ups l m) (k:Nat):zp (l.getD k pc0)=zp (m.getD k pc0):=by
 by_cases hk:k<l.length
 ·have h1:l[k]? = some l[k]:=List.getElem?_eq_getElem hk
  have hk2:k<m.length:=by rw[←h.1];exact hk
  have h2:m[k]? = some m[k]:=List.getElem?_eq_getElem hk2
  rw[getD_some h1,getD_some h2]
  exact h.2 k _ _ h1 h2
 ·have hk2:¬k<m.length:=by rw[←h.1];exact hk
  simp[List.getD,hk,hk2]
theorem zp_co {x y:Pc} (h:zp x=zp y):x.co=y.co∧x.bu=y.bu∧x.de=y.de∧x.ti=y.ti:=by
 unfold zp at h
 simp only[Pc.mk.injEq] at h
 exact⟨h.1,h.2.1,h.2.2.1,h.2.2.2.2⟩
theorem smN_ups {l m:List Pc} (h:ups l m):∀ k,smN l k=smN m k
 | 0=>rfl
 | k+1=>by rw[smN,smN,smN_ups h k,(zp_co (zp_get h k)).2.1]
theorem rk_ups (s:Sys) (L:List (List Pc)) (i:Nat):ups ((rkV s L).getD i []) (L.getD i []):=by
 cases h:L[i]? with
 | none =>
  have h1:(rkV s L)[i]? = none:=by rw[List.getElem?_eq_none_iff] at h ⊢;rw[rkV_len];exact h
  simp only[List.getD,h,h1]
  exact⟨rfl,fun k x y hx=>by cases hx⟩
 | some l =>
  have h1:=rkV_at (s:=s) h
  simp only[List.getD,h,h1]
  exact ups_rk s L i l
end Go.Proofs.YtjfaiaipojfhgaaGreat.pln
end
section
namespace Go.Proofs.YtjfaiaipojfhgaaGreat.pln
open Go.ChangeShapes Go.WideShapes Go.ChangeAt Go.RowKit Go.Deep val
def bS (ts:List Tsk):Sys:=⟨2,1,1,0,0,0,1,0,ts⟩
set_option maxRecDepth 100000 in
set_option maxHeartbeats 2000000 in
theorem base_any (ts:List Tsk) (A:Option Addr) (n c:Nat) (w:World):Calls Tryz.prog 25 #[.slice A n c] w fun e w'=>e=.returned (sysV (bS ts) A n c)∧But No w w':=by
 go_enter Tryz.func25,Tryz.ntmps25
 go_wp2_with fail
 have h0:=Blk.new w (boxS (bS ts) A n c) 24
 have hb:=(But.refl No w).alloc (.cells (boxS (bS ts) A n c) 24)
 obtain⟨c0,c1,c2,c3,c4,c5,c6,c7,c8⟩:=sys_cells h0
 unfold boxS at hb c0 c1 c2 c3 c4 c5 c6 c7 c8
 simp only[bS] at hb c0 c1 c2 c3 c4 c5 c6 c7 c8
 refine bodyPost_ret (v:=sysV (bS ts) A n c) (by simp[results,Tryz.results25,go_sem,c0,c1,c2,c3,c4,c5,c6,c7,c8,sysV,bS]) rfl ?_
 exact⟨rfl,hb⟩
theorem ts1 {w:World} {b y:Nat} {p d x:Int} (h:Blk w b #[.int .i64 p,.int .i64 d,.int .i64 x,.slice none 0 0] y) (hx:inR p∧inR d∧inR x):RTsk w (some ⟨b,0,none⟩) 1 [⟨p,d,x, []⟩] :=
 ⟨rfl,by omega,fun _=>⟨b,0,rfl,h.lt,fun k u hu=>by
  have hk:k<1:=(List.getElem?_eq_some_iff.1 hu).1
  obtain rfl:k=0:=by omega
  have e:(⟨p,d,x, []⟩:Tsk)=u:=by simpa using hu
  subst e
  exact⟨h.cell rfl,h.cell rfl,h.cell rfl,none,0,h.cell rfl,Nat.le_refl 0,⟨rfl,by simp,fun h=>absurd h (by simp),by simp⟩⟩⟩,fun u hu=>by
  have e:u=⟨p,d,x, []⟩:=by simpa using hu
  subst e
  exact hx⟩
theorem ts2 {w:World} {b y:Nat} {p d x q e z:Int} (h:Blk w b #[.int .i64 p,.int .i64 d,.int .i64 x,.slice none 0 0,.int .i64 q,.int .i64 e,.int .i64 z,.slice none 0 0] y) (hx:inR p∧inR d∧inR x) (hz:inR q∧inR e∧inR z):RTsk w (some ⟨b,0,none⟩) 2 [⟨p,d,x, []⟩,⟨q,e,z, []⟩] :=
 ⟨rfl,by omega,fun _=>⟨b,0,rfl,h.lt,fun k u hu=>by
  have hk:k<2:=(List.getElem?_eq_some_iff.1 hu).1
  have:k=0∨k=1:=by omega
  rcases this with rfl | rfl
  ·have e:(⟨p,d,x, []⟩:Tsk)=u:=by simpa using hu
   subst e
   exact⟨h.cell rfl,h.cell rfl,h.cell rfl,none,0,h.cell rfl,Nat.le_refl 0,⟨rfl,by simp,fun h=>absurd h (by simp),by simp⟩⟩
  ·have e:(⟨q,e,z, []⟩:Tsk)=u:=by simpa using hu
   subst e
   exact⟨h.cell rfl,h.cell rfl,h.cell rfl,none,0,h.cell rfl,Nat.le_refl 0,⟨rfl,by simp,fun h=>absurd h (by simp),by simp⟩⟩⟩,fun u hu=>by
  rcases(show u=⟨p,d,x, []⟩∨u=⟨q,e,z, []⟩ by simpa using hu)with rfl | rfl
  ·exact hx
  ·exact hz⟩
theorem bs_sys {w:World} {A:Option Addr} {n:Nat} {ts:List Tsk} (h:RTsk w A n ts):RSys w A n n (bS ts) :=
 ⟨Nat.le_refl n,h,by simp only[bS];exact⟨inR_small (by omega),inR_small (by omega),inR_small (by omega),inR_small (by omega),inR_small (by omega),inR_small (by omega),inR_small (by omega),inR_small (by omega)⟩⟩
theorem pcs1 {w:World} {b y:Nat} {x:Pc} (h:Blk w b #[.int .i64 x.co,.int .i64 x.bu,.int .i64 x.de,.int .i64 x.pr,.bool x.ti] y) (hx:inR x.co∧inR x.bu∧inR x.de∧inR x.pr):RPc w (some ⟨b,0,none⟩) 1 [x] :=
 ⟨rfl,by omega,fun _=>⟨b,0,rfl,h.lt,fun k u hu=>by
  have hk:k<1:=(List.getElem?_eq_some_iff.1 hu).1
  obtain rfl:k=0:=by omega
  have e:x=u:=by simpa using hu
  subst e
  exact⟨h.cell rfl,h.cell rfl,h.cell rfl,h.cell rfl,h.cell rfl⟩⟩,fun u hu=>by
  obtain rfl:u=x:=by simpa using hu
  exact hx⟩
theorem pcs2 {w:World} {b y:Nat} {x z:Pc} (h:Blk w b #[.int .i64 x.co,.int .i64 x.bu,.int .i64 x.de,.int .i64 x.pr,.bool x.ti,.int .i64 z.co,.int .i64 z.bu,.int .i64 z.de,.int .i64 z.pr,.bool z.ti] y) (hx:inR x.co∧inR x.bu∧inR x.de∧inR x.pr) (hz:inR z.co∧inR z.bu∧inR z.de∧inR z.pr):RPc w (some ⟨b,0,none⟩) 2 [x,z] :=
 ⟨rfl,by omega,fun _=>⟨b,0,rfl,h.lt,fun k u hu=>by
  have hk:k<2:=(List.getElem?_eq_some_iff.1 hu).1
  have:k=0∨k=1:=by omega
  rcases this with rfl | rfl
  ·have e:x=u:=by simpa using hu
   subst e
   exact⟨h.cell rfl,h.cell rfl,h.cell rfl,h.cell rfl,h.cell rfl⟩
  ·have e:z=u:=by simpa using hu
   subst e
   exact⟨h.cell rfl,h.cell rfl,h.cell rfl,h.cell rfl,h.cell rfl⟩⟩,fun u hu=>by
  rcases(show u=x∨u=z by simpa using hu)with rfl | rfl
  ·exact hx
  ·exact hz⟩
theorem pl1 {w:World} {b y:Nat} {A:Option Addr} {c:Nat} {l:List Pc} (h:Blk w b #[.slice A l.length c] y) (hc:l.length≤c) (hl:RPc w A l.length l):RPl w (some ⟨b,0,none⟩) 1 [l] :=
 ⟨rfl,by omega,fun _=>⟨b,0,rfl,h.lt,fun k u hu=>by
  have hk:k<1:=(List.getElem?_eq_some_iff.1 hu).1
  obtain rfl:k=0:=by omega
  have e:l=u:=by simpa using hu
  subst e
  exact⟨A,c,h.cell rfl,hc,hl⟩⟩⟩
theorem pl2 {w:World} {b y:Nat} {A B:Option Addr} {c d:Nat} {l m:List Pc} (h:Blk w b #[.slice A l.length c,.slice B m.length d] y) (hc:l.length≤c) (hd:m.length≤d) (hl:RPc w A l.length l) (hm:RPc w B m.length m):RPl w (some ⟨b,0,none⟩) 2 [l,m] :=
 ⟨rfl,by omega,fun _=>⟨b,0,rfl,h.lt,fun k u hu=>by
  have hk:k<2:=(List.getElem?_eq_some_iff.1 hu).1
  have:k=0∨k=1:=by omega
  rcases this with rfl | rfl
  ·have e:l=u:=by simpa using hu
   subst e
   exact⟨A,c,h.cell rfl,hc,hl⟩
  ·have e:m=u:=by simpa using hu
   subst e
   exact⟨B,d,h.cell rfl,hd,hm⟩⟩⟩
theorem x1 : chkV (bS [⟨10,10,3, []⟩,⟨5,5,2, []⟩]) [[⟨0,3,10,0,false⟩], [⟨0,2,5,0,false⟩]]=([5,2], -1,0):=by kernel_rfl
theorem x2 : (chkV (bS [⟨10,10,8, []⟩]) [[⟨0,5,5,0,true⟩,⟨1,3,5,0,false⟩]]).1 = [8]∧(chkV (bS [⟨10,10,8, []⟩]) [[⟨0,5,5,0,true⟩,⟨1,3,5,0,false⟩]]).2.2=0:=⟨by kernel_rfl,by kernel_rfl⟩
theorem x3 : (chkV (bS [⟨10,10,8, []⟩,⟨5,5,2, []⟩]) [[⟨0,8,10,0,false⟩], [⟨0,2,5,0,false⟩]]).2=(0,12):=by kernel_rfl
end Go.Proofs.YtjfaiaipojfhgaaGreat.pln
end
