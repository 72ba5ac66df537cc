/- Part 37 of a proof: PaM3 PaM4 PaM5 PaM6. -/
import Derived.Test.YtikcigjbhohboaaGreatM36
section
namespace Go.Proofs.YtikcigjbhohboaaGreat.pln
set_option linter.unusedVariables false
set_option linter.unusedSimpArgs false
open Go.ChangeShapes Go.WideShapes Go.ChangeAt Go.RowKit Go.Deep val
theorem vOk_all {s:Sys} {P:List Pt}:vOk s P P.length=true ↔ ∀ p x,P[p]? = some x→okB s (P.take p) x=true:=by
 constructor
 ·intro h p x hx
  exact vOk_at h (List.getElem?_eq_some_iff.1 hx).1 hx
 ·intro h
  have key:∀ q,q≤P.length→vOk s P q=true:=by
   intro q
   induction q with
   | zero=>intro _;rfl
   | succ q ih =>
    intro hq
    have hx:P[q]? = some (P[q]'(by omega)):=List.getElem?_eq_getElem (by omega)
    rw[vOk_next hx,ih (by omega),h _ _ hx];rfl
  exact key _ (Nat.le_refl _)
theorem okS_all {s:Sys} {L:List (List Pc)}:okS s L L.length=true ↔ ∀ i l,L[i]? = some l→okL s (s.ts.getD i ts0) l=true:=by
 constructor
 ·intro h i l hl;exact okS_at h hl
 ·intro h
  have key:∀ q,q≤L.length→okS s L q=true:=by
   intro q
   induction q with
   | zero=>intro _;rfl
   | succ q ih =>
    intro hq
    have hx:L[q]? = some (L[q]'(by omega)):=List.getElem?_eq_getElem (by omega)
    rw[okS,ih (by omega),getL hx,h _ _ hx];rfl
  exact key _ (Nat.le_refl _)
theorem taken_iff {lt:Int} {L:List (List Pc)} {i k:Nat} {l:List Pc} {c:Int} (hl:L[i]? = some l) (hk:k≤l.length):(mpF ((vis lt L).take (offN L i+k)) c (i:Int)).isSome=true ↔ ∃ j y,j<k∧l[j]? = some y∧y.co=c:=by
 constructor
 ·intro h
  obtain⟨x,hx⟩:=Option.isSome_iff_exists.1 h
  obtain⟨z,hz,_,h1,h2⟩:=mpF_some hx
  obtain⟨p,hp,hpz⟩:=mem_take.1 hz
  obtain⟨i',l',j,y,g1,g2,g3,g4⟩:=vis_inv hpz
  have hi:i'=i:=by rw[g4] at h2;have h3:(i':Int)=(i:Int):=h2;omega
  subst hi
  rw[hl] at g1;cases g1
  exact⟨j,y,by omega,g2,by rw[g4] at h1;exact h1⟩
 ·rintro⟨j,y,hj,hy,rfl⟩
  have hv:=vis_at (lt:=lt) hl hy
  exact mpF_hit (y:=mkP lt i l j y) (mem_take.2 ⟨_,by omega,hv⟩)
theorem tsk_nums {s:Sys} (hr:right s=true) {L:List (List Pc)} (hL:L.length=s.ts.length) {i:Nat} {l:List Pc} (hl:L[i]? = some l):(1≤(s.ts.getD i ts0).w∧(s.ts.getD i ts0).w≤1099511627776)∧1≤(s.ts.getD i ts0).d∧(s.ts.getD i ts0).d≤1099511627776:=by
 have hi:i<s.ts.length:=by rw[←hL];exact(List.getElem?_eq_some_iff.1 hl).1
 have:s.ts.getD i ts0=s.ts[i]:=by simp[List.getD,List.getElem?_eq_getElem hi]
 rw[this]
 exact(right_nums hr).2.2.2 _ (List.getElem_mem hi)
theorem okL_dn {s:Sys} {t:Tsk} {l:List Pc} (h:okL s t l=true) (hw:1≤t.w∧t.w≤1099511627776) {k:Nat} (hk:k≤l.length):dnW l k=smN l k∧0≤smN l k∧smN l k≤1099511627776:=by
 obtain⟨_,_,h3,_⟩:=okL_sm h hw.1
 have:=h3 k hk
 exact⟨dn_sm hw.2 k hk (fun j hj=>h3 j (by omega)),this.1,by omega⟩
theorem vOk_iff {s:Sys} {L:List (List Pc)} (hr:right s=true) (hL:L.length=s.ts.length):vOk s (vis (wrp (s.la-1)) L) (vis (wrp (s.la-1)) L).length=okS s L L.length:=by
 have hla:=(right_nums hr).2.1
 rw[Bool.eq_iff_iff,vOk_all,okS_all]
 constructor
 ·intro h i l hl
  obtain⟨hw,hd⟩:=tsk_nums hr hL hl
  have hq:∀ k x,l[k]? = some x→rgV s (s.ts.getD i ts0) (mkP (wrp (s.la-1)) i l k x)=true∧∀ j y,j<k→l[j]? = some y→y.co≠x.co:=fun k x hx=>by
   have h1:=h _ _ (vis_at (lt:=wrp (s.la-1)) hl hx)
   unfold okB at h1
   rw[Bool.and_eq_true] at h1
   refine⟨h1.2,fun j y hj hy e=>?_⟩
   have h2:=(taken_iff (lt:=wrp (s.la-1)) (c:=x.co) hl (Nat.le_of_lt (List.getElem?_eq_some_iff.1 hx).1)).2 ⟨j,y,hj,hy,e⟩
   have h3:(mkP (wrp (s.la-1)) i l k x).p.co=x.co:=rfl
   have h4:(mkP (wrp (s.la-1)) i l k x).i=i:=rfl
   rw[h3,h4,h2] at h1
   simp at h1
  have hsm:∀ k,k≤l.length→∀ j,j≤k→0≤smN l j∧smN l j≤(s.ts.getD i ts0).w:=by
   intro k
   induction k with
   | zero =>
      intro _ j hj
      obtain rfl:j=0:=by omega
      exact⟨Int.le_refl _,by show (0:Int)≤_;omega⟩
   | succ k ih =>
    intro hk j hj
    have ihk:=ih (by omega)
    by_cases e:j≤k
    ·exact ihk j e
    ·obtain rfl:j=k+1:=by omega
     have hx:l[k]? = some (l[k]'(by omega)):=List.getElem?_eq_getElem (by omega)
     have hk2:=ihk k (Nat.le_refl _)
     have hg:=(rg_iff hla hw hd ⟨dn_sm hw.2 k (by omega) ihk,hk2.1,by omega⟩).1 (hq k _ hx).1
     obtain⟨_,_,g3,g4,g5⟩:=hg
     rw[smN_next hx]
     cases ht:l[k].ti with
     | true=>have:=g4 ht;omega
     | false=>have:=g5 ht;omega
  refine rg_okL hw.1 (fun k x hx=>?_)
  have hk:k≤l.length:=Nat.le_of_lt (List.getElem?_eq_some_iff.1 hx).1
  have hk2:=hsm k hk k (Nat.le_refl _)
  exact⟨(rg_iff hla hw hd ⟨dn_sm hw.2 k hk (hsm k hk),hk2.1,by omega⟩).1 (hq k x hx).1,(hq k x hx).2⟩
 ·intro h p x hx
  obtain⟨i,l,k,y,h1,h2,rfl,rfl⟩:=vis_inv hx
  obtain⟨hw,hd⟩:=tsk_nums hr hL h1
  have hok:=h i l h1
  have hk:k≤l.length:=Nat.le_of_lt (List.getElem?_eq_some_iff.1 h2).1
  obtain⟨hg,hdis⟩:=okL_rg hok hw.1 h2
  unfold okB
  rw[Bool.and_eq_true]
  refine⟨?_,(rg_iff hla hw hd (okL_dn hok hw hk)).2 hg⟩
  rw[Bool.not_eq_true']
  cases e:(mpF ((vis (wrp (s.la-1)) L).take (offN L i+k)) (mkP (wrp (s.la-1)) i l k y).p.co ((mkP (wrp (s.la-1)) i l k y).i:Int)).isSome with
  | false=>rfl
  | true =>
   obtain⟨j,z,g1,g2,g3⟩:=(taken_iff (c:=y.co) h1 hk).1 e
   exact absurd g3 (hdis j z g1 g2)
def ptOf (s:Sys) (L:List (List Pc)) (y:Ap):Pt:=⟨y.p,y.i,y.k,decide (y.k+1=(L.getD y.i []).length),smN (L.getD y.i []) y.k,(y.k:Int)*(s.la-1)⟩
theorem mkP_is {s:Sys} {L:List (List Pc)} (hr:right s=true) (hL:L.length=s.ts.length) (hok:okS s L L.length=true) {i k:Nat} {l:List Pc} {x:Pc} (hl:L[i]? = some l) (hx:l[k]? = some x):mkP (wrp (s.la-1)) i l k x=ptOf s L ⟨x,i,k⟩:=by
 have hla:=(right_nums hr).2.1
 obtain⟨hw,hd⟩:=tsk_nums hr hL hl
 have h1:=okS_at hok hl
 have hkl:k<l.length:=(List.getElem?_eq_some_iff.1 hx).1
 have h8:=okL_len h1
 have hlt:wrp (s.la-1)=s.la-1:=wrp_in (by unfold inR;omega)
 have hkz:=small_k (k:=k) (by omega) (show 0≤s.la-1∧s.la-1≤49 by omega)
 unfold mkP ptOf
 dsimp only
 rw[getL hl,(okL_dn h1 hw (Nat.le_of_lt hkl)).1,hlt,wrp_in (a:=(k:Int)*(s.la-1)) (by unfold inR;omega)]
theorem mpF_at {s:Sys} {L:List (List Pc)} (hr:right s=true) (hL:L.length=s.ts.length) (hok:okS s L L.length=true) {c:Int} {i:Nat} {x:Pt}:mpF (vis (wrp (s.la-1)) L) c (i:Int)=some x ↔ ∃ l k y,L[i]? = some l∧l[k]? = some y∧y.co=c∧x=zpP (ptOf s L ⟨y,i,k⟩):=by
 have fwd:∀ x,mpF (vis (wrp (s.la-1)) L) c (i:Int)=some x→∃ l k y,L[i]? = some l∧l[k]? = some y∧y.co=c∧x=zpP (ptOf s L ⟨y,i,k⟩):=fun x h=>by
  obtain⟨z,hz,rfl,h1,h2⟩:=mpF_some h
  obtain⟨i',l,k,y,g1,g2,rfl⟩:=vis_mem hz
  have hi:i'=i:=by have h3:(i':Int)=(i:Int):=h2;omega
  subst hi
  exact⟨l,k,y,g1,g2,h1,by rw[mkP_is hr hL hok g1 g2]⟩
 constructor
 ·exact fwd x
 ·rintro⟨l,k,y,h1,h2,rfl,rfl⟩
  have hm:mkP (wrp (s.la-1)) i l k y ∈ vis (wrp (s.la-1)) L:=List.mem_of_getElem? (vis_at h1 h2)
  obtain⟨x',hx'⟩:=Option.isSome_iff_exists.1 (mpF_hit hm)
  have hx2:mpF (vis (wrp (s.la-1)) L) y.co (i:Int)=some x':=hx'
  obtain⟨l',k',y',g1,g2,g3,g4⟩:=fwd x' hx2
  rw[h1] at g1;cases g1
  have:=okL_core_one (okS_at hok h1) g2 h2 g3
  subst this
  rw[h2] at g2;cases g2
  rw[hx2,g4]
theorem apL_none {c:Int} {i:Nat} {l:List Pc} (h:∀ (k:Nat) (y:Pc),l[k]? = some y→y.co≠c):∀ m,m≤l.length→apL c i l m = []
 | 0,_=>rfl
 | m+1,hm=>by
  have hx:l[m]? = some (l[m]'(by omega)):=List.getElem?_eq_getElem (by omega)
  rw[apL_next hx,apL_none h m (by omega),if_neg (h _ _ hx)];rfl
theorem apL_one {c:Int} {i k:Nat} {l:List Pc} {y:Pc} (hy:l[k]? = some y) (hc:y.co=c) (h:∀ (k':Nat) (z:Pc),l[k']? = some z→z.co=c→k'=k):∀ m,m≤l.length→apL c i l m=if k<m then [⟨y,i,k⟩] else []
 | 0,_=>by rw[if_neg (by omega)];rfl
 | m+1,hm=>by
  have hx:l[m]? = some (l[m]'(by omega)):=List.getElem?_eq_getElem (by omega)
  rw[apL_next hx,apL_one hy hc h m (by omega)]
  by_cases e:l[m].co=c
  ·have:=h _ _ hx e
   subst this
   have e9:y=l[m]:=Option.some.inj (hy.symm.trans hx)
   rw[if_neg (by omega),if_pos e,if_pos (by omega),e9];rfl
  ·rw[if_neg e,List.append_nil]
   have:m≠k:=fun e2=>by subst e2;exact e (by rw[Option.some.inj (hx.symm.trans hy)];exact hc)
   by_cases e3:k<m
   ·rw[if_pos e3,if_pos (by omega)]
   ·rw[if_neg e3,if_neg (by omega)]
theorem on_ap {s:Sys} {L:List (List Pc)} (hr:right s=true) (hL:L.length=s.ts.length) (hok:okS s L L.length=true) (c:Int):∀ n,n≤L.length→onN (mpF (vis (wrp (s.la-1)) L)) c n=(apN c L n).map (fun y=>zpP (ptOf s L y))
 | 0,_=>rfl
 | n+1,hn=>by
  have hl:L[n]? = some (L[n]'(by omega)):=List.getElem?_eq_getElem (by omega)
  rw[onN,on_ap hr hL hok c n (by omega),apN_next hl,List.map_append]
  congr 1
  cases e:mpF (vis (wrp (s.la-1)) L) c (n:Int)with
  | none =>
   rw[apL_none (fun k y hy hc=>by
    have:=(mpF_at hr hL hok (c:=c) (i:=n) (x:=zpP (ptOf s L ⟨y,n,k⟩))).2 ⟨_,k,y,hl,hy,hc,rfl⟩
    rw[e] at this;cases this) _ (Nat.le_refl _)]
   rfl
  | some x =>
   obtain⟨l,k,y,h1,h2,h3,h4⟩:=(mpF_at hr hL hok).1 e
   rw[hl] at h1;cases h1
   rw[apL_one h2 h3 (fun k' z hz hc=>okL_core_one (okS_at hok hl) hz h2 (by rw[hc,h3])) _ (Nat.le_refl _),if_pos (List.getElem?_eq_some_iff.1 h2).1,h4]
   rfl
end Go.Proofs.YtikcigjbhohboaaGreat.pln
end
section
namespace Go.Proofs.YtikcigjbhohboaaGreat.pln
set_option linter.unusedVariables false
set_option linter.unusedSimpArgs false
open Go.ChangeShapes Go.WideShapes Go.ChangeAt Go.RowKit Go.Deep val
theorem tL_ap (c:Int) (i:Nat) (l:List Pc):∀ k,tL c l k=(((apL c i l k).countP fun y=>y.p.ti:Nat):Int)
 | 0=>rfl
 | k+1=>by
  rw[tL,tL_ap c i l k,apL,List.countP_append]
  by_cases hc:(l.getD k pc0).co=c
  ·cases ht:(l.getD k pc0).ti with
   | true =>
    rw[if_pos ⟨rfl,hc⟩,if_pos hc,List.countP_cons_of_pos (by exact ht)];simp
   | false =>
    rw[if_neg (by simp),if_pos hc,List.countP_cons_of_neg (by show ¬(l.getD k pc0).ti=true;rw[ht];simp)];simp
  ·rw[if_neg (fun h=>hc h.2),if_neg hc];simp
theorem tN_ap (c:Int) (L:List (List Pc)):∀ n,tN L c n=(((apN c L n).countP fun y=>y.p.ti:Nat):Int)
 | 0=>rfl
 | n+1=>by rw[tN,tN_ap c L n,tL_ap c n,apN,List.countP_append];simp
theorem uL_ap (c:Int) (i:Nat) (l:List Pc) (g:Nat→Bool):∀ k,(((apL c i l k).countP fun y=>g y.i:Nat):Int)=if g i=true then uL c l k else 0
 | 0=>by simp[apL,uL]
 | k+1=>by
  rw[apL,List.countP_append,uL]
  have ih:=uL_ap c i l g k
  by_cases hc:(l.getD k pc0).co=c
  ·rw[if_pos hc,if_pos hc]
   cases hg:g i with
   | true=>rw[hg,if_pos rfl] at ih;rw[List.countP_cons_of_pos (by exact hg)];simp;omega
   | false=>rw[hg] at ih;rw[List.countP_cons_of_neg (by simp[hg])];simpa using ih
  ·rw[if_neg hc,if_neg hc]
   simpa using ih
theorem uN_ap (s:Sys) (c:Int) (L:List (List Pc)):∀ n,uN s L c n=(((apN c L n).countP fun y=>decide (0<(s.ts.getD y.i ts0).secs.length):Nat):Int)
 | 0=>rfl
 | n+1=>by
  rw[uN,uN_ap s c L n,apN,List.countP_append,Int.natCast_add,uL_ap c n (L.getD n []) (fun i=>decide (0<(s.ts.getD i ts0).secs.length))]
  simp only[decide_eq_true_eq]
theorem fits_is {s:Sys} {L:List (List Pc)} (hr:right s=true) (hL:L.length=s.ts.length) (hok:okS s L L.length=true) (c:Nat):fitsV s (onN (mpF (vis (wrp (s.la-1)) L)) (c:Int) s.ts.length) = !(decide (1<tN L (c:Int) L.length) || (decide (tN L (c:Int) L.length=1) && decide (0<uN s L (c:Int) L.length))):=by
 rw[←hL,on_ap hr hL hok _ _ (Nat.le_refl _),tN_ap,uN_ap]
 unfold fitsV tiC shC
 rw[List.countP_map,List.countP_map]
 have e1:((fun x:Pt=>x.p.ti) ∘ fun y=>zpP (ptOf s L y))=fun y=>y.p.ti:=rfl
 have e2:(shB s ∘ fun y=>zpP (ptOf s L y))=fun y=>decide (0<(s.ts.getD y.i ts0).secs.length):=rfl
 rw[e1,e2]
 generalize (apN (c:Int) L L.length).countP (fun y=>y.p.ti)=T
 generalize (apN (c:Int) L L.length).countP (fun y=>decide (0<(s.ts.getD y.i ts0).secs.length))=U
 rw[Bool.eq_iff_iff]
 simp only[Bool.or_eq_true,Bool.and_eq_true,decide_eq_true_eq,Bool.not_eq_true',Bool.or_eq_false_iff,Bool.and_eq_false_iff,decide_eq_false_iff_not]
 omega
theorem ft_is {s:Sys} {L:List (List Pc)} (hr:right s=true) (hL:L.length=s.ts.length) (hok:okS s L L.length=true):∀ c,ftN s (mpF (vis (wrp (s.la-1)) L)) s.ts.length c=okC s L c
 | 0=>rfl
 | c+1=>by rw[ftN,okC,ft_is hr hL hok c,fits_is hr hL hok c]
theorem lyB_is (s:Sys) (L:List (List Pc)):lyB s L=plR s L:=by
 unfold lyB plR
 cases hr:right s with
 | false=>rfl
 | true =>
  by_cases hL:L.length=s.ts.length
  ·rw[vOk_iff hr hL]
   cases hok:okS s L L.length with
   | false=>simp
   | true=>rw[ft_is hr hL hok]
  ·rw[decide_eq_false hL];simp
def rkA (s:Sys) (L:List (List Pc)) (y:Ap):Ap:=⟨rkP s L y.i y.p,y.i,y.k⟩
theorem apL_map {s:Sys} {L:List (List Pc)} {c:Int} {i:Nat} {l:List Pc}:∀ k,k≤l.length→apL c i (rkL s L i l) k=(apL c i l k).map (rkA s L)
 | 0,_=>rfl
 | k+1,hk=>by
  have hx:l[k]? = some (l[k]'(by omega)):=List.getElem?_eq_getElem (by omega)
  have hx2:(rkL s L i l)[k]? = some (rkP s L i (l[k]'(by omega))):=by unfold rkL;rw[List.getElem?_map,hx];rfl
  rw[apL_next hx,apL_next hx2,apL_map k (by omega),List.map_append]
  by_cases hc:l[k].co=c
  ·rw[if_pos hc,if_pos (show (rkP s L i l[k]).co=c from hc)];rfl
  ·rw[if_neg hc,if_neg (show ¬(rkP s L i l[k]).co=c from hc)];rfl
theorem apN_rk (s:Sys) (L:List (List Pc)) (c:Int):∀ n,n≤L.length→apN c (rkV s L) n=(apN c L n).map (rkA s L)
 | 0,_=>rfl
 | n+1,hn=>by
  have hl:L[n]? = some (L[n]'(by omega)):=List.getElem?_eq_getElem (by omega)
  have hlen:(rkL s L n L[n]).length=L[n].length:=by unfold rkL;rw[List.length_map]
  rw[apN_next hl,apN_next (rkV_at (s:=s) hl),apN_rk s L c n (by omega),List.map_append,hlen,apL_map _ (Nat.le_refl _)]
theorem apS_rk (s:Sys) (L:List (List Pc)) (c:Int):apS c (rkV s L)=(apS c L).map (rkA s L):=by
 unfold apS;rw[rkV_len];exact apN_rk s L c _ (Nat.le_refl _)
theorem apL_fp (c:Int) (i:Nat) (l:List Pc):∀ k,(apL c i l k).map (fun y=>(y.i,y.p))=(fpL i l k).filter (fun z=>decide (z.2.co=c))
 | 0=>rfl
 | k+1=>by
  rw[apL,fpL,List.map_append,List.filter_append,apL_fp c i l k]
  by_cases hc:(l.getD k pc0).co=c
  ·rw[if_pos hc,List.filter_cons_of_pos (by simpa using hc)];rfl
  ·rw[if_neg hc,List.filter_cons_of_neg (by simpa using hc)];rfl
theorem apN_fp (c:Int) (L:List (List Pc)):∀ n,(apN c L n).map (fun y=>(y.i,y.p))=(fpN L n).filter (fun z=>decide (z.2.co=c))
 | 0=>rfl
 | n+1=>by rw[apN,fpN,List.map_append,List.filter_append,apN_fp c L n,apL_fp]
theorem ahead_count {s:Sys} {L:List (List Pc)} (h:plR s L=true) {c:Int} {y:Ap} (hy:y ∈ apS c L):aheadV (y.i:Int) (zp y.p) L=(((apS c L).countP fun z=>!z.p.ti && decide (z.p.de<y.p.de∨z.p.de=y.p.de∧z.i<y.i):Nat):Int):=by
 obtain⟨_,_,hok⟩:=plR_parts h
 obtain⟨l,h1,h2,h3⟩:=apS_mem hy
 rw[ahead_zp]
 unfold aheadV
 rw[aN_count]
 have e:(apS c L).countP (fun z=>!z.p.ti && decide (z.p.de<y.p.de∨z.p.de=y.p.de∧z.i<y.i))=((apS c L).map (fun y=>(y.i,y.p))).countP (fun z=>!z.2.ti && decide (z.2.de<y.p.de∨z.2.de=y.p.de∧z.1<y.i)):=by
  rw[List.countP_map];rfl
 rw[e]
 unfold apS
 rw[apN_fp,List.countP_filter]
 congr 1
 apply List.countP_congr
 intro z hz
 obtain⟨_,lz,j,g1,g2⟩:=(fpN_mem (Nat.le_refl _)).1 hz
 rw[aC_iff]
 simp only[Bool.and_eq_true,Bool.not_eq_true',decide_eq_true_eq]
 unfold Bf
 constructor
 ·rintro⟨a1,a2,a3,a4⟩
  exact⟨⟨a2,a4⟩,by rw[a1,h3]⟩
 ·rintro⟨⟨a1,a2⟩,a3⟩
  refine⟨by rw[a3,h3],a1,fun e=>?_,a2⟩
  rw[e,h1] at g1
  cases g1
  have:=okL_core_one (okS_at hok h1) g2 h2 (by rw[a3,h3])
  rw[this] at g2
  have e9:z.2=y.p:=Option.some.inj (g2.symm.trans h2)
  rw[e9,e] at a2
  omega
theorem ly_on {s:Sys} {L:List (List Pc)} (h:plR s L=true) {c:Nat} (hc:c<s.co.toNat):onN (lyF s L) (c:Int) s.ts.length=(apS (c:Int) (rkV s L)).map (ptOf s L):=by
 obtain⟨hr,hL,hok⟩:=plR_parts h
 have h0:onN (mpF (vis (wrp (s.la-1)) L)) (c:Int) s.ts.length=(apS (c:Int) L).map (fun y=>zpP (ptOf s L y)):=by
  rw[←hL];exact on_ap hr hL hok _ _ (Nat.le_refl _)
 rw[apS_rk,List.map_map]
 unfold lyF
 by_cases hpo:s.po=1
 ·rw[if_pos hpo]
  have h1:=onN_map (F:=mpF (vis (wrp (s.la-1)) L)) (G:=rkM (mpF (vis (wrp (s.la-1)) L)) s.ts.length s.co.toNat) (co:=(c:Int)) (g:=rkO (mpF (vis (wrp (s.la-1)) L)) s.ts.length (c:Int)) (fun i=>by unfold rkM;rw[if_pos (by omega)]) s.ts.length
  rw[h1,h0,List.map_map]
  apply List.map_congr_left
  intro y hy
  show rkO _ _ _ (zpP (ptOf s L y))=ptOf s L (rkA s L y)
  unfold rkO
  have ht:(zpP (ptOf s L y)).p.ti=y.p.ti:=rfl
  rw[ht]
  cases hti:y.p.ti with
  | true =>
   rw[if_pos rfl]
   unfold rkA rkP
   rw[hti]
   unfold zpP zp ptOf
   simp[hti]
  | false =>
   rw[if_neg (by simp)]
   have hcnt:(ntL (mpF (vis (wrp (s.la-1)) L)) (c:Int) s.ts.length).countP (fun z=>decide (z.p.de<(zpP (ptOf s L y)).p.de∨z.p.de=(zpP (ptOf s L y)).p.de∧z.i<(zpP (ptOf s L y)).i))=(apS (c:Int) L).countP (fun z=>!z.p.ti && decide (z.p.de<y.p.de∨z.p.de=y.p.de∧z.i<y.i)):=by
    unfold ntL
    rw[h0,List.countP_filter,List.countP_map]
    apply List.countP_congr
    intro z _
    show ((decide (z.p.de<y.p.de∨z.p.de=y.p.de∧z.i<y.i)) && !z.p.ti)=true ↔ _
    rw[Bool.and_comm]
   rw[hcnt,←ahead_count h hy]
   unfold rkA rkP spP zpP ptOf
   dsimp only
   rw[if_pos ⟨hpo,hti⟩]
   unfold zp
   dsimp only
   rw[hti,Int.add_comm]
 ·rw[if_neg hpo,h0]
  apply List.map_congr_left
  intro y hy
  show zpP (ptOf s L y)=ptOf s L (rkA s L y)
  unfold rkA rkP zpP zp ptOf
  dsimp only
  rw[if_neg (fun e=>hpo e.1)]
theorem mpW_at {P:List Pt} {j:Nat} {v:Int} (h:∀ x ∈ P,whB x=true→x.i=j→x.p.co=v):(mpW P j=v∧∃ x ∈ P,whB x=true∧x.i=j)∨(mpW P j = -1∧∀ x ∈ P,¬(whB x=true∧x.i=j)):=by
 have key:∀ (n:Nat) (P:List Pt),P.length=n→(∀ x ∈ P,whB x=true→x.i=j→x.p.co=v)→(mpW P j=v∧∃ x ∈ P,whB x=true∧x.i=j)∨(mpW P j = -1∧∀ x ∈ P,¬(whB x=true∧x.i=j)):=by
  intro n
  induction n with
  | zero =>
      intro P hP _
      obtain rfl:P = []:=List.eq_nil_of_length_eq_zero hP
      exact .inr ⟨rfl,by simp⟩
  | succ n ih =>
   intro P hP h
   obtain⟨R,z,rfl⟩:∃ R z,P=R ++ [z]:=⟨P.dropLast,P.getLast (by intro e;rw[e] at hP;cases hP),(List.dropLast_concat_getLast _).symm⟩
   have e:mpW (R ++ [z]) j=if whB z=true∧j=z.i then z.p.co else mpW R j:=by rw[mpW_snoc]
   rw[e]
   by_cases hz:whB z=true∧j=z.i
   ·rw[if_pos hz]
    exact .inl ⟨h z (by simp) hz.1 hz.2.symm,z,by simp,hz.1,hz.2.symm⟩
   ·rw[if_neg hz]
    rcases ih R (by simp at hP;omega) (fun x hx=>h x (by simp[hx]))with⟨h1,x,h2,h3⟩ | ⟨h1,h2⟩
    ·exact .inl ⟨h1,x,by simp[h2],h3⟩
    ·refine .inr ⟨h1,fun x hx hh=>?_⟩
     rcases List.mem_append.1 hx with hx | hx
     ·exact h2 x hx hh
     ·rw[List.mem_singleton] at hx;subst hx;exact hz ⟨hh.1,hh.2.symm⟩
 exact key P.length P rfl h
theorem lyW_at {s:Sys} {L:List (List Pc)} {j:Nat} {l:List Pc} (hl:L[j]? = some l):lyW s L j=whO l:=by
 unfold lyW
 have hw:∀ x ∈ vis (wrp (s.la-1)) L,whB x=true→x.i=j→x.p.co=whO l∧(l.length=1∧(l.getD 0 pc0).ti=false):=fun x hx hb hi=>by
  obtain⟨i,l',k,y,h1,h2,rfl⟩:=vis_mem hx
  have hij:i=j:=hi
  subst hij
  rw[hl] at h1;cases h1
  unfold whB mkP at hb
  simp only[Bool.and_eq_true,decide_eq_true_eq,Bool.not_eq_true'] at hb
  obtain⟨b1,b2,b3⟩:=hb
  subst b1
  have h0:l.getD 0 pc0=y:=by simp[List.getD,h2]
  have h4:l.length=1∧(l.getD 0 pc0).ti=false:=⟨b2.symm,by rw[h0];exact b3⟩
  refine⟨?_,h4⟩
  unfold whO
  rw[if_pos h4,h0]
  rfl
 rcases mpW_at (v:=whO l) (fun x hx hb hi=>(hw x hx hb hi).1)with⟨h1,_⟩ | ⟨h1,h2⟩
 ·exact h1
 ·rw[h1]
  unfold whO
  split
  ·next h3 =>
   exfalso
   have hx:l[0]? = some (l[0]'(by omega)):=List.getElem?_eq_getElem (by omega)
   refine h2 (mkP (wrp (s.la-1)) j l 0 l[0]) (List.mem_of_getElem? (vis_at hl hx)) ⟨?_,rfl⟩
   have h0:l.getD 0 pc0=l[0]'(by omega):=by simp[List.getD,hx]
   unfold whB mkP
   rw[h0] at h3
   simp[h3.1,h3.2]
  ·rfl
theorem lyW_is {s:Sys} {L:List (List Pc)} (hL:L.length=s.ts.length):(List.range s.ts.length).map (lyW s L)=L.map whO:=by
 apply List.ext_getElem?
 intro j
 rw[List.getElem?_map,List.getElem?_map]
 by_cases hj:j<L.length
 ·have hl:L[j]? = some (L[j]'hj):=List.getElem?_eq_getElem hj
  rw[List.getElem?_range (by omega),hl]
  simp[lyW_at (s:=s) hl]
 ·rw[List.getElem?_eq_none (l:=List.range _) (by simp;omega),List.getElem?_eq_none (by omega)];rfl
end Go.Proofs.YtikcigjbhohboaaGreat.pln
end
section
namespace Go.Proofs.YtikcigjbhohboaaGreat.pln
set_option linter.unusedVariables false
set_option linter.unusedSimpArgs false
open Go.ChangeShapes Go.WideShapes Go.ChangeAt Go.RowKit Go.Deep val ter
theorem core_cases {s:Sys} {L:List (List Pc)} (h:plR s L=true) (c:Nat) {i:Nat} {l:List Pc} (hl:L[i]? = some l) :
  (apL (c:Int) i (rkL s L i l) (rkL s L i l).length = []∧whO l≠(c:Int))∨∃ y:Ap,apL (c:Int) i (rkL s L i l) (rkL s L i l).length = [y]∧y.i=i∧(∃ x,l[y.k]? = some x∧y.p=rkP s L i x∧x.co=(c:Int)) ∧
   ((whO l=(c:Int)∧y.k=0∧l.length=1∧y.p.ti=false∧y.p=rkP s L i (l.getD 0 pc0))∨(whO l≠(c:Int)∧(s.ts.getD i ts0).secs.length=0)):=by
 obtain⟨hr,hL,hok⟩:=plR_parts h
 have hoL:=okS_at hok hl
 obtain⟨hw,_⟩:=tsk_nums hr hL hl
 have hlen:(rkL s L i l).length=l.length:=by unfold rkL;rw[List.length_map]
 by_cases hex:∃ (k:Nat) (x:Pc),l[k]? = some x∧x.co=(c:Int)
 ·obtain⟨k,x,hx,hc⟩:=hex
  have hkl:k<l.length:=(List.getElem?_eq_some_iff.1 hx).1
  refine .inr ⟨⟨rkP s L i x,i,k⟩,?_,rfl,⟨x,hx,rfl,hc⟩,?_⟩
  ·rw[hlen,apL_map _ (Nat.le_refl _),apL_one hx hc (fun k' z hz e=>okL_core_one hoL hz hx (by rw[e,hc])) _ (Nat.le_refl _),if_pos hkl]
   rfl
  ·obtain⟨⟨_,_,_,g4,g5⟩,_⟩:=okL_rg hoL hw.1 hx
   by_cases hwh:whO l=(c:Int)
   ·obtain⟨z,e1,e2,e3⟩:=whO_is hwh (Int.natCast_nonneg c)
    subst e1
    have hk0:k=0:=by simp at hkl;exact hkl
    subst hk0
    simp at hx
    subst hx
    exact .inl ⟨hwh,rfl,rfl,e2,rfl⟩
   ·refine .inr ⟨hwh,?_⟩
    cases ht:x.ti with
    | true=>exact(g4 ht).2.2
    | false =>
     have hk1:=(g5 ht).1
     by_cases hk0:k=0
     ·exfalso
      apply hwh
      subst hk0
      have h0:l.getD 0 pc0=x:=by simp[List.getD,hx]
      unfold whO
      rw[if_pos ⟨hk1.symm,by rw[h0];exact ht⟩,h0,hc]
     ·have hx0:l[0]? = some (l[0]'(by omega)):=List.getElem?_eq_getElem (by omega)
      obtain⟨⟨_,_,_,f4,f5⟩,_⟩:=okL_rg hoL hw.1 hx0
      cases ht0:(l[0]'(by omega)).ti with
      | true=>exact(f4 ht0).2.2
      | false=>have:=(f5 ht0).1;omega
 ·have hno:∀ (k:Nat) (y:Pc),l[k]? = some y→y.co≠(c:Int):=fun k y hy e=>hex ⟨k,y,hy,e⟩
  refine .inl ⟨by rw[hlen,apL_map _ (Nat.le_refl _),apL_none hno _ (Nat.le_refl _)];rfl,fun e=>?_⟩
  obtain⟨z,e1,e2,e3⟩:=whO_is e (Int.natCast_nonneg c)
  exact hno 0 z (by rw[e1];rfl) e3
theorem ap_step {s:Sys} {L:List (List Pc)} {c:Int} {i:Nat} {l:List Pc} (hl:L[i]? = some l):apN c (rkV s L) (i+1)=apN c (rkV s L) i ++ apL c i (rkL s L i l) (rkL s L i l).length:=apN_next (rkV_at (s:=s) hl)
theorem ce_is {s:Sys} {L:List (List Pc)} (h:plR s L=true) (c:Nat):∀ i,i≤L.length→ceF s ((apN (c:Int) (rkV s L) i).map (ptOf s L))=ceN s L (c:Int) i
 | 0,_=>rfl
 | i+1,hi=>by
  have hl:L[i]? = some (L[i]'(by omega)):=List.getElem?_eq_getElem (by omega)
  have ih:=ce_is h c i (by omega)
  rw[ap_step hl]
  funext r
  rw[ceN,getL hl]
  rcases core_cases h c hl with⟨e,hw⟩ | ⟨y,e,hyi,⟨x,hx,hyp,hxc⟩,hcase⟩
  ·rw[e,List.append_nil,ih,if_neg hw]
  ·rw[e,List.map_append,List.map_cons,List.map_nil,ceF_snoc,ih]
   unfold ceX
   have e1:(ptOf s L y).i=i:=hyi
   have e2:(ptOf s L y).p.pr=y.p.pr:=rfl
   rw[e1,e2]
   rcases hcase with⟨hw,_,_,_,hp⟩ | ⟨hw,h0⟩
   ·rw[if_pos hw]
    unfold ceP
    rw[hp,Int.max_comm]
   ·rw[if_neg hw,h0];rfl
theorem ce_core {s:Sys} {L:List (List Pc)} (h:plR s L=true) (c:Nat):ceF s ((apS (c:Int) (rkV s L)).map (ptOf s L))=ceN s L (c:Int) L.length:=by
 unfold apS;rw[rkV_len];exact ce_is h c _ (Nat.le_refl _)
theorem own_is {s:Sys} {L:List (List Pc)} (h:plR s L=true) {c:Nat} {y:Ap} (hy:y ∈ apS (c:Int) (rkV s L)):ownP s (L.map whO) (ptOf s L y)=ownV s (rkV s L) y.i y.p:=by
 obtain⟨hr,hL,hok⟩:=plR_parts h
 obtain⟨rl,h1,h2,h3⟩:=apS_mem hy
 have hi:y.i<L.length:=by have:=(List.getElem?_eq_some_iff.1 h1).1;rw[rkV_len] at this;exact this
 obtain⟨l,hl⟩:∃ l,L[y.i]? = some l:=⟨_,List.getElem?_eq_getElem hi⟩
 rw[rkV_at hl] at h1
 cases h1
 obtain⟨x,hx,hp⟩:=rkL_at h2
 have hkl:y.k<l.length:=(List.getElem?_eq_some_iff.1 hx).1
 unfold ownP ownV
 rw[wh_rk,wh_at hl]
 have hb:(whB (ptOf s L y)=true) ↔ 0≤whO l:=by
  have e1:whB (ptOf s L y)=(decide (y.k=0) && (decide (y.k+1=l.length) && !y.p.ti)):=by
   unfold whB ptOf
   rw[getL hl]
  have e2:y.p.ti=x.ti:=by rw[hp];rfl
  rw[e1,e2]
  unfold whO
  by_cases h1:l.length=1∧(l.getD 0 pc0).ti=false
  ·rw[if_pos h1]
   have hk0:y.k=0:=by omega
   rw[hk0] at hx
   have h0:l.getD 0 pc0=x:=by simp[List.getD,hx]
   have hbp:=okL_piece (okS_at hok hl) hx
   unfold badP bad1 at hbp
   simp only[Bool.or_eq_false_iff,decide_eq_false_iff_not] at hbp
   rw[h0] at h1 ⊢
   rw[hk0,h1.2]
   simp[h1.1]
   omega
  ·rw[if_neg h1]
   simp only[Bool.and_eq_true,decide_eq_true_eq,Bool.not_eq_true']
   constructor
   ·rintro⟨a1,a2,a3⟩
    exfalso
    rw[a1] at hx a2
    have h0:l.getD 0 pc0=x:=by simp[List.getD,hx]
    exact h1 ⟨a2.symm,by rw[h0];exact a3⟩
   ·intro h;omega
 have e3:(ptOf s L y).p.bu=y.p.bu:=rfl
 have e4:(ptOf s L y).i=y.i:=rfl
 rw[e3,e4]
 by_cases h9:0≤whO l
 ·rw[if_pos h9,if_pos (hb.2 h9)]
 ·rw[if_neg h9,if_neg (fun e=>h9 (hb.1 e))]
theorem ld_is1 {s:Sys} {L:List (List Pc)} (h:plR s L=true) {c:Nat} {y:Ap} (hy:y ∈ apS (c:Int) (rkV s L)):ldP s (L.map whO) (ptOf s L y)=ldOf s (rkV s L) y:=by
 unfold ldP ldOf
 rw[own_is h hy]
 rfl
theorem ld_isA {s:Sys} {L:List (List Pc)} (h:plR s L=true) (c:Nat):((apS (c:Int) (rkV s L)).map (ptOf s L)).map (ldP s (L.map whO))=(apS (c:Int) (rkV s L)).map (ldOf s (rkV s L)):=by
 rw[List.map_map]
 exact List.map_congr_left (fun y hy=>ld_is1 h hy)
theorem ab_pre {pr:Int} {l:List Pt} {ls:List rsp.Ld} (hl:ls.length=l.length):∀ q,q≤l.length→abN pr l ls q=(((l.zip ls).take q).filter (fun z=>decide (z.1.p.pr<pr))).map Prod.snd
 | 0,_=>rfl
 | q+1,hq=>by
  have hx:l[q]? = some (l[q]'(by omega)):=List.getElem?_eq_getElem (by omega)
  have hy:ls[q]? = some (ls[q]'(by omega)):=List.getElem?_eq_getElem (by omega)
  have hz:(l.zip ls)[q]? = some (l[q]'(by omega),ls[q]'(by omega)):=by rw[List.getElem?_zip_eq_some];exact⟨hx,hy⟩
  rw[abN_next hx hy,ab_pre hl q (by omega),List.take_add_one,hz,List.filter_append,List.map_append]
  congr 1
  by_cases e:l[q].p.pr<pr
  ·simp[e]
  ·simp[e]
theorem ab_is {s:Sys} {L:List (List Pc)} (h:plR s L=true) (c:Nat) (pr:Int):abN pr ((apS (c:Int) (rkV s L)).map (ptOf s L)) (((apS (c:Int) (rkV s L)).map (ptOf s L)).map (ldP s (L.map whO))) ((apS (c:Int) (rkV s L)).map (ptOf s L)).length=(abv pr (apS (c:Int) (rkV s L))).map (ldOf s (rkV s L)):=by
 rw[ab_pre (by simp) _ (Nat.le_refl _),List.take_of_length_le (by simp),ld_isA h c]
 unfold abv
 generalize apS (c:Int) (rkV s L)=A
 induction A with
 | nil=>rfl
 | cons y A ih =>
  rw[List.map_cons,List.map_cons,List.zip_cons_cons]
  by_cases e:y.p.pr<pr
  ·rw[List.filter_cons_of_pos (by show decide (y.p.pr<pr)=true;exact decide_eq_true e),List.filter_cons_of_pos (by show decide (y.p.pr<pr)=true;exact decide_eq_true e),List.map_cons,List.map_cons,ih]
  ·rw[List.filter_cons_of_neg (by show ¬decide (y.p.pr<pr)=true;simpa using e),List.filter_cons_of_neg (by show ¬decide (y.p.pr<pr)=true;simpa using e),ih]
end Go.Proofs.YtikcigjbhohboaaGreat.pln
end
section
namespace Go.Proofs.YtikcigjbhohboaaGreat.pln
set_option linter.unusedVariables false
set_option linter.unusedSimpArgs false
open Go.ChangeShapes Go.WideShapes Go.ChangeAt Go.RowKit Go.Deep val ter
theorem blN_pre {s:Sys} {pr:Int} {l r:List (Int × Int × Int)}:∀ q,q≤l.length→blN s pr (l ++ r) q=blN s pr l q
 | 0,_=>rfl
 | q+1,h=>by
  have hx:l[q]? = some (l[q]'(by omega)):=List.getElem?_eq_getElem (by omega)
  rw[blN_next hx,blN_next (l:=l ++ r) (h:=l[q]) (by rw[List.getElem?_append_left (by omega)];exact hx),blN_pre q (by omega)]
def blT (s:Sys) (pr:Int) (l:List (Int × Int × Int)):Int:=blN s pr l l.length
theorem blT_snoc (s:Sys) (pr:Int) (l:List (Int × Int × Int)) (h:Int × Int × Int):blT s pr (l ++ [h])=bl1 s pr (blT s pr l) h:=by
 unfold blT
 have e:(l ++ [h]).length=l.length+1:=by simp
 rw[e,blN_next (h:=h) (by simp),blN_pre _ (Nat.le_refl _)]
theorem bl_skip {s:Sys} {pr:Int} {wh:List Int} {z:Nat→Int} {x:Pt} {H:List (Int × Int × Int)} (h:x.p.pr<pr):∀ m,blT s pr (H ++ hoX s wh z x m)=blT s pr H
 | 0=>by rw[hoX,List.append_nil]
 | m+1=>by
  rw[hoX,←List.append_assoc,blT_snoc,bl_skip h m]
  unfold bl1 ho1
  rw[if_neg (by dsimp only;omega)]
theorem bl_take {s:Sys} (hpr:s.pr=1∨s.pr=2) {pr:Int} {wh:List Int} {z:Nat→Int} {Zf:Int→Int} {x:Pt} {i:Nat} (hi:x.i=i) {H:List (Int × Int × Int)} {M:Int} (h:pr≤x.p.pr) (hz:∀ y ∈ (s.ts.getD i ts0).secs,Zf y.2.1=z y.2.1.toNat) (h0:blT s pr H=M):∀ m,m≤(s.ts.getD i ts0).secs.length→blT s pr (H ++ hoX s wh z x m)=bkS s wh Zf pr i (s.ts.getD i ts0).secs M m
 | 0,_=>by rw[hoX,List.append_nil,h0];rfl
 | m+1,hm=>by
  have hy:(s.ts.getD i ts0).secs[m]? = some ((s.ts.getD i ts0).secs[m]'(by omega)):=List.getElem?_eq_getElem (by omega)
  have hd:(s.ts.getD i ts0).secs.getD m (0,0,0)=(s.ts.getD i ts0).secs[m]'(by omega):=by rw[List.getD,hy];rfl
  have hzz:=hz _ (List.getElem_mem (show m<(s.ts.getD i ts0).secs.length by omega))
  rw[hoX,←List.append_assoc,blT_snoc,bl_take hpr hi h hz h0 m (by omega),bkS,hd]
  unfold bl1 ho1 hiP
  dsimp only
  rw[hi,hd,hzz]
  generalize z (s.ts.getD i ts0).secs[m].2.1.toNat=Z0
  rcases hpr with e | e
  ·rw[if_pos ⟨h,.inl e⟩,if_neg (by rw[e];simp)]
  ·by_cases hq:pr<Z0
   ·rw[if_neg (by omega),if_pos (by rw[e,decide_eq_true hq];rfl)]
   ·rw[if_pos ⟨h,.inr (by omega)⟩,if_neg (by rw[decide_eq_false hq,Bool.and_false];simp)]
theorem heN_pre {s:Sys} {pr:Int} {l r:List Pt}:∀ q,q≤l.length→heN s pr (l ++ r) q=heN s pr l q
 | 0,_=>rfl
 | q+1,h=>by
  have hx:l[q]? = some (l[q]'(by omega)):=List.getElem?_eq_getElem (by omega)
  rw[heN_next hx,heN_next (l:=l ++ r) (x:=l[q]) (by rw[List.getElem?_append_left (by omega)];exact hx),heN_pre q (by omega)]
theorem heN_snoc (s:Sys) (pr:Int) (l:List Pt) (x:Pt):heN s pr (l ++ [x]) (l ++ [x]).length=heN s pr l l.length+(if s.pr=2∧(pr<x.p.pr∧0<(s.ts.getD x.i ts0).secs.length) then s.fi else 0):=by
 have e:(l ++ [x]).length=l.length+1:=by simp
 rw[e,heN_next (x:=x) (by simp),heN_pre _ (Nat.le_refl _)]
theorem right_pr {s:Sys} (h:right s=true):(s.pr=1∨s.pr=2)∧(s.po=1∨s.po=2)∧(0≤s.rs∧s.rs≤8):=by
 obtain⟨h1,_⟩:=right_parts h
 unfold vWhole at h1
 simp only[Bool.and_eq_true,wi_true] at h1
 omega
theorem rk0 {s:Sys} {L:List (List Pc)} (hpo:s.po≠1) (i:Nat) (x:Pc):(rkP s L i x).pr=0:=by unfold rkP;dsimp only;rw[if_neg (fun e=>hpo e.1)]
theorem rk_head {s:Sys} {L:List (List Pc)} {i:Nat} {l:List Pc} (hl:L[i]? = some l) (h1:l.length=1):((rkV s L).getD i []).getD 0 pc0=rkP s L i (l.getD 0 pc0):=by
 have hx:l[0]? = some (l[0]'(by omega)):=List.getElem?_eq_getElem (by omega)
 have hv:=rkV_at (s:=s) hl
 have e1:(rkV s L).getD i []=rkL s L i l:=by simp[List.getD,hv]
 have e2:l.getD 0 pc0=l[0]'(by omega):=by simp[List.getD,hx]
 rw[e1,e2]
 unfold rkL
 simp[List.getD,hx]
theorem bk_is {s:Sys} {L:List (List Pc)} (h:plR s L=true) (c:Nat) {pr:Int} (hpr0:s.po=1∨pr=0) {z:Nat→Int} {Zf:Int→Int} (hz:∀ t ∈ s.ts,∀ y ∈ t.secs,Zf y.2.1=z y.2.1.toNat):∀ i,i≤L.length →
  blT s pr (hoF s (L.map whO) z ((apN (c:Int) (rkV s L) i).map (ptOf s L)))=bkM s (L.map whO) (rkV s L) Zf (c:Int) pr i ∧
  heN s pr ((apN (c:Int) (rkV s L) i).map (ptOf s L)) ((apN (c:Int) (rkV s L) i).map (ptOf s L)).length+2*s.fi=bkE s (L.map whO) (rkV s L) (c:Int) pr i*s.fi
 | 0,_=>⟨rfl,by rw[bkE];simp[apN,heN]⟩
 | i+1,hi=>by
  have hl:L[i]? = some (L[i]'(by omega)):=List.getElem?_eq_getElem (by omega)
  obtain⟨hr,hL,hok⟩:=plR_parts h
  obtain⟨ih1,ih2⟩:=bk_is h c hpr0 hz i (by omega)
  obtain⟨hspr,hspo,_⟩:=right_pr hr
  rw[ap_step hl,bkM,bkE]
  have hwi:(L.map whO).getD i 0=whO L[i]:=wh_at hl
  rcases core_cases h c hl with⟨e,hw⟩ | ⟨y,e,hyi,⟨x,hx,hyp,hxc⟩,hcase⟩
  ·have hsk:skP s (L.map whO) (rkV s L) (c:Int) pr i=true:=by unfold skP;rw[hwi,decide_eq_false hw];rfl
   rw[e,List.append_nil,if_pos hsk,if_pos hsk]
   exact⟨ih1,ih2⟩
  ·rw[e,List.map_append,List.map_cons,List.map_nil,hoF_snoc,heN_snoc]
   have e1:(ptOf s L y).i=i:=hyi
   have e2:(ptOf s L y).p.pr=y.p.pr:=rfl
   rw[e1,e2]
   rcases hcase with⟨hw,_,hlen1,_,hp⟩ | ⟨hw,h0⟩
   ·have hhd:((rkV s L).getD i []).getD 0 pc0=y.p:=by rw[rk_head hl hlen1,hp]
    have hti:s.ts.getD i ts0 ∈ s.ts:=by
     have hi2:i<s.ts.length:=by omega
     have:s.ts.getD i ts0=s.ts[i]:=by simp[List.getD,List.getElem?_eq_getElem hi2]
     rw[this];exact List.getElem_mem hi2
    by_cases hsk:s.po=1∧y.p.pr<pr
    ·have hs:skP s (L.map whO) (rkV s L) (c:Int) pr i=true:=by unfold skP;rw[hhd,decide_eq_true hsk.1,decide_eq_true hsk.2];simp
     rw[if_pos hs,if_pos hs,bl_skip (by rw[e2];exact hsk.2),if_neg (by omega),Int.add_zero]
     exact⟨ih1,ih2⟩
    ·have hge:pr≤y.p.pr:=by
      rcases hpr0 with e9 | e9
      ·omega
      ·by_cases e8:s.po=1
       ·omega
       ·rw[hp,rk0 e8,e9];exact Int.le_refl _
     have hs:skP s (L.map whO) (rkV s L) (c:Int) pr i=false:=by
      unfold skP
      rw[hwi,hhd,decide_eq_true hw]
      by_cases e8:s.po=1
      ·simp;omega
      ·simp[e8]
     rw[hs]
     simp only[Bool.false_eq_true,if_false]
     refine⟨bl_take hspr hyi (by rw[e2];exact hge) (hz _ hti) ih1 _ (Nat.le_refl _),?_⟩
     unfold inP
     rw[hhd]
     by_cases hin:s.pr=2∧(pr<y.p.pr∧0<(s.ts.getD i ts0).secs.length)
     ·rw[if_pos hin,if_pos (by simp[hin.1,hin.2.1];exact hin.2.2)]
      rw[Int.add_mul]
      omega
     ·rw[if_neg hin,if_neg (by simp only[Bool.and_eq_true,decide_eq_true_eq];exact hin)]
      simpa using ih2
   ·have hs:skP s (L.map whO) (rkV s L) (c:Int) pr i=true:=by unfold skP;rw[hwi,decide_eq_false hw];rfl
    rw[if_pos hs,if_pos hs,h0,if_neg (by omega),Int.add_zero]
    refine⟨?_,ih2⟩
    rw[hoX,List.append_nil]
    exact ih1
theorem zr_is {s:Sys} {L:List (List Pc)} (hr:right s=true) {c:Nat} (hc:c<s.co.toNat):∀ t ∈ s.ts,∀ y ∈ t.secs,zr (ceV s L) c y.2.1=ceN s L (c:Int) L.length y.2.1.toNat:=fun t ht y hy=>by
 obtain⟨⟨h1,h2⟩,_⟩:=right_sec hr ht hy
 have hlt:y.2.1.toNat<s.rs.toNat:=by omega
 unfold zr ceV ceR
 simp[List.getD,hc,hlt]
theorem blk_is {s:Sys} {L:List (List Pc)} (h:plR s L=true) {c:Nat} (hc:c<s.co.toNat) {pr:Int} (hpr0:s.po=1∨pr=0) :
  blH s pr (hoF s (L.map whO) (ceF s ((apS (c:Int) (rkV s L)).map (ptOf s L))) ((apS (c:Int) (rkV s L)).map (ptOf s L)))+heN s pr ((apS (c:Int) (rkV s L)).map (ptOf s L)) ((apS (c:Int) (rkV s L)).map (ptOf s L)).length=blkV s (rkV s L) (ceV s L) c pr:=by
 obtain⟨hr,hL,hok⟩:=plR_parts h
 rw[ce_core h c]
 have h1:=bk_is h c hpr0 (zr_is (L:=L) hr hc) L.length (Nat.le_refl _)
 have hA:apS (c:Int) (rkV s L)=apN (c:Int) (rkV s L) L.length:=by unfold apS;rw[rkV_len]
 rw[←hA] at h1
 obtain⟨h2,h3⟩:=h1
 unfold blkV blH
 rw[wh_rk,rkV_len,←h2,←h3]
 unfold blT
 omega
theorem he0 {s:Sys} {pr:Int} (hs:s.pr≠2) (l:List Pt):∀ q,heN s pr l q=0
 | 0=>rfl
 | q+1=>by rw[heN,he0 hs l q,if_neg (fun e=>hs e.1)];rfl
theorem fx_is {s:Sys} {L:List (List Pc)} (h:plR s L=true) {c:Nat} (hc:c<s.co.toNat) (hpo:s.po=1) {y:Ap} (hy:y ∈ apS (c:Int) (rkV s L)) :
  fx1 s (L.map whO) (hoF s (L.map whO) (ceF s ((apS (c:Int) (rkV s L)).map (ptOf s L))) ((apS (c:Int) (rkV s L)).map (ptOf s L))) ((apS (c:Int) (rkV s L)).map (ptOf s L)) (ptOf s L y)=fixV s (rkV s L) (ceV s L) (apS (c:Int) (rkV s L)) c y:=by
 unfold fx1 fixV
 have e2:(ptOf s L y).p.pr=y.p.pr:=rfl
 have e3:(ptOf s L y).p.de=y.p.de:=rfl
 rw[e2,e3,own_is h hy,blk_is h hc (.inl hpo),ab_is h c,ld_isA h c]
theorem sumB_is {s:Sys} {l:List Pc}:∀ k:Nat,sumB s l k=smN l k+(k:Int)*(s.la-1)
 | 0=>by rw[sumB,smN];simp
 | k+1=>by
  rw[sumB,smN,sumB_is k]
  have:((k+1:Nat):Int)*(s.la-1)=(k:Int)*(s.la-1)+(s.la-1):=by rw[Int.natCast_add,Int.add_mul];simp
  omega
theorem fxE_is {s:Sys} {L:List (List Pc)} (h:plR s L=true) {c:Nat} (hc:c<s.co.toNat) (hpo:s.po=1):∀ q,q≤(apS (c:Int) (rkV s L)).length →
  fxE s (L.map whO) (hoF s (L.map whO) (ceF s ((apS (c:Int) (rkV s L)).map (ptOf s L))) ((apS (c:Int) (rkV s L)).map (ptOf s L))) ((apS (c:Int) (rkV s L)).map (ptOf s L)) q=erJ s (rkV s L) (ceV s L) (apS (c:Int) (rkV s L)) c q
 | 0,_=>rfl
 | q+1,hq=>by
  have hy:(apS (c:Int) (rkV s L))[q]? = some ((apS (c:Int) (rkV s L))[q]'(by omega)):=List.getElem?_eq_getElem (by omega)
  have hx:((apS (c:Int) (rkV s L)).map (ptOf s L))[q]? = some (ptOf s L ((apS (c:Int) (rkV s L))[q]'(by omega))):=by rw[List.getElem?_map,hy];rfl
  have hd:(apS (c:Int) (rkV s L)).getD q ap0=(apS (c:Int) (rkV s L))[q]'(by omega):=by simp[List.getD,hy]
  rw[fxE_next hx,erJ,fxE_is h hc hpo q (by omega),fx_is h hc hpo (List.getElem_mem _),hd]
  unfold erX
  have e:(ptOf s L ((apS (c:Int) (rkV s L))[q]'(by omega))).p.ti=((apS (c:Int) (rkV s L))[q]'(by omega)).p.ti:=rfl
  rw[e]
  have hp2:¬s.po=2:=by omega
  simp only[hp2,or_false]
theorem fxB_is {s:Sys} {L:List (List Pc)} (h:plR s L=true) {c:Nat} (hc:c<s.co.toNat) (hpo:s.po=1) (g:Nat→Int):∀ q,q≤(apS (c:Int) (rkV s L)).length →
  fxB s (L.map whO) (hoF s (L.map whO) (ceF s ((apS (c:Int) (rkV s L)).map (ptOf s L))) ((apS (c:Int) (rkV s L)).map (ptOf s L))) ((apS (c:Int) (rkV s L)).map (ptOf s L)) g q=bdJ s (rkV s L) (ceV s L) (apS (c:Int) (rkV s L)) c g q
 | 0,_=>rfl
 | q+1,hq=>by
  have hy:(apS (c:Int) (rkV s L))[q]? = some ((apS (c:Int) (rkV s L))[q]'(by omega)):=List.getElem?_eq_getElem (by omega)
  have hm:=List.getElem_mem (show q<(apS (c:Int) (rkV s L)).length by omega)
  have hx:((apS (c:Int) (rkV s L)).map (ptOf s L))[q]? = some (ptOf s L ((apS (c:Int) (rkV s L))[q]'(by omega))):=by rw[List.getElem?_map,hy];rfl
  have hd:(apS (c:Int) (rkV s L)).getD q ap0=(apS (c:Int) (rkV s L))[q]'(by omega):=by simp[List.getD,hy]
  rw[fxB_next hx,bdJ,fxB_is h hc hpo g q (by omega),fx_is h hc hpo hm,hd]
  generalize (apS (c:Int) (rkV s L))[q]'(by omega)=y at hm ⊢
  have e1:(ptOf s L y).p.ti=y.p.ti:=rfl
  have e2:(ptOf s L y).i=y.i:=rfl
  rw[e1,e2]
  cases y.p.ti with
  | true=>rfl
  | false =>
   simp only[Bool.false_eq_true,if_false]
   funext j
   have hb:(ptOf s L y).dn+(ptOf s L y).ji+(fixV s (rkV s L) (ceV s L) (apS (c:Int) (rkV s L)) c y).1=bndX s (rkV s L) (ceV s L) (apS (c:Int) (rkV s L)) c y:=by
    unfold bndX
    rw[if_neg (by omega),sumB_is]
    have e3:smN ((rkV s L).getD y.i []) y.k=smN (L.getD y.i []) y.k:=smN_ups (rk_ups s L y.i) y.k
    rw[e3]
    show smN (L.getD y.i []) y.k+(y.k:Int)*(s.la-1)+_=_
    omega
   rw[hb]
end Go.Proofs.YtikcigjbhohboaaGreat.pln
end
