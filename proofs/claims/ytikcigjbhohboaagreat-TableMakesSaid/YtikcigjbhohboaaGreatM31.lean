/- Part 31 of a proof: PaU1 PaU2. -/
import Derived.Test.YtikcigjbhohboaaGreatM25
import Derived.Test.YtikcigjbhohboaaGreatM30
section
namespace Go.Proofs.YtikcigjbhohboaaGreat.pln
open Go.ChangeShapes Go.WideShapes Go.ChangeAt Go.RowKit Go.Deep val
def mpF (P:List Pt):Int→Int→Option Pt:=P.foldl (fun F x=>upF F x.p.co (x.i:Int) (zpP x)) (fun _ _=>none)
def mpW (P:List Pt):Nat→Int:=P.foldl (fun f x=>fun j=>if whB x=true∧j=x.i then x.p.co else f j) (fun _=>-1)
theorem mpF_snoc (P:List Pt) (x:Pt):mpF (P ++ [x])=upF (mpF P) x.p.co (x.i:Int) (zpP x):=by unfold mpF;rw[List.foldl_append];rfl
theorem mpW_snoc (P:List Pt) (x:Pt):mpW (P ++ [x])=fun j=>if whB x=true∧j=x.i then x.p.co else mpW P j:=by unfold mpW;rw[List.foldl_append];rfl
def okB (s:Sys) (P:List Pt) (x:Pt):Bool:=!(mpF P x.p.co (x.i:Int)).isSome && rgV s (s.ts.getD x.i ts0) x
def vOk (s:Sys) (P:List Pt):Nat→Bool
 | 0=>true
 | q+1=>vOk s P q && okB s (P.take q) (P.getD q pt0)
theorem vOk_le {s:Sys} {P:List Pt} {i j:Nat} (hij:i≤j) (h:vOk s P j=true):vOk s P i=true:=by
 induction j with
 | zero =>
      obtain rfl:i=0:=by omega
      exact h
 | succ j ih =>
  by_cases e:i=j+1
  ·rw[e];exact h
  ·rw[vOk,Bool.and_eq_true] at h
   exact ih (by omega) h.1
theorem vOk_next {s:Sys} {P:List Pt} {q:Nat} {x:Pt} (hx:P[q]? = some x):vOk s P (q+1)=(vOk s P q && okB s (P.take q) x):=by
 have e:P.getD q pt0=x:=by simp[List.getD,hx]
 rw[vOk,e]
theorem mem_take {α:Type} {l:List α} {q:Nat} {x:α}:x ∈ l.take q ↔ ∃ k,k<q∧l[k]? = some x:=by
 rw[List.mem_iff_getElem?]
 constructor
 ·rintro⟨k,hk⟩
  rw[List.getElem?_take] at hk
  by_cases h:k<q
  ·rw[if_pos h] at hk;exact⟨k,h,hk⟩
  ·rw[if_neg h] at hk;cases hk
 ·rintro⟨k,h,hk⟩
  exact⟨k,by rw[List.getElem?_take,if_pos h];exact hk⟩
theorem vOk_at {s:Sys} {P:List Pt} {q k:Nat} {x:Pt} (h:vOk s P q=true) (hk:k<q) (hx:P[k]? = some x):okB s (P.take k) x=true:=by
 have:=vOk_le (show k+1≤q by omega) h
 rw[vOk_next hx,Bool.and_eq_true] at this
 exact this.2
theorem rgV_k {s:Sys} {t:Tsk} {x:Pt} (h:rgV s t x=true):x.k<8:=by
 unfold rgV at h
 simp only[Bool.and_eq_true,Bool.not_eq_true',Bool.or_eq_false_iff,decide_eq_false_iff_not] at h
 omega
theorem visR_inv {lt:Int} {i:Nat} {l:List Pc}:∀ {k p:Nat} {x:Pt},k≤l.length→(visR lt i l k)[p]? = some x→∃ y,l[p]? = some y∧p<k∧x=mkP lt i l p y
 | 0,p,x,_,h=>by simp[visR] at h
 | k+1,p,x,hk,h=>by
  have hy:l[k]? = some l[k]:=List.getElem?_eq_getElem (by omega)
  rw[visR] at h
  by_cases e:p<k
  ·rw[List.getElem?_append_left (by rw[visR_len];exact e)] at h
   obtain⟨y,h1,h2,h3⟩:=visR_inv (by omega) h
   exact⟨y,h1,by omega,h3⟩
  ·rw[List.getElem?_append_right (by rw[visR_len];omega),visR_len] at h
   have hp:p-k=0:=by have:=(List.getElem?_eq_some_iff.1 h).1;simp at this;omega
   have hpk:p=k:=by omega
   rw[hp] at h
   simp only[List.getElem?_cons_zero,Option.some.injEq] at h
   subst hpk
   exact⟨l[p],hy,by omega,by rw[←h,getD_some hy]⟩
theorem visN_inv {lt:Int} {L:List (List Pc)}:∀ {n p:Nat} {x:Pt},n≤L.length→(visN lt L n)[p]? = some x→∃ i l q y,i<n∧L[i]? = some l∧l[q]? = some y∧p=offN L i+q∧x=mkP lt i l q y
 | 0,p,x,_,h=>by simp[visN] at h
 | n+1,p,x,hn,h=>by
  have hl:L[n]? = some L[n]:=List.getElem?_eq_getElem (by omega)
  rw[visN] at h
  by_cases e:p<offN L n
  ·rw[List.getElem?_append_left (by rw[visN_len];exact e)] at h
   obtain⟨i,l,q,y,h1,h2⟩:=visN_inv (by omega) h
   exact⟨i,l,q,y,by omega,h2⟩
  ·rw[List.getElem?_append_right (by rw[visN_len];omega),visN_len] at h
   obtain⟨y,h1,h2,h3⟩:=visR_inv (Nat.le_refl _) h
   refine⟨n,L.getD n [],p-offN L n,y,by omega,?_,h1,by omega,h3⟩
   rw[getL hl];exact hl
theorem vis_inv {lt:Int} {L:List (List Pc)} {p:Nat} {x:Pt} (h:(vis lt L)[p]? = some x):∃ i l q y,L[i]? = some l∧l[q]? = some y∧p=offN L i+q∧x=mkP lt i l q y:=by
 obtain⟨i,l,q,y,_,h2⟩:=visN_inv (Nat.le_refl _) h
 exact⟨i,l,q,y,h2⟩
theorem vis_mem {lt:Int} {L:List (List Pc)} {x:Pt} (h:x ∈ vis lt L):∃ i l q y,L[i]? = some l∧l[q]? = some y∧x=mkP lt i l q y:=by
 obtain⟨p,hp⟩:=List.mem_iff_getElem?.1 h
 obtain⟨i,l,q,y,h1,h2,_,h3⟩:=vis_inv hp
 exact⟨i,l,q,y,h1,h2,h3⟩
theorem mpF_some {P:List Pt}:∀ {a b:Int} {x:Pt},mpF P a b=some x→∃ y ∈ P,x=zpP y∧y.p.co=a∧(y.i:Int)=b:=by
 have key:∀ (n:Nat) (P:List Pt),P.length=n→∀ {a b:Int} {x:Pt},mpF P a b=some x→∃ y ∈ P,x=zpP y∧y.p.co=a∧(y.i:Int)=b:=by
  intro n
  induction n with
  | zero =>
       intro P hP a b x h
       obtain rfl:P = []:=List.eq_nil_of_length_eq_zero hP
       simp[mpF] at h
  | succ n ih =>
   intro P hP a b x h
   obtain⟨Q,y,rfl⟩:∃ Q y,P=Q ++ [y]:=⟨P.dropLast,P.getLast (by intro e;rw[e] at hP;cases hP),(List.dropLast_concat_getLast _).symm⟩
   rw[mpF_snoc] at h
   unfold upF at h
   split at h
   ·next e=>cases h;exact⟨y,by simp,rfl,e.1.symm,e.2.symm⟩
   ·obtain⟨z,h1,h2⟩:=ih Q (by simp at hP;omega) h
    exact⟨z,by simp[h1],h2⟩
 exact fun {a b x} h=>key P.length P rfl h
theorem mpF_fok {n:Nat} {P:List Pt} (hP:∀ x ∈ P,x.i<n∧inR x.p.co∧inR x.p.bu∧inR x.p.de):Fok n (mpF P) :=
 ⟨fun a b x h=>by
  obtain⟨y,hy,rfl,h1,h2⟩:=mpF_some h
  exact⟨h1,h2,(hP y hy).1⟩,fun a b x h=>by
  obtain⟨y,hy,rfl,h1,h2⟩:=mpF_some h
  obtain⟨_,h3,h4,h5⟩:=hP y hy
  exact⟨h3,h4,h5,by show inR 0;unfold inR;omega⟩⟩
def rkO (F:Int→Int→Option Pt) (n:Nat) (co:Int) (x:Pt):Pt:=if x.p.ti=true then x else spP x (((ntL F co n).countP (fun y=>decide (y.p.de<x.p.de∨y.p.de=x.p.de∧y.i<x.i)):Int)+1)
def rk1 (F:Int→Int→Option Pt) (n:Nat) (co:Int):Int→Int→Option Pt:=fun a b=>if a=co then (F a b).map (rkO F n co) else F a b
def rkM (F:Int→Int→Option Pt) (n:Nat) (c:Nat):Int→Int→Option Pt:=fun a b=>if 0≤a∧a<(c:Int) then (F a b).map (rkO F n a) else F a b
theorem onN_congr {F G:Int→Int→Option Pt} {co:Int} (h:∀ i:Nat,F co (i:Int)=G co (i:Int)):∀ n,onN F co n=onN G co n
 | 0=>rfl
 | n+1=>by rw[onN,onN,onN_congr h n,h n]
theorem onN_map {F G:Int→Int→Option Pt} {co:Int} {g:Pt→Pt} (h:∀ i:Nat,G co (i:Int)=(F co (i:Int)).map g):∀ n,onN G co n=(onN F co n).map g
 | 0=>rfl
 | n+1=>by
  rw[onN,onN,onN_map h n,h n,List.map_append]
  cases F co (n:Int) <;> rfl
theorem rkM_zero (F:Int→Int→Option Pt) (n:Nat):rkM F n 0=F:=by
 funext a b;unfold rkM;rw[if_neg (by omega)]
theorem rkM_on {F:Int→Int→Option Pt} {n c:Nat} {co:Int} (h:(c:Int)≤co):onN (rkM F n c) co n=onN F co n:=onN_congr (fun i=>by unfold rkM;rw[if_neg (by omega)]) n
theorem rkM_nt {F:Int→Int→Option Pt} {n c:Nat} {co:Int} (h:(c:Int)≤co):ntL (rkM F n c) co n=ntL F co n:=by unfold ntL;rw[rkM_on h]
theorem rkM_succ (F:Int→Int→Option Pt) (n c:Nat):rk1 (rkM F n c) n (c:Int)=rkM F n (c+1):=by
 funext a b
 unfold rk1
 by_cases e:a=(c:Int)
 ·subst e
  rw[if_pos rfl]
  have h1:rkM F n c (c:Int) b=F (c:Int) b:=by unfold rkM;rw[if_neg (by omega)]
  have h2:rkM F n (c+1) (c:Int) b=(F (c:Int) b).map (rkO F n (c:Int)):=by unfold rkM;rw[if_pos (by omega)]
  rw[h1,h2]
  congr 1
  funext x
  unfold rkO
  rw[rkM_nt (Int.le_refl _)]
 ·rw[if_neg e]
  unfold rkM
  by_cases h:0≤a∧a<(c:Int)
  ·rw[if_pos h,if_pos (by omega)]
  ·rw[if_neg h,if_neg (by omega)]
theorem rkO_at {F:Int→Int→Option Pt} {n:Nat} {co:Int} (x:Pt):(rkO F n co x).p.co=x.p.co∧(rkO F n co x).p.bu=x.p.bu∧(rkO F n co x).p.de=x.p.de∧(rkO F n co x).p.ti=x.p.ti∧(rkO F n co x).i=x.i∧(rkO F n co x).k=x.k∧(rkO F n co x).la=x.la∧(rkO F n co x).dn=x.dn∧(rkO F n co x).ji=x.ji:=by
 unfold rkO
 split <;> exact⟨rfl,rfl,rfl,rfl,rfl,rfl,rfl,rfl,rfl⟩
theorem rkM_fok {F:Int→Int→Option Pt} {n:Nat} (h:Fok n F) (hn:n≤24) (c:Nat):Fok n (rkM F n c) :=
 ⟨fun a b x e=>by
  unfold rkM at e
  split at e
  ·cases e2:F a b with
   | none=>rw[e2] at e;cases e
   | some y =>
    rw[e2] at e
    simp only[Option.map_some,Option.some.injEq] at e
    obtain⟨h1,h2,h3⟩:=h.at_ _ _ _ e2
    obtain⟨r1,_,_,_,r5,_⟩:=rkO_at (F:=F) (n:=n) (co:=a) y
    rw[←e,r1,r5];exact⟨h1,h2,h3⟩
  ·exact h.at_ _ _ _ e,fun a b x e=>by
  unfold rkM at e
  split at e
  ·cases e2:F a b with
   | none=>rw[e2] at e;cases e
   | some y =>
    rw[e2] at e
    simp only[Option.map_some,Option.some.injEq] at e
    obtain⟨h1,h2,h3,h4⟩:=h.fit _ _ _ e2
    obtain⟨r1,r2,r3,_⟩:=rkO_at (F:=F) (n:=n) (co:=a) y
    have hp:inR (rkO F n a y).p.pr:=by
     unfold rkO
     split
     ·exact h4
     ·have h5:=List.countP_le_length (p:=fun z:Pt=>decide (z.p.de<y.p.de∨z.p.de=y.p.de∧z.i<y.i)) (l:=ntL F a n)
      have h6:(ntL F a n).length≤n:=Nat.le_trans (nt_len _) (onN_len n)
      show inR (((ntL F a n).countP _:Int)+1)
      unfold inR;omega
    rw[←e,r1,r2,r3];exact⟨h1,h2,h3,e▸(by rw[←e] at *;exact hp)⟩
  ·exact h.fit _ _ _ e⟩
theorem mpF_hit {Q:List Pt} {y:Pt}:y ∈ Q→(mpF Q y.p.co (y.i:Int)).isSome=true:=by
 have key:∀ (n:Nat) (Q:List Pt),Q.length=n→y ∈ Q→(mpF Q y.p.co (y.i:Int)).isSome=true:=by
  intro n
  induction n with
  | zero =>
       intro Q hQ h
       obtain rfl:Q = []:=List.eq_nil_of_length_eq_zero hQ
       cases h
  | succ n ih =>
   intro Q hQ h
   obtain⟨R,z,rfl⟩:∃ R z,Q=R ++ [z]:=⟨Q.dropLast,Q.getLast (by intro e;rw[e] at hQ;cases hQ),(List.dropLast_concat_getLast _).symm⟩
   rw[mpF_snoc]
   unfold upF
   split
   ·rfl
   ·next e =>
    rcases List.mem_append.1 h with h | h
    ·exact ih R (by simp at hQ;omega) h
    ·rw[List.mem_singleton] at h;subst h;exact absurd ⟨rfl,rfl⟩ e
 exact fun h=>key Q.length Q rfl h
theorem nodup_le : ∀ (n:Nat) (L:List Int),L.Nodup→(∀ x ∈ L,0≤x∧x<n)→L.length≤n
 | 0,L,_,h=>by
  cases L with
  | nil=>simp
  | cons a L=>have:=h a (by simp);omega
 | n+1,L,hn,h=>by
  have e:=nodup_le n (L.erase (n:Int)) (hn.erase _) (fun x hx=>by
   rw[hn.mem_erase_iff] at hx
   have:=h x hx.2
   have:=hx.1
   omega)
  have:=List.length_erase (a:=(n:Int)) (l:=L)
  rw[this] at e
  split at e <;> omega
theorem rgV_co {s:Sys} {t:Tsk} {x:Pt} (h:rgV s t x=true):0≤x.p.co∧x.p.co<s.co∧1≤x.p.bu:=by
 unfold rgV at h
 simp only[Bool.and_eq_true,Bool.not_eq_true',Bool.or_eq_false_iff,decide_eq_false_iff_not] at h
 omega
theorem vOk_few {s:Sys} {P:List Pt} (hs:s.co≤8) (hi:∀ x ∈ P,x.i<24) (h:vOk s P P.length=true):P.length≤192:=by
 have h1:=nodup_le 192 (P.map (fun x=>x.p.co*24+(x.i:Int))) (by
  show List.Pairwise _ _
  rw[List.pairwise_iff_getElem]
  intro i j hi' hj hij e
  simp only[List.length_map] at hi' hj
  simp only[List.getElem_map] at e
  have h2:=vOk_at h hj (List.getElem?_eq_getElem hj)
  unfold okB at h2
  rw[Bool.and_eq_true] at h2
  have h3:P[i] ∈ P.take j:=mem_take.2 ⟨i,hij,List.getElem?_eq_getElem hi'⟩
  have h4:=mpF_hit h3
  have hk:P[i].p.co=P[j].p.co∧(P[i].i:Int)=(P[j].i:Int):=by
   have a1:=hi P[i] (List.getElem_mem _)
   have a2:=hi P[j] (List.getElem_mem _)
   omega
  rw[hk.1,hk.2] at h4
  rw[h4] at h2
  simp at h2) (fun z hz=>by
  obtain⟨x,hx,rfl⟩:=List.mem_map.1 hz
  obtain⟨k,hk⟩:=List.mem_iff_getElem?.1 hx
  have hkl:k<P.length:=(List.getElem?_eq_some_iff.1 hk).1
  have h2:=vOk_at h hkl hk
  unfold okB at h2
  rw[Bool.and_eq_true] at h2
  have h3:=rgV_co h2.2
  have h4:=hi x hx
  omega)
 simpa using h1
theorem vOk_pre {s:Sys} {P R:List Pt}:∀ q,q≤P.length→vOk s (P ++ R) q=vOk s P q
 | 0,_=>rfl
 | q+1,h=>by
  have hx:P[q]? = some P[q]:=List.getElem?_eq_getElem (by omega)
  rw[vOk_next hx,vOk_next (P:=P ++ R) (x:=P[q]) (by rw[List.getElem?_append_left (by omega)];exact hx),vOk_pre q (by omega),List.take_append_of_le_length (by omega)]
theorem vOk_snoc (s:Sys) (P:List Pt) (x:Pt):vOk s (P ++ [x]) (P ++ [x]).length=(vOk s P P.length && okB s P x):=by
 have e:(P ++ [x]).length=P.length+1:=by simp
 rw[e,vOk_next (x:=x) (by simp),vOk_pre _ (Nat.le_refl _),List.take_left]
end Go.Proofs.YtikcigjbhohboaaGreat.pln
end
section
namespace Go.Proofs.YtikcigjbhohboaaGreat.pln
open Go.ChangeShapes Go.WideShapes Go.ChangeAt Go.RowKit Go.Deep val
theorem rkT_hit {F:Int→Int→Option Pt} {l:List Pt} (hd:∀ (i j:Nat) (x y:Pt),l[i]? = some x→l[j]? = some y→x.i=y.i→i=j):∀ q,q≤l.length→∀ p y,p<q→l[p]? = some y→rkT F l q y.p.co (y.i:Int)=some (spP y ((p:Int)+1))
 | 0,_,p,y,h,_=>absurd h (by omega)
 | q+1,hq,p,y,h,hy=>by
  have hx:l[q]? = some l[q]:=List.getElem?_eq_getElem (by omega)
  rw[rkT_snoc hx]
  unfold upF
  by_cases e:p=q
  ·subst e
   rw[hx] at hy
   simp only[Option.some.injEq] at hy
   rw[hy,if_pos ⟨rfl,rfl⟩]
  ·rw[if_neg (fun ⟨_,h2⟩=>e (hd p q y l[q] hy hx (by omega)))]
   exact rkT_hit hd q (by omega) p y (by omega) hy
theorem rkT_miss {F:Int→Int→Option Pt} {l:List Pt} {a b:Int}:∀ q,q≤l.length→(∀ y ∈ l,¬(a=y.p.co∧b=(y.i:Int)))→rkT F l q a b=F a b
 | 0,_,_=>rfl
 | q+1,hq,h=>by
  have hx:l[q]? = some l[q]:=List.getElem?_eq_getElem (by omega)
  rw[rkT_snoc hx]
  unfold upF
  rw[if_neg (h _ (List.getElem_mem _))]
  exact rkT_miss q (by omega) h
theorem ltp_irr {x y:Pt} (h:ltp x y):¬ltp y x:=by
 unfold ltp at *;omega
theorem ltp_self (x:Pt):¬ltp x x:=by unfold ltp;omega
theorem count_place {l:List Pt}:∀ {p:Nat} {x:Pt},l.Pairwise ltp→l[p]? = some x→l.countP (fun y=>decide (y.p.de<x.p.de∨y.p.de=x.p.de∧y.i<x.i))=p:=by
 induction l with
 | nil=>intro p x _ h;simp at h
 | cons z l ih =>
  intro p x hs h
  obtain⟨h1,h2⟩:=List.pairwise_cons.1 hs
  cases p with
  | zero =>
   simp only[List.getElem?_cons_zero,Option.some.injEq] at h
   subst h
   rw[List.countP_eq_zero]
   intro y hy
   rcases List.mem_cons.1 hy with rfl | hy
   ·have:=ltp_self y;unfold ltp at this;simp
   ·have:=ltp_irr (h1 y hy);unfold ltp at this;simpa using this
  | succ p =>
   rw[List.getElem?_cons_succ] at h
   have hz:=h1 x (List.mem_of_getElem? h)
   rw[List.countP_cons,ih h2 h]
   unfold ltp at hz
   simp[hz]
theorem rkT_is {F:Int→Int→Option Pt} {n:Nat} {co:Int} {l':List Pt} (hF:Fok n F) (hp:l'.Perm (ntL F co n)) (hs:l'.Pairwise ltp):rkT F l' l'.length=rk1 F n co:=by
 have hmem:∀ y,y ∈ l' ↔ y ∈ onN F co n∧y.p.ti=false:=fun y=>by
  rw[hp.mem_iff];unfold ntL;rw[List.mem_filter];simp
 have hin:∀ y ∈ l',F co (y.i:Int)=some y∧y.p.co=co:=fun y hy=>by
  obtain⟨i,_,e⟩:=onN_mem ((hmem y).1 hy).1
  obtain⟨h1,h2,_⟩:=hF.at_ _ _ _ e
  exact⟨by rw[h2];exact e,h1⟩
 have hd:∀ (i j:Nat) (x y:Pt),l'[i]? = some x→l'[j]? = some y→x.i=y.i→i=j:=fun i j x y hi hj e=>by
  have hxy:x=y:=by
   have h1:=(hin x (List.mem_of_getElem? hi)).1
   have h2:=(hin y (List.mem_of_getElem? hj)).1
   rw[e,h2] at h1;exact(Option.some.inj h1).symm
  subst hxy
  have h1:=count_place hs hi
  have h2:=count_place hs hj
  omega
 funext a b
 unfold rk1
 by_cases ha:a=co
 ·subst ha
  rw[if_pos rfl]
  cases e:F a b with
  | none =>
   rw[rkT_miss _ (Nat.le_refl _) (fun y hy ⟨_,h2⟩=>by have:=(hin y hy).1;rw[←h2,e] at this;cases this),e];rfl
  | some x =>
   obtain⟨h1,h2,h3⟩:=hF.at_ _ _ _ e
   cases ht:x.p.ti with
   | true =>
    rw[rkT_miss _ (Nat.le_refl _) (fun y hy ⟨_,h4⟩=>by
     have:=(hin y hy).1
     rw[←h4,e] at this
     cases this
     have:=((hmem x).1 hy).2
     rw[ht] at this;cases this),e]
    simp[rkO,ht]
   | false =>
    have hx:x ∈ l':=(hmem x).2 ⟨by
     have hpre:=onN_pre (F:=F) (co:=a) (i:=x.i+1) (n:=n) (by omega)
     have h9:x ∈ onN F a (x.i+1):=by rw[onN_some (by rw[h2];exact e)];simp
     exact hpre.subset h9,ht⟩
    obtain⟨p,hpx⟩:=List.mem_iff_getElem?.1 hx
    have hlt:p<l'.length:=(List.getElem?_eq_some_iff.1 hpx).1
    have hh:=rkT_hit (F:=F) hd _ (Nat.le_refl _) p x hlt hpx
    rw[h1,h2] at hh
    rw[hh]
    have hc:=count_place hs hpx
    rw[hp.countP_eq] at hc
    simp only[Option.map_some,rkO,ht,Bool.false_eq_true,if_false]
    rw[hc]
 ·rw[if_neg ha]
  exact rkT_miss _ (Nat.le_refl _) (fun y hy ⟨h1,_⟩=>ha (by rw[h1,(hin y hy).2]))
end Go.Proofs.YtikcigjbhohboaaGreat.pln
end
