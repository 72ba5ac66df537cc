/- Part 28 of a proof: PlR12 PlS1 PlE PlS2 PlS4. -/
import Derived.Test.YtjfaiaipojfhgaaGreatK01
import Derived.Test.YtjfaiaipojfhgaaGreatK22
import Derived.Test.YtjfaiaipojfhgaaGreatK27
section
namespace Go.Proofs.YtjfaiaipojfhgaaGreat.pln
open Go.ChangeShapes Go.WideShapes Go.ChangeAt Go.RowKit Go.Deep val ter
def sumB (s:Sys) (l:List Pc):Nat→Int
 | 0=>0
 | k+1=>sumB s l k+(l.getD k pc0).bu+s.la-1
def ap0 : Ap:=⟨pc0,0,0⟩
def bndX (s:Sys) (R:List (List Pc)) (Z:List (List Int)) (l:List Ap) (c:Nat) (x:Ap):Int:=if s.po=2 then (s.ts.getD x.i ts0).d else (fixV s R Z l c x).1+sumB s (R.getD x.i []) x.k
def bdJ (s:Sys) (R:List (List Pc)) (Z:List (List Int)) (l:List Ap) (c:Nat) (f:Nat→Int):Nat→Nat→Int
 | 0=>f
 | j+1=>if (l.getD j ap0).p.ti=true then bdJ s R Z l c f j else fun i=>if i=(l.getD j ap0).i then bndX s R Z l c (l.getD j ap0) else bdJ s R Z l c f j i
def erX (s:Sys) (R:List (List Pc)) (Z:List (List Int)) (l:List Ap) (c:Nat) (x:Ap):Int:=if x.p.ti=true∨s.po=2 then 0 else (fixV s R Z l c x).2
def erJ (s:Sys) (R:List (List Pc)) (Z:List (List Int)) (l:List Ap) (c:Nat):Nat→Int
 | 0=>0
 | j+1=>if erJ s R Z l c j≠0 then erJ s R Z l c j else erX s R Z l c (l.getD j ap0)
def erC (s:Sys) (R:List (List Pc)) (Z:List (List Int)) (l:List Ap) (c:Nat):Int:=if s.po=2∧l ≠ []∧edfV s R Z l c≠0 then edfV s R Z l c else erJ s R Z l c l.length
def bdC (s:Sys) (R:List (List Pc)) (Z:List (List Int)):Nat→Nat→Int
 | 0=>fun _=>0
 | c+1=>bdJ s R Z (apS (c:Int) R) c (bdC s R Z c) (apS (c:Int) R).length
def erN (s:Sys) (R:List (List Pc)) (Z:List (List Int)):Nat→Int × Int
 | 0=>(-1,0)
 | c+1=>if (erN s R Z c).2≠0 then erN s R Z c else if erC s R Z (apS (c:Int) R) c≠0 then ((c:Int),erC s R Z (apS (c:Int) R) c) else (-1,0)
def chkV (s:Sys) (L:List (List Pc)):List Int × Int × Int :=
 if plR s L=true then (if (erN s (rkV s L) (ceV s L) s.co.toNat).2≠0 then ([],erN s (rkV s L) (ceV s L) s.co.toNat) else ((List.range L.length).map (bdC s (rkV s L) (ceV s L) s.co.toNat), -1,0)) else ([], -1,1)
theorem erJ_le {s:Sys} {R:List (List Pc)} {Z:List (List Int)} {l:List Ap} {c:Nat}:∀ {m j:Nat},j≤m→erJ s R Z l c j≠0→erJ s R Z l c m=erJ s R Z l c j
 | 0,j,h,_=>by
    obtain rfl:j=0:=by omega
    rfl
 | m+1,j,h,h0=>by
  by_cases e:j=m+1
  ·rw[e]
  ·have ih:=erJ_le (m:=m) (by omega) h0
   rw[erJ,if_pos (by rw[ih];exact h0),ih]
theorem erN_le {s:Sys} {R:List (List Pc)} {Z:List (List Int)}:∀ {m j:Nat},j≤m→(erN s R Z j).2≠0→erN s R Z m=erN s R Z j
 | 0,j,h,_=>by
    obtain rfl:j=0:=by omega
    rfl
 | m+1,j,h,h0=>by
  by_cases e:j=m+1
  ·rw[e]
  ·have ih:=erN_le (m:=m) (by omega) h0
   rw[erN,if_pos (by rw[ih];exact h0),ih]
theorem getA {l:List Ap} {j:Nat} {x:Ap} (h:l[j]? = some x):l.getD j ap0=x:=by simp[List.getD,h]
theorem okL_bu {s:Sys} {t:Tsk} {l:List Pc} {k:Nat} {x:Pc} (h:okL s t l=true) (hx:l[k]? = some x):1≤x.bu∧x.bu≤t.w:=by
 have hk:k<l.length:=(List.getElem?_eq_some_iff.1 hx).1
 unfold okL at h
 simp only[Bool.and_eq_true] at h
 have h1:=okN_le (show k+1≤l.length by omega) h.2.1
 rw[okN,getD_some hx,Bool.and_eq_true] at h1
 have h2:=h1.2
 unfold badP bad1 at h2
 simp only[Bool.not_eq_true',Bool.or_eq_false_iff,decide_eq_false_iff_not] at h2
 omega
theorem rkL_at {s:Sys} {L:List (List Pc)} {i:Nat} {l:List Pc} {k:Nat} {y:Pc} (h:(rkL s L i l)[k]? = some y):∃ x,l[k]? = some x∧y=rkP s L i x:=by
 unfold rkL at h
 rw[List.getElem?_map] at h
 cases e:l[k]? with
 | none=>rw[e] at h;cases h
 | some x=>rw[e] at h;exact⟨x,rfl,by simpa using h.symm⟩
theorem rk_ap {s:Sys} {L:List (List Pc)} {w:World} {A:Option Addr} {N:Nat} (hl:RPl w A N L) (h:plR s L=true) {c:Int} {y:Ap} (hy:y ∈ apS c (rkV s L)):∃ l x t,L[y.i]? = some l∧l[y.k]? = some x∧s.ts[y.i]? = some t∧y.p=rkP s L y.i x∧(rkV s L)[y.i]? = some (rkL s L y.i l)∧(rkL s L y.i l)[y.k]? = some y.p∧y.p.co=c∧(1≤x.bu∧x.bu≤t.w)∧inR x.de∧y.k<8:=by
 obtain⟨hr,hlen,hok⟩:=plR_parts h
 obtain⟨ls,h1,h2,h3⟩:=apS_mem hy
 have hi:y.i<L.length:=by have:=(List.getElem?_eq_some_iff.1 h1).1;rw[rkV_len] at this;exact this
 obtain⟨l,hli⟩:∃ l,L[y.i]? = some l:=⟨_,List.getElem?_eq_getElem hi⟩
 obtain⟨t,hti⟩:∃ t,s.ts[y.i]? = some t:=⟨_,List.getElem?_eq_getElem (by omega)⟩
 have h4:=rkV_at (s:=s) hli
 rw[h4] at h1
 cases h1
 obtain⟨x,hx,hxp⟩:=rkL_at h2
 have h5:=okS_at hok hli
 rw[getT hti] at h5
 obtain⟨_,_,_,_,_,_,_,_,hp⟩:=hl.at1 hli
 have h8:=okL_len h5
 have hk:=(List.getElem?_eq_some_iff.1 hx).1
 exact⟨l,x,t,hli,hx,hti,hxp,h4,h2,h3,okL_bu h5 hx,(hp.fit x (List.mem_of_getElem? hx)).2.2.1,by omega⟩
theorem rk_inP {s:Sys} {L:List (List Pc)} {w:World} {A:Option Addr} {N:Nat} (hl:RPl w A N L) (h:plR s L=true) (c:Int):InP (rkV s L) (apS c (rkV s L))∧(∀ y ∈ apS c (rkV s L),y.k≤8)∧(apS c (rkV s L)).length≤200:=by
 have hr:=(plR_parts h).1
 refine⟨fun y hy=>?_,fun y hy=>?_,?_⟩
 ·obtain⟨l,x,t,h1,h2,h3,h4,h5,h6,h7,h8,h9,_⟩:=rk_ap hl h hy
  have hw:=((right_nums hr).2.2.2 t (List.mem_of_getElem? h3)).1
  refine⟨⟨_,h5,h6⟩,?_,?_⟩
  ·rw[h4];show 0≤x.bu∧x.bu≤1099511627776;omega
  ·rw[h4];exact h9
 ·obtain⟨_,_,_,_,_,_,_,_,_,_,_,_,h10⟩:=rk_ap hl h hy
  omega
 ·obtain⟨hL,h8⟩:=plR_small h
  have h1:=apN_len (c:=c) (L:=rkV s L) (B:=8) (fun m hm=>by obtain⟨i,l,hl,rfl⟩:=rkV_mem hm;unfold rkL;rw[List.length_map];exact h8 l (List.mem_of_getElem? hl)) (rkV s L).length (Nat.le_refl _)
  unfold apS
  rw[rkV_len] at h1 ⊢
  omega
theorem sumB_next {s:Sys} {l:List Pc} {k:Nat} {x:Pc} (h:l[k]? = some x):sumB s l (k+1)=sumB s l k+x.bu+s.la-1:=by rw[sumB,getD_some h]
end Go.Proofs.YtjfaiaipojfhgaaGreat.pln
end
section
namespace Go.Proofs.YtjfaiaipojfhgaaGreat.pln
open val ter
def fpL (i:Nat) (l:List Pc):Nat→List (Nat × Pc)
 | 0=>[]
 | k+1=>fpL i l k ++ [(i,l.getD k pc0)]
def fpN (L:List (List Pc)):Nat→List (Nat × Pc)
 | 0=>[]
 | i+1=>fpN L i ++ fpL i (L.getD i []) (L.getD i []).length
theorem aL_count (task:Int) (p:Pc) (i:Nat) (l:List Pc):∀ k,aL task p i l k=(((fpL i l k).countP fun z=>aC task p z.1 z.2:Nat):Int)
 | 0=>rfl
 | k+1=>by
  rw[aL,aL_count task p i l k,fpL,List.countP_append]
  by_cases h:aC task p i (l.getD k pc0)=true
  ·rw[if_pos h,List.countP_cons_of_pos (by exact h)];simp
  ·rw[if_neg h,List.countP_cons_of_neg (by exact h)];simp
theorem aN_count (task:Int) (p:Pc) (L:List (List Pc)):∀ i,aN task p L i=(((fpN L i).countP fun z=>aC task p z.1 z.2:Nat):Int)
 | 0=>rfl
 | i+1=>by
  rw[aN,aN_count task p L i,aL_count,fpN,List.countP_append];simp
theorem fpL_mem {i:Nat} {l:List Pc} {z:Nat × Pc}:∀ {k:Nat},k≤l.length→(z ∈ fpL i l k ↔ z.1=i∧∃ j,j<k∧l[j]? = some z.2)
 | 0,_=>by simp[fpL]
 | k+1,hk=>by
  have hx:l[k]? = some l[k]:=List.getElem?_eq_getElem (by omega)
  rw[fpL,List.mem_append,fpL_mem (by omega),List.mem_singleton,getD_some hx]
  constructor
  ·rintro(⟨h1,j,hj,h2⟩ | rfl)
   ·exact⟨h1,j,by omega,h2⟩
   ·exact⟨rfl,k,by omega,hx⟩
  ·rintro⟨h1,j,hj,h2⟩
   by_cases e:j=k
   ·subst e
    rw[hx] at h2
    right
    obtain⟨a,b⟩:=z
    dsimp only at h1 h2
    rw[h1,Option.some.inj h2]
   ·exact .inl ⟨h1,j,by omega,h2⟩
theorem fpN_mem {L:List (List Pc)} {z:Nat × Pc}:∀ {i:Nat},i≤L.length→(z ∈ fpN L i ↔ z.1<i∧∃ (l:List Pc) (j:Nat),L[z.1]? = some l∧l[j]? = some z.2)
 | 0,_=>by simp[fpN]
 | i+1,hi=>by
  have hl:L[i]? = some L[i]:=List.getElem?_eq_getElem (by omega)
  rw[fpN,List.mem_append,fpN_mem (by omega),getL hl,fpL_mem (Nat.le_refl _)]
  constructor
  ·rintro(⟨h1,h2⟩ | ⟨h1,j,hj,h2⟩)
   ·exact⟨by omega,h2⟩
   ·exact⟨by omega,L[i],j,by rw[h1];exact hl,h2⟩
  ·rintro⟨h1,l,j,h2,h3⟩
   by_cases e:z.1=i
   ·rw[e,hl] at h2
    cases h2
    exact .inr ⟨e,j,(List.getElem?_eq_some_iff.1 h3).1,h3⟩
   ·exact .inl ⟨by omega,l,j,h2,h3⟩
theorem okL_piece {s:Sys} {t:Tsk} {l:List Pc} {k:Nat} {x:Pc} (h:okL s t l=true) (hx:l[k]? = some x):badP s t l k x=false:=by
 have hk:k<l.length:=(List.getElem?_eq_some_iff.1 hx).1
 unfold okL at h
 simp only[Bool.and_eq_true] at h
 have h1:=okN_le (show k+1≤l.length by omega) h.2.1
 rw[okN,getD_some hx,Bool.and_eq_true] at h1
 simpa using h1.2
theorem okL_core_one {s:Sys} {t:Tsk} {l:List Pc} {k k':Nat} {x y:Pc} (h:okL s t l=true) (hx:l[k]? = some x) (hy:l[k']? = some y) (hc:x.co=y.co):k=k':=by
 have aux:∀ {k k':Nat} {x y:Pc},l[k]? = some x→l[k']? = some y→x.co=y.co→¬k<k':=fun {k k' x y} hx hy hc hlt=>by
  have h1:=okL_piece h hy
  unfold badP at h1
  rw[bad2_next hlt hx hc] at h1
  simp at h1
 have h1:=aux hx hy hc
 have h2:=aux hy hx hc.symm
 omega
theorem okL_tight {s:Sys} {t:Tsk} {l:List Pc} {k:Nat} {x:Pc} (h:okL s t l=true) (hx:l[k]? = some x) (ht:x.ti=false):k+1=l.length:=by
 have h1:=okL_piece h hx
 unfold badP bad1 at h1
 rw[ht] at h1
 simp only[Bool.or_eq_false_iff] at h1
 have h2:=h1.1.2.2.2.2.1
 simpa using h2
def Bf (i:Nat) (x:Pc) (j:Nat) (y:Pc):Prop:=x.de<y.de∨(x.de=y.de∧i<j)
theorem aC_iff {j:Nat} {y:Pc} {i:Nat} {x:Pc}:aC (j:Int) y i x=true ↔ x.co=y.co∧x.ti=false∧i≠j∧Bf i x j y:=by
 unfold aC Bf
 simp only[Bool.and_eq_true,decide_eq_true_eq,Bool.not_eq_true',decide_eq_false_iff_not,Bool.or_eq_true]
 constructor <;> rintro⟨h1,h2,h3,h4⟩ <;> refine⟨h1,h2,?_,?_⟩ <;> omega
theorem ahead_zp (i:Nat) (x:Pc) (L:List (List Pc)):aheadV (i:Int) (zp x) L=aheadV (i:Int) x L:=by
 unfold aheadV
 rw[aN_count,aN_count]
 rfl
end Go.Proofs.YtjfaiaipojfhgaaGreat.pln
end
section
namespace Go.Proofs.YtjfaiaipojfhgaaGreat.dem
structure Less2 (l l':List Wk) (bl bl' rl rl':Int):Prop where
 right:right l' bl' rl'=true
 ask:∀ m,1≤m→askS l' bl' rl' m≤askS l bl rl m
 com:∀ m,1≤m→comS l' bl' rl' m≤comS l bl rl m
 fac:∀ x ∈ l',∃ y ∈ l,y.p=x.p
 ld:ldS rl' l'≤ldS rl l
 least:least l'=0∨(least l≠0∧least l≤least l')
def Emb {α:Type} (r:α→α→Prop):List α→List α→Prop
 | [],m=>m = []
 | y :: l,m=>Emb r l m∨∃ x t,m=x :: t∧r x y∧Emb r l t
theorem emb_len {α:Type} {r:α→α→Prop}:∀ {l m:List α},Emb r l m→m.length≤l.length
 | [],m,h=>by rw[Emb] at h;rw[h];exact Nat.le_refl _
 | y :: l,m,h=>by
  rw[Emb] at h
  rcases h with h | ⟨x,t,rfl,_,h⟩
  ·have:=emb_len h;rw[List.length_cons];omega
  ·have:=emb_len h;rw[List.length_cons,List.length_cons];omega
theorem emb_mem {α:Type} {r:α→α→Prop}:∀ {l m:List α},Emb r l m→∀ x ∈ m,∃ y ∈ l,r x y
 | [],m,h,x,hx=>by rw[Emb] at h;rw[h] at hx;cases hx
 | y :: l,m,h,x,hx=>by
  rw[Emb] at h
  rcases h with h | ⟨x',t,rfl,hr,h⟩
  ·obtain⟨z,hz,hq⟩:=emb_mem h x hx;exact⟨z,by simp[hz],hq⟩
  ·rcases List.mem_cons.1 hx with rfl | hx
   ·exact⟨y,by simp,hr⟩
   ·obtain⟨z,hz,hq⟩:=emb_mem h x hx;exact⟨z,by simp[hz],hq⟩
end Go.Proofs.YtjfaiaipojfhgaaGreat.dem
namespace Go.Proofs.YtjfaiaipojfhgaaGreat.rsp
open dem (Emb emb_mem emb_len)
end Go.Proofs.YtjfaiaipojfhgaaGreat.rsp
end
section
namespace Go.Proofs.YtjfaiaipojfhgaaGreat.pln
open val ter
structure RelA (s s':Sys) (L L':List (List Pc)):Prop where
 ok:plR s L=true
 ok':plR s' L'=true
 po:s'.po=s.po
 pr:s'.pr=s.pr
 la:s'.la=s.la
 co:s'.co=s.co
 rs:s'.rs=s.rs
 ts:s'.ts=s.ts
 re:0≤s'.re∧s'.re≤s.re
 sw:0≤s'.sw∧s'.sw≤s.sw
 fi:0≤s'.fi∧s'.fi≤s.fi
 len:L'.length=L.length
 at_:∀ (i:Nat) (l:List Pc),L'[i]? = some l→l = []∨L[i]? = some l
theorem wh_at {L:List (List Pc)} {i:Nat} {l:List Pc} (h:L[i]? = some l):(L.map whO).getD i 0=whO l:=by simp[List.getD,h]
theorem whO_rk (s:Sys) (L:List (List Pc)) (i:Nat) (l:List Pc):whO (rkL s L i l)=whO l:=by
 unfold whO rkL
 rw[List.length_map]
 cases l with
 | nil=>rfl
 | cons x l=>rfl
theorem wh_rk (s:Sys) (L:List (List Pc)):(rkV s L).map whO=L.map whO:=by
 apply List.ext_getElem?
 intro i
 rw[List.getElem?_map,List.getElem?_map]
 cases h:L[i]? with
 | none =>
  have h1:(rkV s L)[i]? = none:=by
   rw[List.getElem?_eq_none_iff] at h ⊢
   rw[rkV_len];exact h
  rw[h1]
 | some l =>
  rw[rkV_at h]
  show some (whO (rkL s L i l))=some (whO l)
  rw[whO_rk]
end Go.Proofs.YtjfaiaipojfhgaaGreat.pln
end
section
namespace Go.Proofs.YtjfaiaipojfhgaaGreat.pln
open val ter
structure CmpA (s s':Sys) (L L':List (List Pc)) (c:Nat) (pr pr':Int):Prop where
 lt:s.po=1→∀ (i:Nat) (y:Pc),L'[i]? = some [y]→L[i]? = some [y]→y.ti=false→y.co=(c:Int)→((rkP s' L' i y).pr<pr' ↔ (rkP s L i y).pr<pr)
 gt:s.pr=2→∀ (i:Nat) (y:Pc),L'[i]? = some [y]→L[i]? = some [y]→y.ti=false→y.co=(c:Int)→(pr'<(rkP s' L' i y).pr ↔ pr<(rkP s L i y).pr)
 ce:s.pr=2→∀ (i:Nat) (y:Pc),L'[i]? = some [y]→L[i]? = some [y]→y.ti=false→y.co=(c:Int)→(pr'<ceP s' L' i [y] ↔ pr<ceP s L i [y])
end Go.Proofs.YtjfaiaipojfhgaaGreat.pln
end
