/- Part 21 of a proof: PlR12 PlS1 PlE PlS2 PlS4 PlS6 PlR13 PlS9 PlX PlX2. -/
import Derived.Test.YtikcigjbhohboaaGreatM02
import Derived.Test.YtikcigjbhohboaaGreatM19
import Derived.Test.YtikcigjbhohboaaGreatM20
section
namespace Go.Proofs.YtikcigjbhohboaaGreat.pln
open Go.ChangeShapes Go.WideShapes Go.ChangeAt Go.RowKit Go.Deep val ter
def sumB (s:Sys) (l:List Pc):Nat→Int
 | 0=>0
 | k+1=>sumB s l k+(l.getD k pc0).bu+s.la-1
def ap0 : Ap:=⟨pc0,0,0⟩
def bndX (s:Sys) (R:List (List Pc)) (Z:List (List Int)) (l:List Ap) (c:Nat) (x:Ap):Int:=if s.po=2 then (s.ts.getD x.i ts0).d else (fixV s R Z l c x).1+sumB s (R.getD x.i []) x.k
def bdJ (s:Sys) (R:List (List Pc)) (Z:List (List Int)) (l:List Ap) (c:Nat) (f:Nat→Int):Nat→Nat→Int
 | 0=>f
 | j+1=>if (l.getD j ap0).p.ti=true then bdJ s R Z l c f j else fun i=>if i=(l.getD j ap0).i then bndX s R Z l c (l.getD j ap0) else bdJ s R Z l c f j i
def erX (s:Sys) (R:List (List Pc)) (Z:List (List Int)) (l:List Ap) (c:Nat) (x:Ap):Int:=if x.p.ti=true∨s.po=2 then 0 else (fixV s R Z l c x).2
def erJ (s:Sys) (R:List (List Pc)) (Z:List (List Int)) (l:List Ap) (c:Nat):Nat→Int
 | 0=>0
 | j+1=>if erJ s R Z l c j≠0 then erJ s R Z l c j else erX s R Z l c (l.getD j ap0)
def erC (s:Sys) (R:List (List Pc)) (Z:List (List Int)) (l:List Ap) (c:Nat):Int:=if s.po=2∧l ≠ []∧edfV s R Z l c≠0 then edfV s R Z l c else erJ s R Z l c l.length
def bdC (s:Sys) (R:List (List Pc)) (Z:List (List Int)):Nat→Nat→Int
 | 0=>fun _=>0
 | c+1=>bdJ s R Z (apS (c:Int) R) c (bdC s R Z c) (apS (c:Int) R).length
def erN (s:Sys) (R:List (List Pc)) (Z:List (List Int)):Nat→Int × Int
 | 0=>(-1,0)
 | c+1=>if (erN s R Z c).2≠0 then erN s R Z c else if erC s R Z (apS (c:Int) R) c≠0 then ((c:Int),erC s R Z (apS (c:Int) R) c) else (-1,0)
def chkV (s:Sys) (L:List (List Pc)):List Int × Int × Int :=
 if plR s L=true then (if (erN s (rkV s L) (ceV s L) s.co.toNat).2≠0 then ([],erN s (rkV s L) (ceV s L) s.co.toNat) else ((List.range L.length).map (bdC s (rkV s L) (ceV s L) s.co.toNat), -1,0)) else ([], -1,1)
theorem rkL_at {s:Sys} {L:List (List Pc)} {i:Nat} {l:List Pc} {k:Nat} {y:Pc} (h:(rkL s L i l)[k]? = some y):∃ x,l[k]? = some x∧y=rkP s L i x:=by
 unfold rkL at h
 rw[List.getElem?_map] at h
 cases e:l[k]? with
 | none=>rw[e] at h;cases h
 | some x=>rw[e] at h;exact⟨x,rfl,by simpa using h.symm⟩
end Go.Proofs.YtikcigjbhohboaaGreat.pln
end
section
namespace Go.Proofs.YtikcigjbhohboaaGreat.pln
open val ter
def fpL (i:Nat) (l:List Pc):Nat→List (Nat × Pc)
 | 0=>[]
 | k+1=>fpL i l k ++ [(i,l.getD k pc0)]
def fpN (L:List (List Pc)):Nat→List (Nat × Pc)
 | 0=>[]
 | i+1=>fpN L i ++ fpL i (L.getD i []) (L.getD i []).length
theorem aL_count (task:Int) (p:Pc) (i:Nat) (l:List Pc):∀ k,aL task p i l k=(((fpL i l k).countP fun z=>aC task p z.1 z.2:Nat):Int)
 | 0=>rfl
 | k+1=>by
  rw[aL,aL_count task p i l k,fpL,List.countP_append]
  by_cases h:aC task p i (l.getD k pc0)=true
  ·rw[if_pos h,List.countP_cons_of_pos (by exact h)];simp
  ·rw[if_neg h,List.countP_cons_of_neg (by exact h)];simp
theorem aN_count (task:Int) (p:Pc) (L:List (List Pc)):∀ i,aN task p L i=(((fpN L i).countP fun z=>aC task p z.1 z.2:Nat):Int)
 | 0=>rfl
 | i+1=>by
  rw[aN,aN_count task p L i,aL_count,fpN,List.countP_append];simp
theorem fpL_mem {i:Nat} {l:List Pc} {z:Nat × Pc}:∀ {k:Nat},k≤l.length→(z ∈ fpL i l k ↔ z.1=i∧∃ j,j<k∧l[j]? = some z.2)
 | 0,_=>by simp[fpL]
 | k+1,hk=>by
  have hx:l[k]? = some l[k]:=List.getElem?_eq_getElem (by omega)
  rw[fpL,List.mem_append,fpL_mem (by omega),List.mem_singleton,getD_some hx]
  constructor
  ·rintro(⟨h1,j,hj,h2⟩ | rfl)
   ·exact⟨h1,j,by omega,h2⟩
   ·exact⟨rfl,k,by omega,hx⟩
  ·rintro⟨h1,j,hj,h2⟩
   by_cases e:j=k
   ·subst e
    rw[hx] at h2
    right
    obtain⟨a,b⟩:=z
    dsimp only at h1 h2
    rw[h1,Option.some.inj h2]
   ·exact .inl ⟨h1,j,by omega,h2⟩
theorem fpN_mem {L:List (List Pc)} {z:Nat × Pc}:∀ {i:Nat},i≤L.length→(z ∈ fpN L i ↔ z.1<i∧∃ (l:List Pc) (j:Nat),L[z.1]? = some l∧l[j]? = some z.2)
 | 0,_=>by simp[fpN]
 | i+1,hi=>by
  have hl:L[i]? = some L[i]:=List.getElem?_eq_getElem (by omega)
  rw[fpN,List.mem_append,fpN_mem (by omega),getL hl,fpL_mem (Nat.le_refl _)]
  constructor
  ·rintro(⟨h1,h2⟩ | ⟨h1,j,hj,h2⟩)
   ·exact⟨by omega,h2⟩
   ·exact⟨by omega,L[i],j,by rw[h1];exact hl,h2⟩
  ·rintro⟨h1,l,j,h2,h3⟩
   by_cases e:z.1=i
   ·rw[e,hl] at h2
    cases h2
    exact .inr ⟨e,j,(List.getElem?_eq_some_iff.1 h3).1,h3⟩
   ·exact .inl ⟨by omega,l,j,h2,h3⟩
theorem okL_piece {s:Sys} {t:Tsk} {l:List Pc} {k:Nat} {x:Pc} (h:okL s t l=true) (hx:l[k]? = some x):badP s t l k x=false:=by
 have hk:k<l.length:=(List.getElem?_eq_some_iff.1 hx).1
 unfold okL at h
 simp only[Bool.and_eq_true] at h
 have h1:=okN_le (show k+1≤l.length by omega) h.2.1
 rw[okN,getD_some hx,Bool.and_eq_true] at h1
 simpa using h1.2
theorem okL_core_one {s:Sys} {t:Tsk} {l:List Pc} {k k':Nat} {x y:Pc} (h:okL s t l=true) (hx:l[k]? = some x) (hy:l[k']? = some y) (hc:x.co=y.co):k=k':=by
 have aux:∀ {k k':Nat} {x y:Pc},l[k]? = some x→l[k']? = some y→x.co=y.co→¬k<k':=fun {k k' x y} hx hy hc hlt=>by
  have h1:=okL_piece h hy
  unfold badP at h1
  rw[bad2_next hlt hx hc] at h1
  simp at h1
 have h1:=aux hx hy hc
 have h2:=aux hy hx hc.symm
 omega
theorem okL_tight {s:Sys} {t:Tsk} {l:List Pc} {k:Nat} {x:Pc} (h:okL s t l=true) (hx:l[k]? = some x) (ht:x.ti=false):k+1=l.length:=by
 have h1:=okL_piece h hx
 unfold badP bad1 at h1
 rw[ht] at h1
 simp only[Bool.or_eq_false_iff] at h1
 have h2:=h1.1.2.2.2.2.1
 simpa using h2
def Bf (i:Nat) (x:Pc) (j:Nat) (y:Pc):Prop:=x.de<y.de∨(x.de=y.de∧i<j)
theorem aC_iff {j:Nat} {y:Pc} {i:Nat} {x:Pc}:aC (j:Int) y i x=true ↔ x.co=y.co∧x.ti=false∧i≠j∧Bf i x j y:=by
 unfold aC Bf
 simp only[Bool.and_eq_true,decide_eq_true_eq,Bool.not_eq_true',decide_eq_false_iff_not,Bool.or_eq_true]
 constructor <;> rintro⟨h1,h2,h3,h4⟩ <;> refine⟨h1,h2,?_,?_⟩ <;> omega
theorem ahead_zp (i:Nat) (x:Pc) (L:List (List Pc)):aheadV (i:Int) (zp x) L=aheadV (i:Int) x L:=by
 unfold aheadV
 rw[aN_count,aN_count]
 rfl
end Go.Proofs.YtikcigjbhohboaaGreat.pln
end
section
namespace Go.Proofs.YtikcigjbhohboaaGreat.dem
structure Less2 (l l':List Wk) (bl bl' rl rl':Int):Prop where
 right:right l' bl' rl'=true
 ask:∀ m,1≤m→askS l' bl' rl' m≤askS l bl rl m
 com:∀ m,1≤m→comS l' bl' rl' m≤comS l bl rl m
 fac:∀ x ∈ l',∃ y ∈ l,y.p=x.p
 ld:ldS rl' l'≤ldS rl l
 least:least l'=0∨(least l≠0∧least l≤least l')
end Go.Proofs.YtikcigjbhohboaaGreat.dem
namespace Go.Proofs.YtikcigjbhohboaaGreat.rsp
end Go.Proofs.YtikcigjbhohboaaGreat.rsp
end
section
namespace Go.Proofs.YtikcigjbhohboaaGreat.pln
open val ter
structure RelA (s s':Sys) (L L':List (List Pc)):Prop where
 ok:plR s L=true
 ok':plR s' L'=true
 po:s'.po=s.po
 pr:s'.pr=s.pr
 la:s'.la=s.la
 co:s'.co=s.co
 rs:s'.rs=s.rs
 ts:s'.ts=s.ts
 re:0≤s'.re∧s'.re≤s.re
 sw:0≤s'.sw∧s'.sw≤s.sw
 fi:0≤s'.fi∧s'.fi≤s.fi
 len:L'.length=L.length
 at_:∀ (i:Nat) (l:List Pc),L'[i]? = some l→l = []∨L[i]? = some l
theorem wh_at {L:List (List Pc)} {i:Nat} {l:List Pc} (h:L[i]? = some l):(L.map whO).getD i 0=whO l:=by simp[List.getD,h]
theorem whO_rk (s:Sys) (L:List (List Pc)) (i:Nat) (l:List Pc):whO (rkL s L i l)=whO l:=by
 unfold whO rkL
 rw[List.length_map]
 cases l with
 | nil=>rfl
 | cons x l=>rfl
theorem wh_rk (s:Sys) (L:List (List Pc)):(rkV s L).map whO=L.map whO:=by
 apply List.ext_getElem?
 intro i
 rw[List.getElem?_map,List.getElem?_map]
 cases h:L[i]? with
 | none =>
  have h1:(rkV s L)[i]? = none:=by
   rw[List.getElem?_eq_none_iff] at h ⊢
   rw[rkV_len];exact h
  rw[h1]
 | some l =>
  rw[rkV_at h]
  show some (whO (rkL s L i l))=some (whO l)
  rw[whO_rk]
end Go.Proofs.YtikcigjbhohboaaGreat.pln
end
section
namespace Go.Proofs.YtikcigjbhohboaaGreat.pln
open val ter
structure CmpA (s s':Sys) (L L':List (List Pc)) (c:Nat) (pr pr':Int):Prop where
 lt:s.po=1→∀ (i:Nat) (y:Pc),L'[i]? = some [y]→L[i]? = some [y]→y.ti=false→y.co=(c:Int)→((rkP s' L' i y).pr<pr' ↔ (rkP s L i y).pr<pr)
 gt:s.pr=2→∀ (i:Nat) (y:Pc),L'[i]? = some [y]→L[i]? = some [y]→y.ti=false→y.co=(c:Int)→(pr'<(rkP s' L' i y).pr ↔ pr<(rkP s L i y).pr)
 ce:s.pr=2→∀ (i:Nat) (y:Pc),L'[i]? = some [y]→L[i]? = some [y]→y.ti=false→y.co=(c:Int)→(pr'<ceP s' L' i [y] ↔ pr<ceP s L i [y])
end Go.Proofs.YtikcigjbhohboaaGreat.pln
end
section
namespace Go.Proofs.YtikcigjbhohboaaGreat.pln
open val ter
theorem apL_in {c:Int} {i:Nat} {l:List Pc} {k:Nat} {x:Pc} (hx:l[k]? = some x) (hc:x.co=c):∀ {n:Nat},k<n→n≤l.length→(⟨x,i,k⟩:Ap) ∈ apL c i l n
 | 0,h,_=>absurd h (by omega)
 | n+1,h,hn=>by
  have hy:l[n]? = some l[n]:=List.getElem?_eq_getElem (by omega)
  rw[apL_next hy,List.mem_append]
  by_cases e:k=n
  ·subst e
   rw[hx] at hy
   right
   rw[←Option.some.inj hy,if_pos hc]
   simp
  ·exact .inl (apL_in hx hc (by omega) (by omega))
theorem apN_in {c:Int} {L:List (List Pc)} {i k:Nat} {l:List Pc} {x:Pc} (hl:L[i]? = some l) (hx:l[k]? = some x) (hc:x.co=c):∀ {n:Nat},i<n→n≤L.length→(⟨x,i,k⟩:Ap) ∈ apN c L n
 | 0,h,_=>absurd h (by omega)
 | n+1,h,hn=>by
  obtain⟨m,hm⟩:∃ m,L[n]? = some m:=⟨_,List.getElem?_eq_getElem (by omega)⟩
  rw[apN_next hm,List.mem_append]
  by_cases e:i=n
  ·subst e
   rw[hl] at hm
   cases hm
   exact .inr (apL_in hx hc (List.getElem?_eq_some_iff.1 hx).1 (Nat.le_refl _))
  ·exact .inl (apN_in hl hx hc (by omega) (by omega))
theorem apS_in {c:Int} {L:List (List Pc)} {i k:Nat} {l:List Pc} {x:Pc} (hl:L[i]? = some l) (hx:l[k]? = some x) (hc:x.co=c):(⟨x,i,k⟩:Ap) ∈ apS c L:=apN_in hl hx hc (List.getElem?_eq_some_iff.1 hl).1 (Nat.le_refl _)
end Go.Proofs.YtikcigjbhohboaaGreat.pln
end
section
namespace Go.Proofs.YtikcigjbhohboaaGreat.pln
open Go.ChangeShapes Go.WideShapes Go.ChangeAt Go.RowKit Go.Deep val ter
theorem ceV_len (s:Sys) (L:List (List Pc)):(ceV s L).length=s.co.toNat:=by unfold ceV;rw[List.length_map,List.length_range]
theorem ceR_len (s:Sys) (L:List (List Pc)) (c:Nat):(ceR s L c).length=s.rs.toNat:=by unfold ceR;rw[List.length_map,List.length_range]
theorem rceil_ok {s:Sys} {A:Option Addr} {n c:Nat} {A':Option Addr} {N c':Nat} {L:List (List Pc)} {w:World} (hs:RSys w A n c s) (hl:RPl w A' N L) (hr:plR s L=true):Calls Tryz.prog 27 #[sysV s A n c,.slice A' N c'] w fun e w'=>∃ AZ cZ,e=.returned (.tuple #[.slice AZ s.co.toNat cZ,.bool true])∧But No w w'∧RNs w' AZ s.co.toNat (ceV s L):=by
 refine(rceil_any s A n c A' N c' L w hs hl).mono ?_
 rintro e w' (⟨h,_⟩ | ⟨_,v,vs,rfl,h⟩)
 ·rw[hr] at h;cases h
 obtain⟨hc,hrs,_⟩:=right_len (plR_parts hr).1
 obtain⟨AZ,cZ,rfl,hz⟩:=h.ns (by rw[ceV_len];omega) (fun l hl=>by
  unfold ceV at hl
  obtain⟨k,_,rfl⟩:=List.mem_map.1 hl
  rw[ceR_len];omega)
 rw[ceV_len] at hz
 exact⟨AZ,cZ,by rw[ceV_len],h.but,hz⟩
end Go.Proofs.YtikcigjbhohboaaGreat.pln
end
section
namespace Go.Proofs.YtikcigjbhohboaaGreat.pln
open val ter
def ups (l m:List Pc):Prop:=l.length=m.length∧∀ (k:Nat) (x y:Pc),l[k]? = some x→m[k]? = some y→zp x=zp y
theorem ups_rk (s:Sys) (L:List (List Pc)) (i:Nat) (l:List Pc):ups (rkL s L i l) l:=by
 refine⟨by unfold rkL;rw[List.length_map],fun k x y hx hy=>?_⟩
 obtain⟨x',h1,rfl⟩:=rkL_at hx
 rw[hy] at h1
 cases h1
 rfl
theorem zp_get {l m:List Pc} (h:ups l m) (k:Nat):zp (l.getD k pc0)=zp (m.getD k pc0):=by
 by_cases hk:k<l.length
 ·have h1:l[k]? = some l[k]:=List.getElem?_eq_getElem hk
  have hk2:k<m.length:=by rw[←h.1];exact hk
  have h2:m[k]? = some m[k]:=List.getElem?_eq_getElem hk2
  rw[getD_some h1,getD_some h2]
  exact h.2 k _ _ h1 h2
 ·have hk2:¬k<m.length:=by rw[←h.1];exact hk
  simp[List.getD,hk,hk2]
theorem zp_co {x y:Pc} (h:zp x=zp y):x.co=y.co∧x.bu=y.bu∧x.de=y.de∧x.ti=y.ti:=by
 unfold zp at h
 simp only[Pc.mk.injEq] at h
 exact⟨h.1,h.2.1,h.2.2.1,h.2.2.2.2⟩
theorem smN_ups {l m:List Pc} (h:ups l m):∀ k,smN l k=smN m k
 | 0=>rfl
 | k+1=>by rw[smN,smN,smN_ups h k,(zp_co (zp_get h k)).2.1]
theorem rk_ups (s:Sys) (L:List (List Pc)) (i:Nat):ups ((rkV s L).getD i []) (L.getD i []):=by
 cases h:L[i]? with
 | none =>
  have h1:(rkV s L)[i]? = none:=by rw[List.getElem?_eq_none_iff] at h ⊢;rw[rkV_len];exact h
  simp only[List.getD,h,h1]
  exact⟨rfl,fun k x y hx=>by cases hx⟩
 | some l =>
  have h1:=rkV_at (s:=s) h
  simp only[List.getD,h,h1]
  exact ups_rk s L i l
theorem ahead_rk (s:Sys) (L:List (List Pc)) (task:Int) (p:Pc):aheadV task p (rkV s L)=aheadV task p L:=by
 have hL:∀ (i:Nat) (l m:List Pc),ups l m→∀ k,aL task p i l k=aL task p i m k:=fun i l m h k=>by
  induction k with
  | zero=>rfl
  | succ k ih =>
   obtain⟨h1,h2,h3,h4⟩:=zp_co (zp_get h k)
   rw[aL,aL,ih]
   unfold aC
   rw[h1,h3,h4]
 have hN:∀ n,aN task p (rkV s L) n=aN task p L n:=fun n=>by
  induction n with
  | zero=>rfl
  | succ n ih =>
   have h:=rk_ups s L n
   rw[aN,aN,ih,hL n _ _ h,h.1]
 unfold aheadV
 rw[rkV_len,hN]
end Go.Proofs.YtikcigjbhohboaaGreat.pln
end
section
namespace Go.Proofs.YtikcigjbhohboaaGreat.pln
open Go.ChangeShapes Go.WideShapes Go.ChangeAt Go.RowKit Go.Deep val
def bS (ts:List Tsk):Sys:=⟨2,1,1,0,0,0,1,0,ts⟩
theorem x1 : chkV (bS [⟨10,10,3, []⟩,⟨5,5,2, []⟩]) [[⟨0,3,10,0,false⟩], [⟨0,2,5,0,false⟩]]=([5,2], -1,0):=by kernel_rfl
theorem x2 : (chkV (bS [⟨10,10,8, []⟩]) [[⟨0,5,5,0,true⟩,⟨1,3,5,0,false⟩]]).1 = [8]∧(chkV (bS [⟨10,10,8, []⟩]) [[⟨0,5,5,0,true⟩,⟨1,3,5,0,false⟩]]).2.2=0:=⟨by kernel_rfl,by kernel_rfl⟩
theorem x3 : (chkV (bS [⟨10,10,8, []⟩,⟨5,5,2, []⟩]) [[⟨0,8,10,0,false⟩], [⟨0,2,5,0,false⟩]]).2=(0,12):=by kernel_rfl
end Go.Proofs.YtikcigjbhohboaaGreat.pln
end
section
namespace Go.Proofs.YtikcigjbhohboaaGreat.pln
open Go.ChangeShapes Go.WideShapes Go.ChangeAt Go.RowKit Go.Deep val
theorem sz {a:Int} (h:0≤a∧a≤1000):inR a:=inR_small (by omega)
abbrev bX (A:Option Addr) (n c:Nat):Array Value:=#[.int .i64 2,.int .i64 1,.int .i64 1,.int .i64 0,.int .i64 0,.int .i64 0,.int .i64 1,.int .i64 0,.slice A n c]
end Go.Proofs.YtikcigjbhohboaaGreat.pln
end
