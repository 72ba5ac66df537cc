/- Part 44 of a proof: PcE PcF PcH PcI PcK. -/
import Derived.Test.YtikcigjbhohboaaGreatM19
import Derived.Test.YtikcigjbhohboaaGreatM21
import Derived.Test.YtikcigjbhohboaaGreatM22
import Derived.Test.YtikcigjbhohboaaGreatM36
import Derived.Test.YtikcigjbhohboaaGreatM37
section
namespace Go.Proofs.YtikcigjbhohboaaGreat.pln
set_option linter.unusedVariables false
open val ter
def addP (L:List (List Pc)) (i:Nat) (p:Pc):List (List Pc):=L.set i (L.getD i [] ++ [p])
def hasC (L:List (List Pc)) (i:Nat) (c:Int):Bool:=(L.getD i []).any (fun y=>decide (y.co=c))
def lstP (c bu de:Int):Pc:=⟨c,bu,de,0,false⟩
def tiP (c bu:Int):Pc:=⟨c,bu,bu,0,true⟩
def good (s:Sys) (L:List (List Pc)):Bool:=decide ((chkV s L).2.2=0)
def said (s:Sys) (L:List (List Pc)) (m:Bool × Bool):Bool × Bool:=(m.1 || decide ((chkV s L).2.2=2),m.2 || decide ((chkV s L).2.2=11))
def laN (s:Sys) (L:List (List Pc)) (i:Nat) (bu de:Int) (m:Bool × Bool):Nat→Option Nat × (Bool × Bool)
 | 0=>(none,m)
 | c+1 =>
  match (laN s L i bu de m c).1 with
  | some d=>(some d,(laN s L i bu de m c).2)
  | none=>if hasC L i c=true then (none,(laN s L i bu de m c).2) else (if good s (addP L i (lstP c bu de))=true then some c else none,said s (addP L i (lstP c bu de)) (laN s L i bu de m c).2)
def biN (s:Sys) (L:List (List Pc)) (i:Nat) (c rest left:Int):Nat→Int→Int→Bool × Bool→Int × (Bool × Bool)
 | 0,a,_,m=>(a,m)
 | n+1,a,b,m =>
  if a<b then
   if left-(a+b+1)/2-(s.la-1)<rest-(a+b+1)/2 then biN s L i c rest left n a ((a+b+1)/2-1) m
   else if good s (addP L i (tiP c ((a+b+1)/2)))=true then biN s L i c rest left n ((a+b+1)/2) b (said s (addP L i (tiP c ((a+b+1)/2))) m)
   else biN s L i c rest left n a ((a+b+1)/2-1) (said s (addP L i (tiP c ((a+b+1)/2))) m)
  else (a,m)
def tiN (s:Sys) (L:List (List Pc)) (i:Nat) (rest left:Int) (m:Bool × Bool):Nat→Option (Nat × Int) × (Bool × Bool)
 | 0=>(none,m)
 | c+1 =>
  match (tiN s L i rest left m c).1 with
  | some d=>(some d,(tiN s L i rest left m c).2)
  | none=>if hasC L i c=true then (none,(tiN s L i rest left m c).2) else
   (
    if 0<(biN s L i c rest left rest.toNat 0 (rest-1) (tiN s L i rest left m c).2).1 then some (c,(biN s L i c rest left rest.toNat 0 (rest-1) (tiN s L i rest left m c).2).1) else none,
    (biN s L i c rest left rest.toNat 0 (rest-1) (tiN s L i rest left m c).2).2)
def spN (s:Sys) (i:Nat):Nat→List (List Pc)→Int→Int→Bool × Bool→Option (List (List Pc)) × (Bool × Bool)
 | 0,_,_,_,m=>(none,m)
 | n+1,L,rest,left,m =>
  match tiN s L i rest left m s.co.toNat with
  | (none,m1)=>(none,m1)
  | (some (c,a),m1) =>
   match laN s (addP L i (tiP c a)) i (rest-a) (left-a-(s.la-1)) m1 s.co.toNat with
   | (some d,m2)=>(some (addP (addP L i (tiP c a)) i (lstP d (rest-a) (left-a-(s.la-1)))),m2)
   | (none,m2)=>spN s i n (addP L i (tiP c a)) (rest-a) (left-a-(s.la-1)) m2
def plT (s:Sys) (L:List (List Pc)) (i:Nat):Option (List (List Pc)) × (Bool × Bool) :=
 match laN s L i (s.ts.getD i ts0).w (s.ts.getD i ts0).d (false,false) s.co.toNat with
 | (some c,m)=>(some (addP L i (lstP c (s.ts.getD i ts0).w (s.ts.getD i ts0).d)),m)
 | (none,m)=>if (s.ts.getD i ts0).secs ≠ [] then (none,m) else spN s i 9 L (s.ts.getD i ts0).w (s.ts.getD i ts0).d m
def erM (m:Bool × Bool):Int:=if m.1=true then 2 else if m.2=true then 11 else 12
def plV (s:Sys):List Nat→List (List Pc)→Except Int (List (List Pc))
 | [],L=>.ok L
 | i :: o,L=>match plT s L i with
  | (some L1,_)=>plV s o L1
  | (none,m)=>.error (erM m)
theorem addP_len (L:List (List Pc)) (i:Nat) (p:Pc):(addP L i p).length=L.length:=by unfold addP;rw[List.length_set]
theorem addP_at {L:List (List Pc)} {i:Nat} (h:i<L.length) (p:Pc):(addP L i p)[i]? = some (L.getD i [] ++ [p]):=by unfold addP;rw[List.getElem?_set_self h]
theorem addP_ne (L:List (List Pc)) {i j:Nat} (h:j≠i) (p:Pc):(addP L i p)[j]? = L[j]?:=by unfold addP;rw[List.getElem?_set_ne (Ne.symm h)]
theorem laN_good {s:Sys} {L:List (List Pc)} {i:Nat} {bu de:Int} {m:Bool × Bool}:∀ {n d:Nat},(laN s L i bu de m n).1=some d→d<n∧hasC L i d=false∧good s (addP L i (lstP d bu de))=true
 | 0,d,h=>by rw[laN] at h;cases h
 | c+1,d,h=>by
  rw[laN] at h
  cases e:(laN s L i bu de m c).1 with
  | some d2 =>
   rw[e] at h
   cases h
   have:=laN_good e
   exact⟨by omega,this.2⟩
  | none =>
   rw[e] at h
   dsimp only at h
   cases e2:hasC L i c with
   | true=>rw[e2,if_pos rfl] at h;cases h
   | false =>
     rw[e2,if_neg (by simp)] at h
     dsimp only at h
     cases e3:good s (addP L i (lstP c bu de))with
     | false=>rw[e3,if_neg (by simp)] at h;cases h
     | true=>rw[e3,if_pos rfl] at h;cases h;exact⟨by omega,e2,e3⟩
def Pld (s:Sys) (L L1:List (List Pc)) (i:Nat):Prop:=L1.length=L.length∧(∀ j,j≠i→L1[j]? = L[j]?)∧good s L1=true∧∃ l p,L1[i]? = some (l ++ [p])∧p.ti=false
theorem la_pld {s:Sys} {L:List (List Pc)} {i:Nat} {bu de:Int} {m:Bool × Bool} {n d:Nat} (hi:i<L.length) (h:(laN s L i bu de m n).1=some d):Pld s L (addP L i (lstP d bu de)) i :=
 ⟨addP_len _ _ _,fun j hj=>addP_ne _ hj _,(laN_good h).2.2,_,_,addP_at hi _,rfl⟩
theorem Pld.more {s:Sys} {L L1 L2:List (List Pc)} {i:Nat} (h:Pld s L1 L2 i) (h1:L1.length=L.length) (h2:∀ j,j≠i→L1[j]? = L[j]?):Pld s L L2 i :=
 ⟨h.1.trans h1,fun j hj=>(h.2.1 j hj).trans (h2 j hj),h.2.2⟩
theorem sp_pld {s:Sys} {i:Nat} {L1:List (List Pc)}:∀ (n:Nat) (L:List (List Pc)) (rest left:Int) (m:Bool × Bool),i<L.length→(spN s i n L rest left m).1=some L1→Pld s L L1 i
 | 0,L,_,_,m,hi,h=>by rw[spN] at h;cases h
 | n+1,L,rest,left,m,hi,h=>by
  rw[spN] at h
  rcases e:tiN s L i rest left m s.co.toNat with⟨o,m1⟩
  rw[e] at h
  cases o with
  | none=>cases h
  | some x =>
   obtain⟨c,a⟩:=x
   dsimp only at h
   rcases e2:laN s (addP L i (tiP c a)) i (rest-a) (left-a-(s.la-1)) m1 s.co.toNat with⟨o2,m2⟩
   rw[e2] at h
   cases o2 with
   | some d =>
     cases h
     exact(la_pld (by rw[addP_len];exact hi) (by rw[e2])).more (addP_len _ _ _) (fun j hj=>addP_ne _ hj _)
   | none =>
     dsimp only at h
     exact(sp_pld n _ _ _ _ (by rw[addP_len];exact hi) h).more (addP_len _ _ _) (fun j hj=>addP_ne _ hj _)
theorem pl_pld {s:Sys} {i:Nat} {L L1:List (List Pc)} (hi:i<L.length) (h:(plT s L i).1=some L1):Pld s L L1 i:=by
 unfold plT at h
 rcases e:laN s L i (s.ts.getD i ts0).w (s.ts.getD i ts0).d (false,false) s.co.toNat with⟨o,m⟩
 rw[e] at h
 cases o with
 | some c=>cases h;exact la_pld hi (by rw[e])
 | none =>
  dsimp only at h
  split at h
  ·cases h
  ·exact sp_pld _ _ _ _ _ hi h
theorem plV_ok {s:Sys} {L1:List (List Pc)}:∀ (o:List Nat) (L:List (List Pc)),(∀ i ∈ o,i<L.length)→o.Nodup→plV s o L=.ok L1 →
  L1.length=L.length∧(∀ j,j ∉ o→L1[j]? = L[j]?)∧(o ≠ []→good s L1=true)∧∀ i ∈ o,∃ l p,L1[i]? = some (l ++ [p])∧p.ti=false
 | [],L,_,_,h=>by rw[plV] at h;cases h;exact⟨rfl,fun _ _=>rfl,fun e=>absurd rfl e,fun i hi=>by simp at hi⟩
 | i :: o,L,hb,hn,h=>by
  rw[plV] at h
  rcases e:plT s L i with⟨x,m⟩
  rw[e] at h
  cases x with
  | none=>cases h
  | some L2 =>
   dsimp only at h
   have hP:=pl_pld (hb i (by simp)) (by rw[e])
   obtain⟨hn1,hn2⟩:=List.nodup_cons.1 hn
   obtain⟨g1,g2,g3,g4⟩:=plV_ok o L2 (fun j hj=>by rw[hP.1];exact hb j (by simp[hj])) hn2 h
   refine⟨g1.trans hP.1,fun j hj=>?_,fun _=>?_,fun j hj=>?_⟩
   · rw[g2 j (fun e2=>hj (by simp[e2])),hP.2.1 j (fun e2=>hj (by simp[e2]))]
   · by_cases ho:o = []
     ·subst ho;rw[plV] at h;cases h;exact hP.2.2.1
     ·exact g3 ho
   · by_cases hj2:j ∈ o
     ·exact g4 j hj2
     ·have:j=i:=by rcases List.mem_cons.1 hj with e2 | e2;exact e2;exact absurd e2 hj2
      subst this
      obtain⟨l,p,e3,e4⟩:=hP.2.2.2
      exact⟨l,p,by rw[g2 j hj2];exact e3,e4⟩
end Go.Proofs.YtikcigjbhohboaaGreat.pln
end
section
namespace Go.Proofs.YtikcigjbhohboaaGreat.pln
set_option linter.unusedVariables false
open val ter
theorem good_right {s:Sys} {L:List (List Pc)} (h:good s L=true):plR s L=true∧(erN s (rkV s L) (ceV s L) s.co.toNat).2=0∧chkV s L=((List.range L.length).map (bdC s (rkV s L) (ceV s L) s.co.toNat), -1,0):=by
 unfold good at h
 rw[decide_eq_true_eq] at h
 unfold chkV at h ⊢
 by_cases h1:plR s L=true
 ·rw[if_pos h1] at h ⊢
  by_cases h2:(erN s (rkV s L) (ceV s L) s.co.toNat).2≠0
  ·rw[if_pos h2] at h;exact absurd h h2
  ·rw[if_neg h2];exact⟨h1,Classical.byContradiction h2,rfl⟩
 ·rw[if_neg h1] at h;cases h
structure Plc (s:Sys) (L:List (List Pc)):Prop where
 g:good s L=true
 z:∀ i,i<s.ts.length→∃ l p,L[i]? = some (l ++ [p])∧p.ti=false
theorem Plc.right {s:Sys} {L:List (List Pc)} (h:Plc s L):plR s L=true:=(good_right h.g).1
end Go.Proofs.YtikcigjbhohboaaGreat.pln
end
section
namespace Go.Proofs.YtikcigjbhohboaaGreat.pln
set_option linter.unusedVariables false
open val ter
def wr (s:Sys) (r:Int):Sys:={ s with rs:=r }
section
variable {s:Sys} {r:Int} (h:right s=true) (h1:s.rs≤r) (h2:r≤8) (L:List (List Pc)) (hL:L.length=s.ts.length)
include h h1 h2
end
end Go.Proofs.YtikcigjbhohboaaGreat.pln
end
section
namespace Go.Proofs.YtikcigjbhohboaaGreat.pln
set_option linter.unusedVariables false
open val ter
def plcV (s:Sys):List (List Pc) × List Int × Int :=
 if right s=true then
  match plV s (ordN s s.ts.length) (List.replicate s.ts.length [])with
  | .ok L=>(rkV s L,(chkV s L).1,0)
  | .error e=>([], [],e)
 else ([], [],1)
theorem erM_range (m:Bool × Bool):erM m=2∨erM m=11∨erM m=12:=by
 unfold erM;split
 ·exact .inl rfl
 ·split
  ·exact .inr (.inl rfl)
  ·exact .inr (.inr rfl)
section
variable {s:Sys} {r:Int} (h:right s=true) (h1:s.rs≤r) (h2:r≤8)
include h h1 h2
end
end Go.Proofs.YtikcigjbhohboaaGreat.pln
end
section
namespace Go.Proofs.YtikcigjbhohboaaGreat.pln
set_option linter.unusedVariables false
open val ter
section
variable {s:Sys} {t:Tsk} (h:right s=true) (ht:s.ts = [t])
include h ht
end
end Go.Proofs.YtikcigjbhohboaaGreat.pln
end
