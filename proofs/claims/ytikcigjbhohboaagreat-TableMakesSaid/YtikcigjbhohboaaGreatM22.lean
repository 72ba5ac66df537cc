/- Part 22 of a proof: PcG PcA. -/
import Derived.Test.YtikcigjbhohboaaGreatM08
import Derived.Test.YtikcigjbhohboaaGreatM21
section
namespace Go.Proofs.YtikcigjbhohboaaGreat.pln
set_option linter.unusedVariables false
def lhO (s:Sys) (i j:Nat):Int:=(s.ts.getD i ts0).w*(s.ts.getD j ts0).p
def Bo (s:Sys) (i j:Nat):Prop:=lhO s j i<lhO s i j∨(lhO s i j=lhO s j i∧i<j)
def insO (s:Sys) (i:Nat):List Nat→List Nat
 | []=>[i]
 | j :: l=>if lhO s j i<lhO s i j then i :: j :: l else j :: insO s i l
def ordN (s:Sys):Nat→List Nat
 | 0=>[]
 | n+1=>insO s n (ordN s n)
theorem insO_mem {s:Sys} {i k:Nat}:∀ {l:List Nat},k ∈ insO s i l ↔ k=i∨k ∈ l
 | []=>by rw[insO];simp
 | j :: l=>by
  rw[insO]
  split
  ·simp
  ·rw[List.mem_cons,insO_mem (l:=l),List.mem_cons];constructor
   ·rintro(h | h | h)
    ·exact .inr (.inl h)
    ·exact .inl h
    ·exact .inr (.inr h)
   ·rintro(h | h | h)
    ·exact .inr (.inl h)
    ·exact .inl h
    ·exact .inr (.inr h)
theorem insO_len {s:Sys} {i:Nat}:∀ {l:List Nat},(insO s i l).length=l.length+1
 | []=>rfl
 | j :: l=>by
  rw[insO]
  split
  ·rfl
  ·rw[List.length_cons,insO_len (l:=l),List.length_cons]
theorem lh_trans {s:Sys} (hp:∀ i,0<(s.ts.getD i ts0).p∨s.ts.length≤i) {i j k:Nat} (hi:i<s.ts.length) (hj:j<s.ts.length) (hk:k<s.ts.length) (h1:lhO s j i≤lhO s i j) (h2:lhO s k j≤lhO s j k) :
  lhO s k i≤lhO s i k∧((lhO s j i<lhO s i j∨lhO s k j<lhO s j k)→lhO s k i<lhO s i k):=by
 have pi:0<(s.ts.getD i ts0).p:=by rcases hp i with h | h;exact h;omega
 have pj:0<(s.ts.getD j ts0).p:=by rcases hp j with h | h;exact h;omega
 have pk:0<(s.ts.getD k ts0).p:=by rcases hp k with h | h;exact h;omega
 unfold lhO at *
 generalize (s.ts.getD i ts0).p=pi' at *
 generalize (s.ts.getD j ts0).p=pj' at *
 generalize (s.ts.getD k ts0).p=pk' at *
 generalize (s.ts.getD i ts0).w=wi at *
 generalize (s.ts.getD j ts0).w=wj at *
 generalize (s.ts.getD k ts0).w=wk at *
 have e1:wj*pi'*pk'=wj*pk'*pi':=by rw[Int.mul_assoc,Int.mul_comm pi',←Int.mul_assoc]
 have e2:wk*pj'*pi'=wk*pi'*pj':=by rw[Int.mul_assoc,Int.mul_comm pj',←Int.mul_assoc]
 have e3:wi*pj'*pk'=wi*pk'*pj':=by rw[Int.mul_assoc,Int.mul_comm pj',←Int.mul_assoc]
 have a1:wj*pi'*pk'≤wi*pj'*pk':=Int.mul_le_mul_of_nonneg_right h1 (by omega)
 have a2:wk*pj'*pi'≤wj*pk'*pi':=Int.mul_le_mul_of_nonneg_right h2 (by omega)
 constructor
 ·exact Int.le_of_mul_le_mul_right (show wk*pi'*pj'≤wi*pk'*pj' by omega) pj
 ·rintro(h | h)
  ·have b1:wj*pi'*pk'<wi*pj'*pk':=Int.mul_lt_mul_of_pos_right h pk
   exact Int.lt_of_mul_lt_mul_right (show wk*pi'*pj'<wi*pk'*pj' by omega) (by omega)
  ·have b1:wk*pj'*pi'<wj*pk'*pi':=Int.mul_lt_mul_of_pos_right h pi
   exact Int.lt_of_mul_lt_mul_right (show wk*pi'*pj'<wi*pk'*pj' by omega) (by omega)
theorem Bo.le {s:Sys} {i j:Nat} (h:Bo s i j):lhO s j i≤lhO s i j:=by rcases h with h | h <;> omega
theorem insO_sorted {s:Sys} (hp:∀ i,0<(s.ts.getD i ts0).p∨s.ts.length≤i) {i:Nat} (hi:i<s.ts.length):∀ {l:List Nat},(∀ j ∈ l,j<i)→l.Pairwise (Bo s)→(insO s i l).Pairwise (Bo s)
 | [],_,_=>by rw[insO];simp
 | j :: l,hb,h=>by
  obtain⟨h1,h2⟩:=List.pairwise_cons.1 h
  have hj:=hb j (by simp)
  rw[insO]
  split
  ·next hm =>
   refine List.pairwise_cons.2 ⟨fun k hk=>?_,h⟩
   rcases List.mem_cons.1 hk with e | e
   ·rw[e];exact .inl hm
   ·have:=hb k (by simp[e])
    exact .inl ((lh_trans hp hi (show j<s.ts.length by omega) (show k<s.ts.length by omega) (by omega) (h1 k e).le).2 (.inl hm))
  ·next hm =>
   refine List.pairwise_cons.2 ⟨fun k hk=>?_,insO_sorted hp hi (fun k hk=>hb k (by simp[hk])) h2⟩
   rcases insO_mem.1 hk with e | e
   ·rw[e]
    by_cases h3:lhO s i j<lhO s j i
    ·exact .inl h3
    ·exact .inr ⟨by omega,hj⟩
   ·exact h1 k e
theorem ordN_mem {s:Sys} {k:Nat}:∀ {n:Nat},k ∈ ordN s n ↔ k<n
 | 0=>by rw[ordN];simp
 | n+1=>by rw[ordN,insO_mem,ordN_mem];omega
theorem ordN_len {s:Sys}:∀ n:Nat,(ordN s n).length=n
 | 0=>rfl
 | n+1=>by rw[ordN,insO_len,ordN_len]
theorem ordN_sorted {s:Sys} (hp:∀ i,0<(s.ts.getD i ts0).p∨s.ts.length≤i):∀ n,n≤s.ts.length→(ordN s n).Pairwise (Bo s)
 | 0,_=>List.Pairwise.nil
 | n+1,h=>insO_sorted hp (by omega) (fun j hj=>ordN_mem.1 hj) (ordN_sorted hp n (by omega))
theorem ordN_nodup {s:Sys} (hp:∀ i,0<(s.ts.getD i ts0).p∨s.ts.length≤i) {n:Nat} (h:n≤s.ts.length):(ordN s n).Nodup :=
 (ordN_sorted hp n h).imp (fun {a b} hb e=>by subst e;rcases hb with hb | hb <;> omega)
theorem ord_ext {s:Sys}:∀ {a b:List Nat},a.Pairwise (Bo s)→b.Pairwise (Bo s)→(∀ k,k ∈ a ↔ k ∈ b)→a=b
 | [], [],_,_,_=>rfl
 | [],y :: b,_,_,h=>by have:=(h y).2 (by simp);simp at this
 | x :: a, [],_,_,h=>by have:=(h x).1 (by simp);simp at this
 | x :: a,y :: b,ha,hb,h=>by
  obtain⟨a1,a2⟩:=List.pairwise_cons.1 ha
  obtain⟨b1,b2⟩:=List.pairwise_cons.1 hb
  have asym:∀ {u v:Nat},Bo s u v→Bo s v u→False:=fun h1 h2=>by
   unfold Bo at h1 h2;rcases h1 with h1 | h1 <;> rcases h2 with h2 | h2 <;> omega
  have e:x=y:=by
   rcases List.mem_cons.1 ((h x).1 (by simp))with e | e
   ·exact e
   ·rcases List.mem_cons.1 ((h y).2 (by simp))with e2 | e2
    ·exact e2.symm
    ·exact absurd (b1 x e) (fun q=>asym q (a1 y e2))
  subst e
  rw[ord_ext a2 b2 (fun k=>?_)]
  constructor
  ·intro hk
   rcases List.mem_cons.1 ((h k).1 (by simp[hk]))with e | e
   ·subst e;exact absurd (a1 k hk) (fun q=>asym q q)
   ·exact e
  ·intro hk
   rcases List.mem_cons.1 ((h k).2 (by simp[hk]))with e | e
   ·subst e;exact absurd (b1 k hk) (fun q=>asym q q)
   ·exact e
open val in
theorem per_pos {s:Sys} (h:right s=true) (i:Nat):0<(s.ts.getD i ts0).p∨s.ts.length≤i:=by
 by_cases hi:i<s.ts.length
 ·refine .inl ?_
  have ht:s.ts[i]? = some (s.ts[i]'hi):=List.getElem?_eq_getElem hi
  have h6:=(right_parts h).2 _ (List.mem_of_getElem? ht)
  rw[getT ht]
  unfold vTsk vHead at h6
  simp only[Bool.and_eq_true,wi_true] at h6
  omega
 ·exact .inr (by omega)
end Go.Proofs.YtikcigjbhohboaaGreat.pln
end
section
namespace Go.Proofs.YtikcigjbhohboaaGreat.pln
set_option linter.unusedVariables false
open val ter
theorem rkP_rk (s:Sys) (L:List (List Pc)) (i:Nat) (x:Pc):rkP s (rkV s L) i (rkP s L i x)=rkP s L i x:=by
 have hz:zp (rkP s L i x)=zp x:=rfl
 show (⟨_,_,_,if s.po=1∧(rkP s L i x).ti=false then 1+aheadV (i:Int) (zp (rkP s L i x)) (rkV s L) else 0,_⟩:Pc)=_
 rw[hz,ahead_rk]
 rfl
theorem ceP_rk (s:Sys) (L:List (List Pc)) {i:Nat} {l:List Pc} (hl:l ≠ []):ceP s (rkV s L) i (rkL s L i l)=ceP s L i l:=by
 obtain⟨y,r,rfl⟩:=List.exists_cons_of_ne_nil hl
 show max 1 (rkP s (rkV s L) i (rkP s L i y)).pr=max 1 (rkP s L i y).pr
 rw[rkP_rk]
theorem whO_rkL (s:Sys) (L:List (List Pc)) (i:Nat) (l:List Pc):whO (rkL s L i l)=whO l:=by
 cases l with
 | nil=>rfl
 | cons y r =>
  unfold whO rkL
  rw[List.length_map]
  rfl
theorem ceN_rk (s:Sys) (L:List (List Pc)) {c:Int} (hc:0≤c):∀ i,i≤L.length→∀ r,ceN s (rkV s L) c i r=ceN s L c i r
 | 0,_,_=>rfl
 | i+1,hi,r=>by
  have hl:L[i]? = some (L[i]'(by omega)):=List.getElem?_eq_getElem (by omega)
  rw[ceN,ceN,getL (rkV_at (s:=s) hl),getL hl,whO_rkL]
  have ih:ceN s (rkV s L) c i=ceN s L c i:=funext (ceN_rk s L hc i (by omega))
  by_cases h:whO (L[i]'(by omega))=c
  ·rw[if_pos h,if_pos h,ih]
   have hne:(L[i]'(by omega)) ≠ []:=fun e=>by
    rw[e] at h
    have:(-1:Int)=c:=h
    omega
   rw[ceP_rk s L hne]
  ·rw[if_neg h,if_neg h,ih]
theorem ceV_rk (s:Sys) (L:List (List Pc)):ceV s (rkV s L)=ceV s L:=by
 unfold ceV
 refine List.map_congr_left (fun c _=>?_)
 unfold ceR
 rw[rkV_len]
 exact List.map_congr_left (fun r _=>ceN_rk s L (Int.natCast_nonneg c) _ (Nat.le_refl _) r)
end Go.Proofs.YtikcigjbhohboaaGreat.pln
end
