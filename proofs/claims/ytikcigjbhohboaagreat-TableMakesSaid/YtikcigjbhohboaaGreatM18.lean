/- Part 18 of a proof: PlR7 PlA PlR9. -/
import Derived.BigQuiet
import Derived.Deep.DeepCutAuto
import Derived.Deep.QuietTactic
import Derived.Test.YtikcigjbhohboaaGreatM06
import Derived.Test.YtikcigjbhohboaaGreatM10
import Derived.Test.YtikcigjbhohboaaGreatM17
section
namespace Go.Proofs.YtikcigjbhohboaaGreat.pln
open Go.ChangeShapes Go.WideShapes Go.ChangeAt Go.RowKit Go.Deep val ter
def ownV (s:Sys) (L:List (List Pc)) (i:Nat) (x:Pc):Int:=x.bu+s.fi+2*s.sw+(if 0≤(L.map whO).getD i 0 then extraV s (L.map whO) (i:Int) else 0)
theorem right_costs {s:Sys} (h:right s=true):(0≤s.re∧s.re≤50)∧(0≤s.sw∧s.sw≤50)∧0≤s.fi∧s.fi≤50:=by
 obtain⟨h1,_⟩:=right_parts h
 unfold vWhole at h1
 simp only[Bool.and_eq_true,wi_true] at h1
 omega
theorem extra_bd {s:Sys} (h:right s=true) (wh:List Int) (i:Int):0≤extraV s wh i∧extraV s wh i≤35184372088864:=by
 unfold extraV
 cases e:tsk? s i with
 | none=>dsimp only;omega
 | some t =>
  have ht:t ∈ s.ts:=by
   unfold tsk? at e
   split at e
   ·exact List.mem_of_getElem? e
   ·cases e
  have h4:=(right_len h).2.2.2.2 t ht
  have:=exN_le h wh i.toNat t.secs t.secs.length
  dsimp only
  omega
end Go.Proofs.YtikcigjbhohboaaGreat.pln
end
section
namespace Go.Proofs.YtikcigjbhohboaaGreat.pln
open Go.ChangeShapes Go.WideShapes Go.ChangeAt Go.RowKit Go.Deep val ter
structure Ap where
 p:Pc
 i:Nat
 k:Nat
def apL (c:Int) (i:Nat) (l:List Pc):Nat→List Ap
 | 0=>[]
 | k+1=>apL c i l k ++ if (l.getD k pc0).co=c then [⟨l.getD k pc0,i,k⟩] else []
def apN (c:Int) (L:List (List Pc)):Nat→List Ap
 | 0=>[]
 | i+1=>apN c L i ++ apL c i (L.getD i []) (L.getD i []).length
def apS (c:Int) (L:List (List Pc)):List Ap:=apN c L L.length
theorem apL_next {c:Int} {i:Nat} {l:List Pc} {k:Nat} {x:Pc} (h:l[k]? = some x):apL c i l (k+1)=apL c i l k ++ if x.co=c then [⟨x,i,k⟩] else []:=by rw[apL,getD_some h]
theorem apN_next {c:Int} {L:List (List Pc)} {i:Nat} {l:List Pc} (h:L[i]? = some l):apN c L (i+1)=apN c L i ++ apL c i l l.length:=by rw[apN,getL h]
theorem apL_mem {c:Int} {i:Nat} {l:List Pc} {y:Ap}:∀ {k:Nat},k≤l.length→y ∈ apL c i l k→y.i=i∧l[y.k]? = some y.p∧y.p.co=c∧y.k<k
 | 0,_,h=>by simp[apL] at h
 | k+1,hk,h=>by
  have hx:l[k]? = some l[k]:=List.getElem?_eq_getElem (by omega)
  rw[apL_next hx,List.mem_append] at h
  rcases h with h | h
  ·obtain⟨h1,h2,h3,h4⟩:=apL_mem (by omega) h
   exact⟨h1,h2,h3,by omega⟩
  ·split at h
   ·next hc =>
    rw[List.mem_singleton] at h
    subst h
    exact⟨rfl,hx,hc,by show k<k+1;omega⟩
   ·simp at h
theorem apN_mem {c:Int} {L:List (List Pc)} {y:Ap}:∀ {i:Nat},i≤L.length→y ∈ apN c L i→∃ l,L[y.i]? = some l∧l[y.k]? = some y.p∧y.p.co=c∧y.i<i
 | 0,_,h=>by simp[apN] at h
 | i+1,hi,h=>by
  have hl:L[i]? = some L[i]:=List.getElem?_eq_getElem (by omega)
  rw[apN_next hl,List.mem_append] at h
  rcases h with h | h
  ·obtain⟨l,h1,h2,h3,h4⟩:=apN_mem (by omega) h
   exact⟨l,h1,h2,h3,by omega⟩
  ·obtain⟨h1,h2,h3,_⟩:=apL_mem (Nat.le_refl _) h
   exact⟨L[i],by rw[h1];exact hl,h2,h3,by omega⟩
theorem apS_mem {c:Int} {L:List (List Pc)} {y:Ap} (h:y ∈ apS c L):∃ l,L[y.i]? = some l∧l[y.k]? = some y.p∧y.p.co=c:=by
 obtain⟨l,h1,h2,h3,_⟩:=apN_mem (Nat.le_refl _) h
 exact⟨l,h1,h2,h3⟩
structure RAp (w:World) (A:Option Addr) (n:Nat) (l:List Ap):Prop where
 len:l.length=n
 max:n≤9223372036854775807
 at_:0<n→∃ b off,A=some ⟨b,off,none⟩∧b<w.heap.size∧∀ k x,l[k]? = some x→w.cell? ⟨b,off+k*7,none⟩=some (.int .i64 x.p.co)∧w.cell? ⟨b,off+k*7+1,none⟩=some (.int .i64 x.p.bu)∧w.cell? ⟨b,off+k*7+2,none⟩=some (.int .i64 x.p.de)∧w.cell? ⟨b,off+k*7+3,none⟩=some (.int .i64 x.p.pr)∧w.cell? ⟨b,off+k*7+4,none⟩=some (.bool x.p.ti)∧w.cell? ⟨b,off+k*7+5,none⟩=some (.int .i64 (x.i:Int))∧w.cell? ⟨b,off+k*7+6,none⟩=some (.int .i64 (x.k:Int))
end Go.Proofs.YtikcigjbhohboaaGreat.pln
end
section
namespace Go.Proofs.YtikcigjbhohboaaGreat.pln
open Go.ChangeShapes Go.WideShapes Go.ChangeAt Go.RowKit Go.Deep val ter
def zr (Z:List (List Int)) (c:Nat) (r:Int):Int:=(Z.getD c []).getD r.toNat 0
def skP (s:Sys) (wh:List Int) (R:List (List Pc)) (c pr:Int) (i:Nat):Bool:=!decide (wh.getD i 0=c) || (decide (s.po=1) && decide (((R.getD i []).getD 0 pc0).pr<pr))
def inP (s:Sys) (R:List (List Pc)) (pr:Int) (i:Nat):Bool:=decide (s.pr=2) && (decide (pr<((R.getD i []).getD 0 pc0).pr) && decide (0<(s.ts.getD i ts0).secs.length))
def hiP (s:Sys) (z:Int→Int) (pr r:Int):Bool:=decide (s.pr=2) && decide (pr<z r)
def bkS (s:Sys) (wh:List Int) (z:Int→Int) (pr:Int) (i:Nat) (ss:List (Int × Int × Int)) (m:Int):Nat→Int
 | 0=>m
 | k+1=>if hiP s z pr (ss.getD k (0,0,0)).2.1=true then bkS s wh z pr i ss m k else max (bkS s wh z pr i ss m k) (holdV s wh (i:Int) (k:Int))
def bkM (s:Sys) (wh:List Int) (R:List (List Pc)) (z:Int→Int) (c pr:Int):Nat→Int
 | 0=>0
 | i+1=>if skP s wh R c pr i=true then bkM s wh R z c pr i else bkS s wh z pr i (s.ts.getD i ts0).secs (bkM s wh R z c pr i) (s.ts.getD i ts0).secs.length
def bkE (s:Sys) (wh:List Int) (R:List (List Pc)) (c pr:Int):Nat→Int
 | 0=>2
 | i+1=>if skP s wh R c pr i=true then bkE s wh R c pr i else bkE s wh R c pr i+if inP s R pr i=true then 1 else 0
def blkV (s:Sys) (R:List (List Pc)) (Z:List (List Int)) (c:Nat) (pr:Int):Int:=bkM s (R.map whO) R (zr Z c) (c:Int) pr R.length+bkE s (R.map whO) R (c:Int) pr R.length*s.fi+2*s.sw
theorem hold_bd {s:Sys} (h:right s=true) (wh:List Int) (i k:Int):0≤holdV s wh i k∧holdV s wh i k≤9895604650000:=by
 unfold holdV
 cases e:sec? s i k with
 | none=>dsimp only;omega
 | some x =>
  have h1:=smV_le h wh i.toNat x.2.1
  have h2:=(sec_some e).2
  dsimp only
  omega
end Go.Proofs.YtikcigjbhohboaaGreat.pln
end
