/- Part 2 of a proof: PlW VdM PlM ReM QaQ QaQ2 TeM. -/
import Derived.ChangeSame
import Derived.Deep.Fields
import Derived.Deep.Slices
import Derived.IntWalk
import Derived.Laws.BitsAllLaws
import Derived.OwnWalk
import Derived.SizedLaws
import Derived.Test.YtikcigjbhohboaaGreatM01
section
namespace Go.Proofs.YtikcigjbhohboaaGreat.pln
open Go.ChangeShapes Go.WideShapes Go.ChangeAt Go.RowKit Go.Deep
structure Pc where
 co:Int
 bu:Int
 de:Int
 pr:Int
 ti:Bool
def pc0 : Pc:=⟨0,0,0,0,false⟩
instance : Inhabited Pc:=⟨pc0⟩
def pcV (x:Pc):Value:=.agg #[.int .i64 x.co,.int .i64 x.bu,.int .i64 x.de,.int .i64 x.pr,.bool x.ti]
structure RPc (w:World) (A:Option Addr) (n:Nat) (l:List Pc):Prop where
 len:l.length=n
 max:n≤9223372036854775807
 at_:0<n→∃ b off,A=some ⟨b,off,none⟩∧b<w.heap.size∧∀ k x,l[k]? = some x→w.cell? ⟨b,off+k*5,none⟩=some (.int .i64 x.co)∧w.cell? ⟨b,off+k*5+1,none⟩=some (.int .i64 x.bu)∧w.cell? ⟨b,off+k*5+2,none⟩=some (.int .i64 x.de)∧w.cell? ⟨b,off+k*5+3,none⟩=some (.int .i64 x.pr)∧w.cell? ⟨b,off+k*5+4,none⟩=some (.bool x.ti)
 fit:∀ x ∈ l,inR x.co∧inR x.bu∧inR x.de∧inR x.pr
theorem RPc.but {w w':World} {A:Option Addr} {n:Nat} {l:List Pc} {S:Nat→Prop} (h:RPc w A n l) (hb:But S w w') (hs:0<n→∀ b off,A=some ⟨b,off,none⟩→¬S b):RPc w' A n l :=
 ⟨h.len,h.max,fun hn=>by
  obtain⟨b,off,e,hl,hc⟩:=h.at_ hn
  have h9:=hs hn b off e
  exact⟨b,off,e,Nat.lt_of_lt_of_le hl hb.size,fun k x hx=>by rw[hb.cell hl h9,hb.cell hl h9,hb.cell hl h9,hb.cell hl h9,hb.cell hl h9];exact hc k x hx⟩,h.fit⟩
theorem RPc.no {w w':World} {A:Option Addr} {n:Nat} {l:List Pc} (h:RPc w A n l) (hb:But No w w'):RPc w' A n l:=h.but hb (fun _ _ _ _ f=>f)
theorem RPc.at1 {w:World} {A:Option Addr} {n:Nat} {l:List Pc} (h:RPc w A n l) {k:Nat} {x:Pc} (hx:l[k]? = some x) :
  ∃ b off,A=some ⟨b,off,none⟩∧b<w.heap.size∧w.cell? ⟨b,off+k*5,none⟩=some (.int .i64 x.co)∧w.cell? ⟨b,off+k*5+1,none⟩=some (.int .i64 x.bu)∧w.cell? ⟨b,off+k*5+2,none⟩=some (.int .i64 x.de)∧w.cell? ⟨b,off+k*5+3,none⟩=some (.int .i64 x.pr)∧w.cell? ⟨b,off+k*5+4,none⟩=some (.bool x.ti):=by
 have hk:k<l.length:=(List.getElem?_eq_some_iff.1 hx).1
 obtain⟨b,off,e,hl,hc⟩:=h.at_ (by rw[←h.len];omega)
 exact⟨b,off,e,hl,hc k x hx⟩
theorem RPc.nil (w:World):RPc w none 0 []:=⟨rfl,by omega,fun h=>absurd h (by omega),by simp⟩
structure RPl (w:World) (A:Option Addr) (n:Nat) (L:List (List Pc)):Prop where
 len:L.length=n
 max:n≤9223372036854775807
 at_:0<n→∃ b off,A=some ⟨b,off,none⟩∧b<w.heap.size∧∀ k l,L[k]? = some l→∃ A' c',w.cell? ⟨b,off+k,none⟩=some (.slice A' l.length c')∧l.length≤c'∧RPc w A' l.length l
theorem RPl.no {w w':World} {A:Option Addr} {n:Nat} {L:List (List Pc)} (h:RPl w A n L) (hb:But No w w'):RPl w' A n L :=
 ⟨h.len,h.max,fun hn=>by
  obtain⟨b,off,e,hl,hc⟩:=h.at_ hn
  refine⟨b,off,e,Nat.lt_of_lt_of_le hl hb.size,fun k l hx=>?_⟩
  obtain⟨A',c',h1,h2,h3⟩:=hc k l hx
  exact⟨A',c',by rw[hb.cell hl (fun f=>f)];exact h1,h2,h3.no hb⟩⟩
theorem RPl.at1 {w:World} {A:Option Addr} {n:Nat} {L:List (List Pc)} (h:RPl w A n L) {k:Nat} {l:List Pc} (hx:L[k]? = some l) :
  ∃ b off A' c',A=some ⟨b,off,none⟩∧b<w.heap.size∧w.cell? ⟨b,off+k,none⟩=some (.slice A' l.length c')∧l.length≤c'∧RPc w A' l.length l:=by
 have hk:k<L.length:=(List.getElem?_eq_some_iff.1 hx).1
 obtain⟨b,off,e,hl,hc⟩:=h.at_ (by rw[←h.len];omega)
 obtain⟨A',c',h1,h2,h3⟩:=hc k l hx
 exact⟨b,off,A',c',e,hl,h1,h2,h3⟩
theorem RPl.nil (w:World):RPl w none 0 []:=⟨rfl,by omega,fun h=>absurd h (by omega)⟩
theorem int_of {H:Type} {enc:TypeId × Value→H} {W:World} {base n:Nat} {sp:Nat→Bool} {held:Bool} {v:Value} {y:DataW H × List MemPlace} (h:DataW.trod enc Tryz.prog W base sp held n 3 [v]=some y):∃ z,v=.int .i64 z∧inR z:=by
 obtain⟨z,hz⟩:=DataW.trod_int Tryz.underlying3 h
 simp only[List.cons.injEq,and_true] at hz
 exact⟨z,hz.1,inR_of hz.2.2⟩
theorem bool_of {H:Type} {enc:TypeId × Value→H} {W:World} {base n:Nat} {sp:Nat→Bool} {held:Bool} {v:Value} {y:DataW H × List MemPlace} (h:DataW.trod enc Tryz.prog W base sp held n 4 [v]=some y):∃ z,v=.bool z:=by
 obtain⟨z,hz⟩:=DataW.trod_bool Tryz.underlying4 h
 simp only[List.cons.injEq,and_true] at hz
 exact⟨z,hz.1⟩
set_option maxRecDepth 100000 in
theorem pc_of {H:Type} {enc:TypeId × Value→H} {W:World} {base n:Nat} {sp:Nat→Bool} {held:Bool} {v:Value} {y:DataW H × List MemPlace} (hf:DataW.trod enc Tryz.prog W base sp held n 38 [v]=some y) :
  ∃ (A:Option Addr) (l:List Pc) (c:Nat),v=.slice A l.length c∧l.length≤c∧RPc W A l.length l:=by
 rcases open_slice_fields Tryz.underlying38 Tryz.underlying42 (by kernel_rfl) (by kernel_rfl) hf with⟨hcs,hx⟩ | ⟨a,len,cap,m,DD,Pl,hcs,_,hl,hm,hmm,hx,hi⟩
 ·simp only[List.cons.injEq,and_true] at hcs
  exact⟨none, [],0,hcs,Nat.le_refl _,RPc.nil W⟩
 ·simp only[List.cons.injEq,and_true] at hcs
  unfold maxLen at hm
  have hlm:len≤m:=by rw[hmm];split <;> omega
  have key:∀ k,∃ z:Pc,k<len→(W.cell? (a.add (k*5))=some (.int .i64 z.co)∧W.cell? (a.add (k*5+1))=some (.int .i64 z.bu)∧W.cell? (a.add (k*5+2))=some (.int .i64 z.de)∧W.cell? (a.add (k*5+3))=some (.int .i64 z.pr)∧W.cell? (a.add (k*5+4))=some (.bool z.ti))∧inR z.co∧inR z.bu∧inR z.de∧inR z.pr:=by
   intro k
   by_cases hk:k<len
   ·obtain⟨ys,nn,_,_,_,hff⟩:=hi k (by omega)
    obtain⟨v0,y0,c0,_,t0⟩:=hff 0 _ rfl
    obtain⟨v1,y1,c1,_,t1⟩:=hff 1 _ rfl
    obtain⟨v2,y2,c2,_,t2⟩:=hff 2 _ rfl
    obtain⟨v3,y3,c3,_,t3⟩:=hff 3 _ rfl
    obtain⟨v4,y4,c4,_,t4⟩:=hff 4 _ rfl
    obtain⟨z0,rfl,r0⟩:=int_of t0
    obtain⟨z1,rfl,r1⟩:=int_of t1
    obtain⟨z2,rfl,r2⟩:=int_of t2
    obtain⟨z3,rfl,r3⟩:=int_of t3
    obtain⟨z4,rfl⟩:=bool_of t4
    exact⟨⟨z0,z1,z2,z3,z4⟩,fun _=>⟨⟨c0,c1,c2,c3,c4⟩,r0,r1,r2,r3⟩⟩
   ·exact⟨pc0,fun h=>absurd h hk⟩
  obtain⟨zf,hz⟩:=Classical.axiomOfChoice key
  have hlen:((List.range len).map zf).length=len:=by simp
  refine⟨some a,(List.range len).map zf,cap,by rw[hlen];exact hcs,by rw[hlen];exact hl,⟨rfl,by rw[hlen];omega,fun hn=>?_,fun x hx=>?_⟩⟩
  ·rw[hlen] at hn
   obtain⟨b,off,spot⟩:=a
   have hspot:spot=none:=by simpa [Addr.add] using World.cell?_spot (hz 0 hn).1.1
   subst hspot
   refine⟨b,off,rfl,World.block_lt_of_cell? W _ (hz 0 hn).1.1,fun k x hx=>?_⟩
   have hk:k<len:=by have:=(List.getElem?_eq_some_iff.1 hx).1;rw[hlen] at this;exact this
   have hxe:zf k=x:=by simpa [hk] using hx
   have:=(hz k hk).1
   rw[hxe] at this
   simp only[add_plain] at this
   simpa only[Nat.add_assoc] using this
  ·obtain⟨k,hk,rfl⟩:=List.mem_map.1 hx
   exact(hz k (List.mem_range.1 hk)).2
set_option maxRecDepth 100000 in
theorem pl_of {H:Type} {enc:TypeId × Value→H} {W:World} {base:Nat} {v:Value} {d:DataW H} {p:List MemPlace} (hv:Value.okWide Tryz.prog W .any base 25 v) (h:DataW.Trod enc Tryz.prog W 0 (fun _=>true) true 25 v d p) :
  ∃ (A:Option Addr) (n c:Nat) (L:List (List Pc)),v=.slice A n c∧RPl W A n L∧n≤c:=by
 obtain⟨a0,len,cap,rfl⟩:=okWide_slice Tryz.underlying25 hv
 obtain⟨fuel,hf⟩:=h
 refine⟨a0,len,cap,?_⟩
 rcases open_slice1 Tryz.underlying25 (by kernel_rfl) hf with⟨hcs,hx⟩ | ⟨a,len',cap',m,nn,V,DD,Pl,hcs,_,hl,hm,hmm,hx,hi⟩
 ·simp[Value.cells] at hcs
  obtain⟨rfl,rfl,rfl⟩:=hcs
  exact⟨[],rfl,RPl.nil W,Nat.le_refl _⟩
 ·simp[Value.cells] at hcs
  obtain⟨rfl,rfl,rfl⟩:=hcs
  simp only[if_true] at hmm
  unfold maxLen at hm
  have key:∀ k,∃ l:List Pc,k<len→∃ A' c',W.cell? (a.add k)=some (.slice A' l.length c')∧l.length≤c'∧RPc W A' l.length l:=by
   intro k
   by_cases hk:k<len
   ·obtain⟨h1,h2⟩:=hi k (by omega)
    obtain⟨A',l,c',e,q1,q2⟩:=pc_of h2
    exact⟨l,fun _=>⟨A',c',by rw[h1,e],q1,q2⟩⟩
   ·exact⟨[],fun h=>absurd h hk⟩
  obtain⟨zf,hz⟩:=Classical.axiomOfChoice key
  have hlen:((List.range len).map zf).length=len:=by simp
  refine⟨(List.range len).map zf,rfl,⟨hlen,by omega,fun hn=>?_⟩,hl⟩
  obtain⟨b,off,spot⟩:=a
  obtain⟨A0,c0,e0,_⟩:=hz 0 hn
  have hspot:spot=none:=by simpa [Addr.add] using World.cell?_spot e0
  subst hspot
  refine⟨b,off,rfl,World.block_lt_of_cell? W _ e0,fun k l hx=>?_⟩
  have hk:k<len:=by have:=(List.getElem?_eq_some_iff.1 hx).1;rw[hlen] at this;exact this
  have hxe:zf k=l:=by simpa [hk] using hx
  obtain⟨A',c',h1,h2,h3⟩:=hz k hk
  rw[hxe] at h1 h2 h3
  simp only[add_plain] at h1
  exact⟨A',c',h1,h2,h3⟩
end Go.Proofs.YtikcigjbhohboaaGreat.pln
end
section
namespace Go.Proofs.YtikcigjbhohboaaGreat
def wi (n a b:Int):Bool:=decide (a≤n) && decide (n≤b)
theorem wi_true {n a b:Int}:wi n a b=true ↔ a≤n∧n≤b:=by unfold wi;simp
theorem wi_false {n a b:Int}:wi n a b=false ↔ n<a∨b<n:=by
 unfold wi
 rw[Bool.and_eq_false_iff,decide_eq_false_iff_not,decide_eq_false_iff_not];omega
def vWhole (s:Sys):Bool:=wi s.co 1 8 && (wi s.po 1 2 && (wi s.pr 1 2 && (!(decide (s.pr=2) && !decide (s.po=1)) && (wi s.re 0 50 && (wi s.sw 0 50 && (wi s.fi 0 50 && (wi s.la 1 50 && (wi s.rs 0 8 && wi (s.ts.length:Int) 1 24))))))))
def vHead (t:Tsk):Bool:=wi t.p 1 1099511627776 && (wi t.d 1 t.p && (wi t.w 1 t.d && decide (t.secs.length≤4)))
def vSec (res w e:Int) (x:Int × Int × Int):Bool:=wi x.1 e w && (wi x.2.1 0 (res-1) && wi x.2.2 1 (w-x.1))
def vSecs (res w:Int):Nat→Int→List (Int × Int × Int)→Option Nat
 | _,_, []=>none
 | k,e,x :: r=>if vSec res w e x=true then vSecs res w (k+1) (x.1+x.2.2) r else some k
def vEnd : Nat→List (Int × Int × Int)→Int
 | 0,_=>0
 | k+1,l=>(l.getD k (0,0,0)).1+(l.getD k (0,0,0)).2.2
def vTsk (res:Int) (t:Tsk):Bool:=vHead t && (vSecs res t.w 0 0 t.secs).isNone
def vTasks (res:Int):Nat→List Tsk→Option (Nat × Int)
 | _, []=>none
 | i,t :: r =>
  if vHead t=true then
   match vSecs res t.w 0 0 t.secs with
   | some k=>some (i,(k:Int))
   | none=>vTasks res (i+1) r
  else some (i, -1)
def vFind (s:Sys):Bool × Int × Int :=
 if vWhole s=true then
  match vTasks s.rs 0 s.ts with
  | some (i,k)=>(true,(i:Int),k)
  | none=>(false, -1, -1)
 else (true, -1, -1)
def right (s:Sys):Bool:=vWhole s && s.ts.all (vTsk s.rs)
theorem vTasks_none (res:Int):∀ (i:Nat) (ts:List Tsk),(vTasks res i ts).isNone=ts.all (vTsk res)
 | _, []=>rfl
 | i,t :: r=>by
  have ih:=vTasks_none res (i+1) r
  unfold vTasks
  rw[List.all_cons]
  by_cases h:vHead t=true
  ·rw[if_pos h]
   cases hs:vSecs res t.w 0 0 t.secs with
   | none =>
    have:vTsk res t=true:=by unfold vTsk;rw[h,hs];rfl
    rw[this,Bool.true_and]
    exact ih
   | some k =>
    have:vTsk res t=false:=by unfold vTsk;rw[h,hs];rfl
    rw[this];rfl
  ·rw[if_neg h]
   have:vTsk res t=false:=by
    unfold vTsk
    rw[Bool.not_eq_true] at h
    rw[h];rfl
   rw[this];rfl
theorem right_find (s:Sys):right s = !(vFind s).1:=by
 unfold right vFind
 by_cases h:vWhole s=true
 ·rw[if_pos h,h,Bool.true_and,←vTasks_none s.rs 0]
  cases vTasks s.rs 0 s.ts with
  | none=>rfl
  | some x=>rfl
 ·rw[if_neg h]
  rw[Bool.not_eq_true] at h
  rw[h];rfl
theorem vTasks_skip {res:Int}:∀ {i k:Nat} {ts:List Tsk},(∀ j t,j<k→ts[j]? = some t→vTsk res t=true)→vTasks res i ts=vTasks res (i+k) (ts.drop k)
 | i,0,ts,_=>by simp
 | i,k+1, [],_=>by simp[vTasks]
 | i,k+1,t :: r,h=>by
  have h0:=h 0 t (by omega) rfl
  have ih:=vTasks_skip (res:=res) (i:=i+1) (k:=k) (ts:=r) (fun j x hj hx=>h (j+1) x (by omega) (by simpa using hx))
  unfold vTsk at h0
  rw[Bool.and_eq_true] at h0
  rw[vTasks,if_pos h0.1]
  cases hs:vSecs res t.w 0 0 t.secs with
  | none=>show vTasks res (i+1) r=_;rw[ih,List.drop_succ_cons,show i+1+k=i+(k+1)by omega]
  | some q=>rw[hs] at h0;simp at h0
theorem vTasks_head {res:Int} {ts:List Tsk} {k:Nat} {t:Tsk} (h:∀ j t,j<k→ts[j]? = some t→vTsk res t=true) (ht:ts[k]? = some t) (hh:vHead t=false):vTasks res 0 ts=some (k, -1):=by
 rw[vTasks_skip h]
 obtain⟨hk,rfl⟩:=List.getElem?_eq_some_iff.1 ht
 rw[List.drop_eq_getElem_cons hk,vTasks,if_neg (by rw[hh];simp),Nat.zero_add]
theorem vTasks_sec {res:Int} {ts:List Tsk} {k q:Nat} {t:Tsk} (h:∀ j t,j<k→ts[j]? = some t→vTsk res t=true) (ht:ts[k]? = some t) (hh:vHead t=true) (hs:vSecs res t.w 0 0 t.secs=some q):vTasks res 0 ts=some (k,(q:Int)):=by
 rw[vTasks_skip h]
 obtain⟨hk,rfl⟩:=List.getElem?_eq_some_iff.1 ht
 rw[List.drop_eq_getElem_cons hk,vTasks,if_pos hh,hs,Nat.zero_add]
theorem vSecs_skip {res w:Int}:∀ {i k:Nat} {e:Int} {l:List (Int × Int × Int)},k≤l.length→(∀ j x,j<k→l[j]? = some x→vSec res w (if j=0 then e else vEnd j l) x=true)→vSecs res w i e l=vSecs res w (i+k) (if k=0 then e else vEnd k l) (l.drop k)
 | i,0,e,l,_,_=>by simp
 | i,k+1,e, [],hk,_=>by simp at hk
 | i,k+1,e,x :: r,hk,h=>by
  have h0:=h 0 x (by omega) rfl
  rw[if_pos rfl] at h0
  have ih:=vSecs_skip (res:=res) (w:=w) (i:=i+1) (k:=k) (e:=x.1+x.2.2) (l:=r) (by simpa using hk) (fun j y hj hy=>by
   have:=h (j+1) y (by omega) (by simpa using hy)
   rw[if_neg (by omega)] at this
   cases j with
   | zero=>rw[if_pos rfl];simpa [vEnd] using this
   | succ j=>rw[if_neg (by omega)];simpa [vEnd] using this)
  have e1:(if k+1=0 then e else vEnd (k+1) (x :: r))=(if k=0 then x.1+x.2.2 else vEnd k r):=by
   cases k with
   | zero=>simp[vEnd]
   | succ k=>simp[vEnd]
  rw[vSecs,if_pos h0,ih,List.drop_succ_cons,e1,show i+1+k=i+(k+1)by omega]
theorem vSecs_bad {res w:Int} {k:Nat} {l:List (Int × Int × Int)} {x:Int × Int × Int} (h:∀ j y,j<k→l[j]? = some y→vSec res w (vEnd j l) y=true) (hx:l[k]? = some x) (hb:vSec res w (vEnd k l) x=false):vSecs res w 0 0 l=some k:=by
 obtain⟨hk,rfl⟩:=List.getElem?_eq_some_iff.1 hx
 have e0:∀ j,(if j=0 then (0:Int) else vEnd j l)=vEnd j l:=fun j=>by cases j <;> simp[vEnd]
 rw[vSecs_skip (i:=0) (k:=k) (e:=0) (by omega) (fun j y hj hy=>by rw[e0];exact h j y hj hy),e0,List.drop_eq_getElem_cons hk,vSecs,if_neg (by rw[hb];simp),Nat.zero_add]
theorem vSecs_good {res w:Int} {l:List (Int × Int × Int)} (h:∀ j y,l[j]? = some y→vSec res w (vEnd j l) y=true):vSecs res w 0 0 l=none:=by
 have e0:∀ j,(if j=0 then (0:Int) else vEnd j l)=vEnd j l:=fun j=>by cases j <;> simp[vEnd]
 rw[vSecs_skip (i:=0) (k:=l.length) (e:=0) (Nat.le_refl _) (fun j y _ hy=>by rw[e0];exact h j y hy),List.drop_length,vSecs]
theorem right_parts {s:Sys} (h:right s=true):vWhole s=true∧∀ t ∈ s.ts,vTsk s.rs t=true:=by
 unfold right at h
 rw[Bool.and_eq_true,List.all_eq_true] at h
 exact h
end Go.Proofs.YtikcigjbhohboaaGreat
end
section
namespace Go.Proofs.YtikcigjbhohboaaGreat.pln
def lfN (la d:Int) (l:List Pc):Nat→Int
 | 0=>d
 | i+1=>lfN la d l i-(l.getD i pc0).bu-(la-1)
def smN (l:List Pc):Nat→Int
 | 0=>0
 | i+1=>smN l i+(l.getD i pc0).bu
theorem getD_some {l:List Pc} {i:Nat} {x:Pc} (h:l[i]? = some x):l.getD i pc0=x:=by simp[List.getD,h]
def bad1 (s:Sys) (t:Tsk) (last:Bool) (x:Pc):Bool:=decide (x.co<0) || (decide (s.co≤x.co) || (decide (x.bu<1) || (decide (t.w<x.bu) || ((!x.ti && !last) || (x.ti && decide (0<t.secs.length))))))
def bad2 (l:List Pc) (i:Nat) (x:Pc):Bool:=(l.take i).any (fun y=>decide (y.co=x.co))
def bad3 (lf:Int) (x:Pc):Bool:=(x.ti && !decide (x.de=x.bu)) || (!x.ti && (!decide (x.de=lf) || decide (lf<1)))
def badP (s:Sys) (t:Tsk) (l:List Pc) (i:Nat) (x:Pc):Bool:=bad1 s t (decide (i+1=l.length)) x || (bad2 l i x || bad3 (lfN s.la t.d l i) x)
def okN (s:Sys) (t:Tsk) (l:List Pc):Nat→Bool
 | 0=>true
 | i+1=>okN s t l i && !badP s t l i (l.getD i pc0)
def okL (s:Sys) (t:Tsk) (l:List Pc):Bool:=decide (l.length≤8) && (okN s t l l.length && (decide (l = []) || if (l.getD (l.length-1) pc0).ti=true then decide (smN l l.length<t.w) else decide (smN l l.length=t.w)))
theorem okN_le {s:Sys} {t:Tsk} {l:List Pc} {i j:Nat} (hij:i≤j) (h:okN s t l j=true):okN s t l i=true:=by
 induction j with
 | zero =>
    obtain rfl:i=0:=by omega
    exact h
 | succ j ih =>
  by_cases e:i=j+1
  ·rw[e];exact h
  ·rw[okN,Bool.and_eq_true] at h
   exact ih (by omega) h.1
theorem okL_bad {s:Sys} {t:Tsk} {l:List Pc} {i:Nat} {x:Pc} (hx:l[i]? = some x) (h:badP s t l i x=true):okL s t l=false:=by
 have hi:i<l.length:=(List.getElem?_eq_some_iff.1 hx).1
 have h1:okN s t l (i+1)=false:=by rw[okN,getD_some hx,h];simp
 have h2:okN s t l l.length=false:=by
  cases e:okN s t l l.length with
  | false=>rfl
  | true=>rw[okN_le (show i+1≤l.length by omega) e] at h1;cases h1
 unfold okL;rw[h2];simp
theorem okN_next {s:Sys} {t:Tsk} {l:List Pc} {i:Nat} {x:Pc} (hx:l[i]? = some x) (h0:okN s t l i=true) (h:badP s t l i x=false):okN s t l (i+1)=true:=by rw[okN,getD_some hx,h0,h];rfl
theorem smN_next {l:List Pc} {i:Nat} {x:Pc} (hx:l[i]? = some x):smN l (i+1)=smN l i+x.bu:=by rw[smN,getD_some hx]
theorem lfN_next {la d:Int} {l:List Pc} {i:Nat} {x:Pc} (hx:l[i]? = some x):lfN la d l (i+1)=lfN la d l i-x.bu-(la-1):=by rw[lfN,getD_some hx]
theorem bad2_next {l:List Pc} {i k:Nat} {x y:Pc} (hk:k<i) (hy:l[k]? = some y) (e:y.co=x.co):bad2 l i x=true:=by
 unfold bad2
 rw[List.any_eq_true]
 exact⟨y,List.mem_iff_getElem?.2 ⟨k,by rw[List.getElem?_take,if_pos hk];exact hy⟩,by simp[e]⟩
theorem bad2_none {l:List Pc} {i:Nat} {x:Pc} (h:∀ k y,k<i→l[k]? = some y→y.co≠x.co):bad2 l i x=false:=by
 unfold bad2
 rw[List.any_eq_false]
 intro y hy
 obtain⟨k,hk⟩:=List.mem_iff_getElem?.1 hy
 rw[List.getElem?_take] at hk
 by_cases hki:k<i
 ·rw[if_pos hki] at hk;simpa using h k y hki hk
 ·rw[if_neg hki] at hk;cases hk
end Go.Proofs.YtikcigjbhohboaaGreat.pln
end
section
namespace Go.Proofs.YtikcigjbhohboaaGreat.rsp
structure Ld where
 w:Int
 p:Int
 j:Int
def ld0 : Ld:=⟨0,0,0⟩
instance : Inhabited Ld:=⟨ld0⟩
def inT (a b:Int):Bool:=decide (a≤b) && decide (b≤1099511627776)
theorem inT_true {a b:Int}:inT a b=true ↔ a≤b∧b≤1099511627776:=by unfold inT;simp
theorem inT_false {a b:Int}:inT a b=false ↔ b<a∨1099511627776<b:=by
 unfold inT
 rw[Bool.and_eq_false_iff,decide_eq_false_iff_not,decide_eq_false_iff_not];omega
def okD (x:Ld):Bool:=inT 0 x.w && (inT 1 x.p && inT 0 x.j)
theorem okD_iff {x:Ld}:okD x=true ↔ (0≤x.w∧x.w≤1099511627776)∧(1≤x.p∧x.p≤1099511627776)∧0≤x.j∧x.j≤1099511627776:=by
 unfold okD;simp only[Bool.and_eq_true,inT_true]
def okLs (l:List Ld):Bool:=decide (l.length≤72) && l.all okD
theorem okLs_iff {l:List Ld}:okLs l=true ↔ l.length≤72∧∀ x ∈ l,okD x=true:=by
 unfold okLs;simp only[Bool.and_eq_true,decide_eq_true_eq,List.all_eq_true]
def right (own bl rl:Int) (a b:List Ld):Bool:=okLs a && (okLs b && (inT 0 own && (inT 0 bl && inT 0 rl)))
theorem right_iff {own bl rl:Int} {a b:List Ld}:right own bl rl a b=true ↔ okLs a=true∧okLs b=true∧(0≤own∧own≤1099511627776)∧(0≤bl∧bl≤1099511627776)∧0≤rl∧rl≤1099511627776:=by
 unfold right;simp only[Bool.and_eq_true,inT_true]
def up (n d:Int):Int:=n/d+if 0<n % d then 1 else 0
theorem up_bd {n d:Int} (hn:0≤n) (hd:1≤d):0≤up n d∧up n d≤n:=by
 unfold up
 have h1:=Int.emod_add_mul_ediv n d
 have h2:=Int.emod_nonneg n (show d≠0 by omega)
 have h3:=Int.emod_lt_of_pos n (show 0<d by omega)
 have hq:0≤n/d:=Int.ediv_nonneg (by omega) (by omega)
 have hle:n/d≤d*(n/d):=by
  have:=Int.mul_le_mul_of_nonneg_right hd hq
  omega
 constructor <;> split <;> omega
theorem up_mono {m n d:Int} (_:0≤m) (hmn:m≤n) (hd:1≤d):up m d≤up n d:=by
 unfold up
 have h1:=Int.emod_add_mul_ediv n d
 have h2:=Int.emod_nonneg n (show d≠0 by omega)
 have h3:=Int.emod_lt_of_pos n (show 0<d by omega)
 have k1:=Int.emod_add_mul_ediv m d
 have k2:=Int.emod_nonneg m (show d≠0 by omega)
 have k3:=Int.emod_lt_of_pos m (show 0<d by omega)
 have hle:m/d≤n/d:=Int.ediv_le_ediv (by omega) hmn
 rcases(show m/d=n/d∨m/d+1≤n/d by omega)with e | e
 ·rw[e] at k1 ⊢
  split <;> split <;> omega
 ·split <;> split <;> omega
def fA (n:Int) (x:Ld):Int:=up (n+x.j) x.p*x.w
def fB (rl n:Int) (x:Ld):Int:=(up (n+x.j) x.p+1)*rl
theorem fA_pos {n:Int} {x:Ld} (hn:0≤n) (hx:okD x=true):0≤fA n x:=by
 obtain⟨⟨w0,_⟩,⟨p0,_⟩,j0,_⟩:=okD_iff.1 hx
 have:=up_bd (n:=n+x.j) (by omega) p0
 exact Int.mul_nonneg (by omega) w0
theorem fB_pos {rl n:Int} {x:Ld} (hn:0≤n) (hr:0≤rl) (hx:okD x=true):0≤fB rl n x:=by
 obtain⟨_,⟨p0,_⟩,j0,_⟩:=okD_iff.1 hx
 have:=up_bd (n:=n+x.j) (by omega) p0
 exact Int.mul_nonneg (by omega) hr
theorem fA_mono {m n:Int} {x:Ld} (hm:0≤m) (h:m≤n) (hx:okD x=true):fA m x≤fA n x:=by
 obtain⟨⟨w0,_⟩,⟨p0,_⟩,j0,_⟩:=okD_iff.1 hx
 exact Int.mul_le_mul_of_nonneg_right (up_mono (by omega) (by omega) p0) w0
theorem fB_mono {rl m n:Int} {x:Ld} (hm:0≤m) (h:m≤n) (hr:0≤rl) (hx:okD x=true):fB rl m x≤fB rl n x:=by
 obtain⟨_,⟨p0,_⟩,j0,_⟩:=okD_iff.1 hx
 exact Int.mul_le_mul_of_nonneg_right (by have:=up_mono (m:=m+x.j) (n:=n+x.j) (by omega) (by omega) p0;omega) hr
def sN (s:Int) (f:Ld→Int) (l:List Ld):Nat→Int
 | 0=>s
 | i+1=>sN s f l i+f (l.getD i ld0)
theorem getD_some {l:List Ld} {i:Nat} {x:Ld} (h:l[i]? = some x):l.getD i ld0=x:=by simp[List.getD,h]
theorem sN_succ {s:Int} {f:Ld→Int} {l:List Ld} {i:Nat} {x:Ld} (h:l[i]? = some x):sN s f l (i+1)=sN s f l i+f x:=by rw[sN,getD_some h]
def sL (f:Ld→Int):List Ld→Int
 | []=>0
 | x :: l=>f x+sL f l
theorem sL_app (f:Ld→Int) (a b:List Ld):sL f (a ++ b)=sL f a+sL f b:=by
 induction a with
 | nil=>simp[sL]
 | cons x a ih=>rw[List.cons_append,sL,sL,ih];omega
theorem sN_take (s:Int) (f:Ld→Int) (l:List Ld) {i:Nat} (hi:i≤l.length):sN s f l i=s+sL f (l.take i):=by
 induction i with
 | zero=>simp[sN,sL]
 | succ i ih =>
  have hx:l[i]? = some l[i]:=List.getElem?_eq_getElem (by omega)
  rw[sN_succ hx,ih (by omega),List.take_add_one,hx,sL_app]
  simp[sL];omega
theorem sN_all (s:Int) (f:Ld→Int) (l:List Ld):sN s f l l.length=s+sL f l:=by
 rw[sN_take s f l (Nat.le_refl _),List.take_length]
theorem sL_le {f g:Ld→Int} {l:List Ld} (h:∀ x ∈ l,f x≤g x):sL f l≤sL g l:=by
 induction l with
 | nil=>exact Int.le_refl 0
 | cons x l ih =>
  rw[sL,sL]
  have:=h x (by simp)
  have:=ih (fun y hy=>h y (by simp[hy]))
  omega
theorem sL_pos {f:Ld→Int} {l:List Ld} (h:∀ x ∈ l,0≤f x):0≤sL f l:=by
 induction l with
 | nil=>exact Int.le_refl 0
 | cons x l ih =>
  rw[sL]
  have:=h x (by simp)
  have:=ih (fun y hy=>h y (by simp[hy]))
  omega
def wiA (own bl:Int) (a:List Ld) (n:Int):Int:=sN (own+bl) (fA n) a a.length
def wiS (own bl rl:Int) (a b:List Ld) (n:Int):Int:=sN (wiA own bl a n) (fB rl n) b b.length
theorem wiS_L (own bl rl:Int) (a b:List Ld) (n:Int):wiS own bl rl a b n=own+bl+sL (fA n) a+sL (fB rl n) b:=by
 unfold wiS wiA;rw[sN_all,sN_all]
def wiE (own bl rl:Int) (a b:List Ld) (n:Int):Int:=if right own bl rl a b=true∧0≤n∧n≤4611686018427387904 then (if 4611686018427387904<wiS own bl rl a b n then 2 else 0) else 1
def wiV (own bl rl:Int) (a b:List Ld) (n:Int):Int:=if wiE own bl rl a b n=0 then wiS own bl rl a b n else 0
theorem wi_cases (own bl rl:Int) (a b:List Ld) (n:Int):(wiE own bl rl a b n=1∧wiV own bl rl a b n=0∧¬(right own bl rl a b=true∧0≤n∧n≤4611686018427387904))∨((right own bl rl a b=true∧0≤n∧n≤4611686018427387904)∧4611686018427387904<wiS own bl rl a b n∧wiE own bl rl a b n=2∧wiV own bl rl a b n=0) ∨
  ((right own bl rl a b=true∧0≤n∧n≤4611686018427387904)∧wiS own bl rl a b n≤4611686018427387904∧wiE own bl rl a b n=0∧wiV own bl rl a b n=wiS own bl rl a b n):=by
 unfold wiV wiE
 by_cases h:right own bl rl a b=true∧0≤n∧n≤4611686018427387904
 ·rw[if_pos h]
  by_cases ho:4611686018427387904<wiS own bl rl a b n
  ·rw[if_pos ho];exact .inr (.inl ⟨h,ho,rfl,by simp⟩)
  ·rw[if_neg ho];exact .inr (.inr ⟨h,by omega,rfl,by simp⟩)
 ·rw[if_neg h]
  exact .inl ⟨rfl,by simp,h⟩
def bnGo (own bl rl:Int) (a b:List Ld) (limit:Int):Nat→Int→Int × Int
 | 0,_=>(0,11)
 | k+1,n=>if wiE own bl rl a b n≠0 then (0,wiE own bl rl a b n) else if wiV own bl rl a b n≤n then (n,0) else if limit<wiV own bl rl a b n then (0,12) else bnGo own bl rl a b limit k (wiV own bl rl a b n)
def bnP (own bl rl:Int) (a b:List Ld) (limit:Int):Int × Int:=if right own bl rl a b=true∧1≤limit∧limit≤1099511627776 then bnGo own bl rl a b limit 5000 1 else (0,1)
theorem wi_mono {own bl rl:Int} {a b:List Ld} {m n:Int} (h:right own bl rl a b=true) (hm:0≤m) (hn:m≤n):wiS own bl rl a b m≤wiS own bl rl a b n:=by
 obtain⟨h1,h2,_,_,h3,_⟩:=right_iff.1 h
 have e1:=sL_le (f:=fA m) (g:=fA n) (l:=a) (fun x hx=>fA_mono hm hn ((okLs_iff.1 h1).2 x hx))
 have e2:=sL_le (f:=fB rl m) (g:=fB rl n) (l:=b) (fun x hx=>fB_mono hm hn h3 ((okLs_iff.1 h2).2 x hx))
 rw[wiS_L,wiS_L];omega
theorem wi_pos {own bl rl:Int} {a b:List Ld} {n:Int} (h:right own bl rl a b=true) (hn:0≤n):0≤wiS own bl rl a b n:=by
 obtain⟨h1,h2,⟨o0,_⟩,⟨b0,_⟩,h3,_⟩:=right_iff.1 h
 have e1:=sL_pos (f:=fA n) (l:=a) (fun x hx=>fA_pos hn ((okLs_iff.1 h1).2 x hx))
 have e2:=sL_pos (f:=fB rl n) (l:=b) (fun x hx=>fB_pos hn h3 ((okLs_iff.1 h2).2 x hx))
 rw[wiS_L];omega
theorem bn_go {own bl rl:Int} {a b:List Ld} {limit:Int} (h:right own bl rl a b=true) (hl:limit≤1099511627776):∀ (k:Nat) (n:Int),1≤n→n≤1099511627776→(∀ m,1≤m→m<n→m<wiS own bl rl a b m)→(bnGo own bl rl a b limit k n).2=0 →
  n≤(bnGo own bl rl a b limit k n).1∧(bnGo own bl rl a b limit k n).1≤1099511627776∧((bnGo own bl rl a b limit k n).1=n∨(bnGo own bl rl a b limit k n).1≤limit)∧wiS own bl rl a b (bnGo own bl rl a b limit k n).1≤(bnGo own bl rl a b limit k n).1∧∀ m,1≤m→m<(bnGo own bl rl a b limit k n).1→m<wiS own bl rl a b m
 | 0,n,_,_,_,h0=>by rw[bnGo] at h0;cases h0
 | k+1,n,h1,h2,hm,h0=>by
  rw[bnGo] at h0 ⊢
  rcases wi_cases own bl rl a b n with⟨_,_,e⟩ | ⟨_,_,e,_⟩ | ⟨_,_,e,v⟩
  ·exact absurd ⟨h,by omega,by omega⟩ e
  ·rw[if_pos (by omega),e] at h0;cases h0
  ·rw[if_neg (by omega),v] at h0
   rw[if_neg (by omega),v]
   by_cases hc:wiS own bl rl a b n≤n
   ·rw[if_pos hc]
    exact⟨Int.le_refl _,h2,.inl rfl,hc,hm⟩
   ·rw[if_neg hc] at h0 ⊢
    by_cases hx:limit<wiS own bl rl a b n
    ·rw[if_pos hx] at h0;cases h0
    ·rw[if_neg hx] at h0 ⊢
     obtain⟨i1,i2,i3,i4,i5⟩:=bn_go h hl k (wiS own bl rl a b n) (by omega) (by omega) (fun m m1 m2=>by
      by_cases e:m<n
      ·exact hm m m1 e
      ·have:=wi_mono h (show 0≤n by omega) (show n≤m by omega)
       omega) h0
     exact⟨by omega,i2,.inr (by rcases i3 with i3 | i3 <;> omega),i4,i5⟩
theorem bn_ok {own bl rl:Int} {a b:List Ld} {limit:Int} (h0:(bnP own bl rl a b limit).2=0):right own bl rl a b=true∧(1≤limit∧limit≤1099511627776)∧1≤(bnP own bl rl a b limit).1∧(bnP own bl rl a b limit).1≤1099511627776∧((bnP own bl rl a b limit).1=1∨(bnP own bl rl a b limit).1≤limit)∧wiS own bl rl a b (bnP own bl rl a b limit).1≤(bnP own bl rl a b limit).1∧∀ m,1≤m→m<(bnP own bl rl a b limit).1→m<wiS own bl rl a b m:=by
 unfold bnP at h0 ⊢
 by_cases h:right own bl rl a b=true∧1≤limit∧limit≤1099511627776
 ·rw[if_pos h] at h0 ⊢
  obtain⟨i1,i2,i3,i4,i5⟩:=bn_go h.1 h.2.2 5000 1 (by omega) (by omega) (fun m m1 m2=>by omega) h0
  exact⟨h.1,h.2,i1,i2,i3,i4,i5⟩
 ·rw[if_neg h] at h0;cases h0
end Go.Proofs.YtikcigjbhohboaaGreat.rsp
end
section
namespace Go.Proofs.YtikcigjbhohboaaGreat.qar
instance (x : Int):Decidable (inR x):=by unfold inR;exact inferInstance
def exV (x:Int):Int:=if inR x then x else 0
def exE (x:Int):Int:=if inR x then 0 else 2
theorem exV_in {x:Int} (h:inR x):exV x=x:=if_pos h
theorem exE_in {x:Int} (h:inR x):exE x=0:=if_pos h
theorem exV_out {x:Int} (h:¬inR x):exV x=0:=if_neg h
theorem exE_out {x:Int} (h:¬inR x):exE x=2:=if_neg h
theorem eqV {x y:Int} (h:inR x→y=x) (k:¬inR x→y=0):y=exV x:=by unfold exV;split;exact h ‹_›;exact k ‹_›
theorem eqE {x y:Int} (h:inR x→y=0) (k:¬inR x→y=2):y=exE x:=by unfold exE;split;exact h ‹_›;exact k ‹_›
def d0 (n:Int):Int:=n % 4294967296
def d1 (n:Int):Int:=n/4294967296 % 4294967296
def d2 (n:Int):Int:=n/18446744073709551616 % 4294967296
def d3 (n:Int):Int:=n/79228162514264337593543950336
def hi (n:Int):Int:=n/18446744073709551616
def lo (n:Int):Int:=n % 18446744073709551616
theorem hi_eq (n:Int):d3 n*4294967296+d2 n=hi n:=by unfold d3 d2 hi;omega
theorem lo_eq (n:Int):d1 n*4294967296+d0 n=lo n:=by unfold d1 d0 lo;omega
theorem d0_bd (n:Int):0≤d0 n∧d0 n<4294967296:=by unfold d0;omega
theorem d1_bd (n:Int):0≤d1 n∧d1 n<4294967296:=by unfold d1;omega
theorem d2_bd (n:Int):0≤d2 n∧d2 n<4294967296:=by unfold d2;omega
theorem d3_bd (n:Int) (h:0≤n) (k:n<340282366920938463463374607431768211456):0≤d3 n∧d3 n<4294967296:=by unfold d3;omega
theorem lo_bd (n:Int):0≤lo n∧lo n<18446744073709551616:=by unfold lo;omega
theorem hi_bd (n:Int) (h:0≤n) (k:n<340282366920938463463374607431768211456):0≤hi n∧hi n<18446744073709551616:=by unfold hi;omega
theorem or_mul (a b i m:Nat) (hm:m=2 ^ i) (h:a<m):(b*m) ||| a=b*m+a:=by
 subst hm
 rw[←Nat.shiftLeft_eq,Nat.shiftLeft_add_eq_or_of_lt h]
theorem or_join (a b:Int) (a0:0≤a) (a1:a<4294967296) (b0:0≤b) (b1:b<4294967296):bits BinOp.or IntKind.u64 (a*4294967296) b=a*4294967296+b:=by
 obtain⟨n,rfl⟩:=Int.eq_ofNat_of_zero_le a0
 obtain⟨m,rfl⟩:=Int.eq_ofNat_of_zero_le b0
 have e:((n:Int)*4294967296)=((n*4294967296:Nat):Int):=by omega
 rw[e,u64_or_nat _ _ (by omega) (by omega),or_mul m n 32 4294967296 (by decide) (by omega)]
 omega
theorem school (a b:Int) (a0:0≤a) (a1:a<18446744073709551616) (b0:0≤b) (b1:b<18446744073709551616) (x0 x1 y0 y1 s0 s1 s2 s3:Int)
  (hx0:x0=a % 4294967296) (hx1:x1=a/4294967296 % 4294967296) (hy0:y0=b % 4294967296) (hy1:y1=b/4294967296 % 4294967296)
  (h0:s0=x0*y0) (h1:s1=x0*y1+s0/4294967296 % 4294967296) (h2:s2=x1*y0+s1 % 4294967296) (h3:s3=x1*y1+s1/4294967296 % 4294967296+s2/4294967296 % 4294967296) :
  s0 % 4294967296=d0 (a*b)∧s2 % 4294967296=d1 (a*b)∧s3 % 4294967296=d2 (a*b)∧s3/4294967296 % 4294967296=d3 (a*b)
  ∧ (0≤s0∧s0<18446744073709551616)∧(0≤s1∧s1<18446744073709551616)∧(0≤s2∧s2<18446744073709551616)∧(0≤s3∧s3<18446744073709551616):=by
 have ea:a=x1*4294967296+x0:=by omega
 have eb:b=y1*4294967296+y0:=by omega
 have bx0:0≤x0∧x0≤4294967295:=by omega
 have bx1:0≤x1∧x1≤4294967295:=by omega
 have by0:0≤y0∧y0≤4294967295:=by omega
 have by1:0≤y1∧y1≤4294967295:=by omega
 have em:a*b=x1*y1*18446744073709551616+(x0*y1+x1*y0)*4294967296+x0*y0:=by
  rw[ea,eb];simp only[Int.add_mul,Int.mul_add];
  have q1:x1*4294967296*(y1*4294967296)=x1*y1*18446744073709551616:=by rw[Int.mul_assoc,Int.mul_left_comm 4294967296 y1 4294967296,←Int.mul_assoc];rfl
  have q2:x1*4294967296*y0=x1*y0*4294967296:=by rw[Int.mul_assoc,Int.mul_comm 4294967296 y0,←Int.mul_assoc]
  have q3:x0*(y1*4294967296)=x0*y1*4294967296:=by rw[Int.mul_assoc]
  rw[q1,q2,q3];omega
 have m00:0≤x0*y0∧x0*y0≤4294967295*4294967295:=⟨Int.mul_nonneg bx0.1 by0.1,Int.mul_le_mul bx0.2 by0.2 by0.1 (by omega)⟩
 have m01:0≤x0*y1∧x0*y1≤4294967295*4294967295:=⟨Int.mul_nonneg bx0.1 by1.1,Int.mul_le_mul bx0.2 by1.2 by1.1 (by omega)⟩
 have m10:0≤x1*y0∧x1*y0≤4294967295*4294967295:=⟨Int.mul_nonneg bx1.1 by0.1,Int.mul_le_mul bx1.2 by0.2 by0.1 (by omega)⟩
 have m11:0≤x1*y1∧x1*y1≤4294967295*4294967295:=⟨Int.mul_nonneg bx1.1 by1.1,Int.mul_le_mul bx1.2 by1.2 by1.1 (by omega)⟩
 rw[em]
 generalize x0*y0=X at *
 generalize x0*y1=Y at *
 generalize x1*y0=Z at *
 generalize x1*y1=U at *
 clear hx0 hx1 hy0 hy1 ea eb em
 have t0:0≤s0∧s0<18446744073709551616:=by omega
 have t1:0≤s1∧s1<18446744073709551616:=by omega
 have t2:0≤s2∧s2<18446744073709551616:=by omega
 have t3:0≤s3∧s3<18446744073709551616:=by omega
 have eN:U*18446744073709551616+(Y+Z)*4294967296+X=s3*18446744073709551616+(s2 % 4294967296)*4294967296+s0 % 4294967296:=by omega
 rw[eN]
 unfold d0 d1 d2 d3
 refine⟨by omega,by omega,by omega,by omega,t0,t1,t2,t3⟩
end Go.Proofs.YtikcigjbhohboaaGreat.qar
end
section
namespace Go.Proofs.YtikcigjbhohboaaGreat.qar
def nk (L:Int):Nat→Int
 | 0=>L
 | k+1=>nk L k*2 % 18446744073709551616
def Mk (H L:Int):Nat→Int
 | 0=>H
 | k+1=>Mk H L k*2+nk L k/9223372036854775808
structure DivRel (H L c:Int) (k:Nat) (q r n:Int):Prop where
 eq:q*c+r=Mk H L k
 r0:0≤r
 r1:r<c
 q0:0≤q
 q1:q<2 ^ k
 n:n=nk L k
def sgn (x y:Int):Int:=if x<y then -1 else if y<x then 1 else 0
theorem dig_eq (n:Int):n=d3 n*79228162514264337593543950336+d2 n*18446744073709551616+d1 n*4294967296+d0 n:=by unfold d3 d2 d1 d0;omega
def mdQ (a b c:Int) (up:Bool):Int:=if up=true∧a*b % c≠0 then a*b/c+1 else a*b/c
def cdV (a b:Int):Int:=if a<0∨b≤0 then 0 else if a % b=0 then a/b else a/b+1
def cdE (a b:Int):Int:=if a<0∨b≤0 then 1 else 0
def cmV (a b c d:Int):Int:=if a<0∨b≤0∨c<0∨d≤0 then 0 else sgn (a*d) (c*b)
def cmE (a b c d:Int):Int:=if a<0∨b≤0∨c<0∨d≤0 then 1 else 0
end Go.Proofs.YtikcigjbhohboaaGreat.qar
end
section
namespace Go.Proofs.YtikcigjbhohboaaGreat.ter
abbrev Sec := Int × Int × Int
def cr (co:Int) (wh:List Int) (i:Nat):Int:=if i<wh.length∧0≤wh.getD i 0∧wh.getD i 0<co then wh.getD i 0 else -1
theorem cr_cases (co:Int) (wh:List Int) (i:Nat):(cr co wh i = -1∧¬(i<wh.length∧0≤wh.getD i 0∧wh.getD i 0<co))∨(i<wh.length∧cr co wh i=wh.getD i 0∧0≤cr co wh i∧cr co wh i<co):=by
 unfold cr
 by_cases h:i<wh.length∧0≤wh.getD i 0∧wh.getD i 0<co
 ·rw[if_pos h];exact .inr ⟨h.1,rfl,h.2⟩
 ·rw[if_neg h];exact .inl ⟨rfl,h⟩
def mx : List Sec→Int→Int→Int
 | [],_,_=>0
 | x :: L,c,r=>if x.1=c∧x.2.1=r then max x.2.2 (mx L c r) else mx L c r
theorem mx_pos (L:List Sec) (c r:Int):0≤mx L c r:=by
 induction L with
 | nil=>exact Int.le_refl 0
 | cons x L ih=>rw[mx];split <;> omega
theorem mx_is (L:List Sec) (c r:Int):mx L c r=0∨∃ x ∈ L,x.1=c∧x.2.1=r∧x.2.2=mx L c r:=by
 induction L with
 | nil=>exact .inl rfl
 | cons y L ih =>
  rw[mx]
  by_cases h:y.1=c∧y.2.1=r
  ·rw[if_pos h]
   by_cases hm:mx L c r≤y.2.2
   ·exact .inr ⟨y,by simp,h.1,h.2,by omega⟩
   ·have e:max y.2.2 (mx L c r)=mx L c r:=by omega
    rw[e]
    rcases ih with h0 | ⟨x,hx,h1⟩
    ·exact .inl h0
    ·exact .inr ⟨x,by simp[hx],h1⟩
  ·rw[if_neg h]
   rcases ih with h0 | ⟨x,hx,h1⟩
   ·exact .inl h0
   ·exact .inr ⟨x,by simp[hx],h1⟩
theorem mx_snoc (L:List Sec) (x:Sec) (c r:Int):mx (L ++ [x]) c r=if x.1=c∧x.2.1=r then max (mx L c r) x.2.2 else mx L c r:=by
 induction L with
 | nil=>simp only[List.nil_append,mx];split <;> omega
 | cons y L ih =>
  rw[List.cons_append,mx,ih,mx]
  split <;> split <;> omega
theorem mx_le {L:List Sec} {m:Int} (hm:0≤m) (h:∀ x ∈ L,x.2.2≤m) (c r:Int):mx L c r≤m:=by
 rcases mx_is L c r with e | ⟨x,hx,_,_,h3⟩
 ·omega
 ·rw[←h3];exact h x hx
def enS (c:Int) (l:List Sec):List Sec:=if c = -1 then [] else l.map fun x=>(c,x.2.1,x.2.2)
theorem enS_mem {c:Int} {l:List Sec} {x:Sec}:x ∈ enS c l ↔ c ≠ -1∧x.1=c∧∃ y ∈ l,y.2.1=x.2.1∧y.2.2=x.2.2:=by
 unfold enS
 by_cases h:c = -1
 ·rw[if_pos h];simp[h]
 ·rw[if_neg h,List.mem_map]
  constructor
  ·rintro⟨y,hy,rfl⟩;exact⟨h,rfl,y,hy,rfl,rfl⟩
  ·rintro⟨_,h1,y,hy,h2,h3⟩;exact⟨y,hy,by rw[←h1,h2,h3]⟩
def secsOf (ts:List Tsk) (i:Nat):List Sec:=(ts[i]?.map (·.secs)).getD []
theorem secsOf_some {ts:List Tsk} {i:Nat} {t:Tsk} (h:ts[i]? = some t):secsOf ts i=t.secs:=by unfold secsOf;rw[h];rfl
def fl (co:Int) (wh:List Int) (ts:List Tsk):Nat→List Sec
 | 0=>[]
 | i+1=>fl co wh ts i ++ enS (cr co wh i) (secsOf ts i)
theorem fl_mem {co:Int} {wh:List Int} {ts:List Tsk} {n:Nat} {x:Sec}:x ∈ fl co wh ts n ↔ ∃ i,i<n∧x ∈ enS (cr co wh i) (secsOf ts i):=by
 induction n with
 | zero=>simp[fl]
 | succ n ih =>
  rw[fl,List.mem_append,ih]
  constructor
  ·rintro(⟨i,hi,h⟩ | h)
   ·exact⟨i,by omega,h⟩
   ·exact⟨n,by omega,h⟩
  ·rintro⟨i,hi,h⟩
   by_cases e:i=n
   ·exact .inr (e▸h)
   ·exact .inl ⟨i,by omega,h⟩
theorem fl_sec {co:Int} {wh:List Int} {ts:List Tsk} {n:Nat} {x:Sec} (h:x ∈ fl co wh ts n):∃ t ∈ ts,∃ y ∈ t.secs,y.2.1=x.2.1∧y.2.2=x.2.2:=by
 obtain⟨i,_,h⟩:=fl_mem.1 h
 obtain⟨_,_,y,hy,h3⟩:=enS_mem.1 h
 cases ht:ts[i]? with
 | none=>unfold secsOf at hy;rw[ht] at hy;cases hy
 | some t=>rw[secsOf_some ht] at hy;exact⟨t,List.mem_of_getElem? ht,y,hy,h3⟩
def sm (L:List Sec) (own r:Int):Nat→Int
 | 0=>0
 | n+1=>sm L own r n+if 0<mx L n r∧(n:Int)≠own then mx L n r+1 else 0
theorem sm_pos (L:List Sec) (own r:Int) (n:Nat):0≤sm L own r n:=by
 induction n with
 | zero=>exact Int.le_refl 0
 | succ n ih=>rw[sm];split <;> omega
theorem sm_le {L:List Sec} {m:Int} (hm:0≤m) (h:∀ x ∈ L,x.2.2≤m) (own r:Int) (n:Nat):sm L own r n≤(n:Int)*(m+1):=by
 induction n with
 | zero=>simp[sm]
 | succ n ih =>
  rw[sm]
  have:=mx_le hm h n r
  have e:((n+1:Nat):Int)*(m+1)=(n:Int)*(m+1)+(m+1):=by push_cast;rw[Int.add_mul];omega
  rw[e]
  split <;> omega
def F (s:Sys) (wh:List Int):List Sec:=fl s.co wh s.ts s.ts.length
def tsk? (s:Sys) (task:Int):Option Tsk:=if right s=true∧0≤task then s.ts[task.toNat]? else none
def sec? (s:Sys) (task k:Int):Option Sec:=(tsk? s task).bind fun t=>if 0≤k then t.secs[k.toNat]? else none
def smV (s:Sys) (wh:List Int) (task:Nat) (r:Int):Int:=sm (F s wh) (cr s.co wh task) r s.co.toNat
def waitV (s:Sys) (wh:List Int) (task k:Int):Int:=match sec? s task k with | some x=>smV s wh task.toNat x.2.1 | none=>0
def holdV (s:Sys) (wh:List Int) (task k:Int):Int:=match sec? s task k with | some x=>smV s wh task.toNat x.2.1+x.2.2 | none=>0
def exN (s:Sys) (wh:List Int) (task:Nat) (l:List Sec):Nat→Int
 | 0=>0
 | n+1=>exN s wh task l n+smV s wh task (l.getD n (0,0,0)).2.1
def extraV (s:Sys) (wh:List Int) (task:Int):Int:=match tsk? s task with | some t=>exN s wh task.toNat t.secs t.secs.length | none=>0
theorem vSecs_all {res w:Int}:∀ {i:Nat} {e:Int} {l:List Sec},vSecs res w i e l=none→0≤e→∀ x ∈ l,(0≤x.2.1∧x.2.1<res)∧1≤x.2.2∧x.2.2≤w:=by
 intro i e l
 induction l generalizing i e with
 | nil=>intro _ _ x hx;cases hx
 | cons y l ih =>
  intro h he x hx
  rw[vSecs] at h
  by_cases hv:vSec res w e y=true
  ·rw[if_pos hv] at h
   have hp:e≤y.1∧y.1≤w∧(0≤y.2.1∧y.2.1≤res-1)∧1≤y.2.2∧y.2.2≤w-y.1:=by
    unfold vSec at hv
    simp only[Bool.and_eq_true,wi_true] at hv
    omega
   rcases List.mem_cons.1 hx with rfl | hx
   ·omega
   ·exact ih h (by omega) x hx
  ·rw[if_neg hv] at h;cases h
theorem right_sec {s:Sys} (h:right s=true) {t:Tsk} (ht:t ∈ s.ts) {x:Sec} (hx:x ∈ t.secs):(0≤x.2.1∧x.2.1<s.rs)∧1≤x.2.2∧x.2.2≤1099511627776:=by
 obtain⟨_,h2⟩:=right_parts h
 have h3:=h2 t ht
 unfold vTsk at h3
 simp only[Bool.and_eq_true,Option.isNone_iff_eq_none] at h3
 have h4:=vSecs_all h3.2 (Int.le_refl 0) x hx
 have h5:=h3.1
 unfold vHead at h5
 simp only[Bool.and_eq_true,wi_true,decide_eq_true_eq] at h5
 omega
theorem right_len {s:Sys} (h:right s=true):(1≤s.co∧s.co≤8)∧(0≤s.rs∧s.rs≤8)∧1≤s.ts.length∧s.ts.length≤24∧∀ t ∈ s.ts,t.secs.length≤4:=by
 obtain⟨h1,h2⟩:=right_parts h
 unfold vWhole at h1
 simp only[Bool.and_eq_true,wi_true] at h1
 obtain⟨a1,_,_,_,_,_,_,_,a2,a3⟩:=h1
 refine⟨a1,a2,by omega,by omega,fun t ht=>?_⟩
 have h3:=h2 t ht
 unfold vTsk vHead at h3
 simp only[Bool.and_eq_true,wi_true,decide_eq_true_eq] at h3
 omega
theorem F_le {s:Sys} (h:right s=true) (wh:List Int) {x:Sec} (hx:x ∈ F s wh):1≤x.2.2∧x.2.2≤1099511627776:=by
 obtain⟨t,ht,y,hy,_,e⟩:=fl_sec hx
 have:=right_sec h ht hy
 omega
theorem mxF_le {s:Sys} (h:right s=true) (wh:List Int) (c r:Int):mx (F s wh) c r≤1099511627776:=mx_le (by omega) (fun _ hx=>(F_le h wh hx).2) c r
theorem smV_le {s:Sys} (h:right s=true) (wh:List Int) (task:Nat) (r:Int):0≤smV s wh task r∧smV s wh task r≤8796093022216:=by
 refine⟨sm_pos _ _ _ _,?_⟩
 have h1:=sm_le (m:=1099511627776) (by omega) (fun _ hx=>(F_le h wh hx).2) (cr s.co wh task) r s.co.toNat
 have h2:=(right_len h).1
 unfold smV
 omega
theorem exN_le {s:Sys} (h:right s=true) (wh:List Int) (task:Nat) (l:List Sec) (n:Nat):0≤exN s wh task l n∧exN s wh task l n≤(n:Int)*8796093022216:=by
 induction n with
 | zero=>simp[exN]
 | succ n ih =>
  rw[exN]
  have:=smV_le h wh task (l.getD n (0,0,0)).2.1
  push_cast
  omega
end Go.Proofs.YtikcigjbhohboaaGreat.ter
end
