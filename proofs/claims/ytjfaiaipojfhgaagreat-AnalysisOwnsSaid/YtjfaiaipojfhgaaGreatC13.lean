/- Part 13 of a proof: PlR2 PlR3 PlR4 PlO PlR5 PlP PlR6. -/
import Derived.Deep.DeepCutAuto
import Derived.Deep.RegionHeld3
import Derived.Test.YtjfaiaipojfhgaaGreatC03
import Derived.Test.YtjfaiaipojfhgaaGreatC04
import Derived.Test.YtjfaiaipojfhgaaGreatC11
import Derived.Test.YtjfaiaipojfhgaaGreatC12
section
namespace Go.Proofs.YtjfaiaipojfhgaaGreat.pln
open Go.ChangeShapes Go.WideShapes Go.ChangeAt Go.RowKit Go.Deep val
structure Rw (w wr:World) (v:Value) (zs:List Int):Prop where
 but:But No w wr
 own:Ov wr v zs
 new:∀ k,v.ownBlock=some k→w.heap.size≤k
theorem Rw.no {w wr w2:World} {v:Value} {zs:List Int} (h:Rw w wr v zs) (hb:But No wr w2):Rw w w2 v zs:=⟨h.but.trans hb,h.own.but hb (fun _ _ f=>f),h.new⟩
theorem Rw.start (w:World):Rw w w (.slice none 0 0) []:=⟨But.refl No w,Ov.nil w,own_none⟩
theorem Rw.app {w wr w2:World} {v:Value} {zs:List Int} {x:Int} {A:Option Addr} {c n:Nat} (h:Rw w wr v zs) (hn:n=zs.length+1) (ho:w2.ownsRow 0 3 1 (.slice A n c) n (zs.map (Value.int .i64) ++ [.int .i64 x])) (hg:wr.grownBy w2 v.ownBlock)
  (hat:(Value.slice A n c).ownBlock=v.ownBlock∨(Value.slice A n c).ownBlock=some wr.heap.size):Rw w w2 (.slice A n c) (zs ++ [x]):=by
 refine⟨h.but.grown hg (fun k e=>.inr (h.new k e)),?_,own_new h.new hat h.but.size⟩
 unfold Ov
 rw[List.length_append,List.map_append,show zs.length + [x].length=n by simp[hn]]
 exact ho
def whO (l:List Pc):Int:=if l.length=1∧(l.getD 0 pc0).ti=false then (l.getD 0 pc0).co else -1
theorem take_map {L:List (List Pc)} {q:Nat} {l:List Pc} (h:L[q]? = some l):(L.take (q+1)).map whO=(L.take q).map whO ++ [whO l]:=by
 rw[List.take_add_one,h,List.map_append];rfl
end Go.Proofs.YtjfaiaipojfhgaaGreat.pln
end
section
namespace Go.Proofs.YtjfaiaipojfhgaaGreat.pln
open Go.ChangeShapes Go.WideShapes Go.ChangeAt Go.RowKit Go.Deep val
def aC (task:Int) (p:Pc) (i:Nat) (x:Pc):Bool:=decide (x.co=p.co) && (!x.ti && (!decide ((i:Int)=task) && (decide (x.de<p.de) || (decide (x.de=p.de) && decide ((i:Int)<task)))))
def aL (task:Int) (p:Pc) (i:Nat) (l:List Pc):Nat→Int
 | 0=>0
 | k+1=>aL task p i l k+if aC task p i (l.getD k pc0)=true then 1 else 0
def aN (task:Int) (p:Pc) (L:List (List Pc)):Nat→Int
 | 0=>0
 | i+1=>aN task p L i+aL task p i (L.getD i []) (L.getD i []).length
def aheadV (task:Int) (p:Pc) (L:List (List Pc)):Int:=aN task p L L.length
end Go.Proofs.YtjfaiaipojfhgaaGreat.pln
end
section
namespace Go.Proofs.YtjfaiaipojfhgaaGreat.pln
open Go.ChangeShapes Go.WideShapes Go.ChangeAt Go.RowKit Go.Deep val
def ts0 : Tsk:=⟨0,0,0, []⟩
def tL (c:Int) (l:List Pc):Nat→Int
 | 0=>0
 | k+1=>tL c l k+if (l.getD k pc0).ti=true∧(l.getD k pc0).co=c then 1 else 0
def uL (c:Int) (l:List Pc):Nat→Int
 | 0=>0
 | k+1=>uL c l k+if (l.getD k pc0).co=c then 1 else 0
def tN (L:List (List Pc)) (c:Int):Nat→Int
 | 0=>0
 | i+1=>tN L c i+tL c (L.getD i []) (L.getD i []).length
def uN (s:Sys) (L:List (List Pc)) (c:Int):Nat→Int
 | 0=>0
 | i+1=>uN s L c i+if 0<(s.ts.getD i ts0).secs.length then uL c (L.getD i []) (L.getD i []).length else 0
def okS (s:Sys) (L:List (List Pc)):Nat→Bool
 | 0=>true
 | i+1=>okS s L i && okL s (s.ts.getD i ts0) (L.getD i [])
def okC (s:Sys) (L:List (List Pc)):Nat→Bool
 | 0=>true
 | c+1=>okC s L c && !(decide (1<tN L c L.length) || (decide (tN L c L.length=1) && decide (0<uN s L c L.length)))
def plR (s:Sys) (L:List (List Pc)):Bool:=right s && (decide (L.length=s.ts.length) && (okS s L L.length && okC s L s.co.toNat))
theorem tL_bd (c:Int) (l:List Pc):∀ k,0≤tL c l k∧tL c l k≤k
 | 0=>by rw[tL];omega
 | k+1=>by have:=tL_bd c l k;rw[tL];split <;> omega
theorem uL_bd (c:Int) (l:List Pc):∀ k,0≤uL c l k∧uL c l k≤k
 | 0=>by rw[uL];omega
 | k+1=>by have:=uL_bd c l k;rw[uL];split <;> omega
theorem okL_len {s:Sys} {t:Tsk} {l:List Pc} (h:okL s t l=true):l.length≤8:=by
 unfold okL at h;rw[Bool.and_eq_true] at h;simpa using h.1
theorem getL {L:List (List Pc)} {i:Nat} {l:List Pc} (h:L[i]? = some l):L.getD i []=l:=by simp[List.getD,h]
theorem getT {s:Sys} {i:Nat} {t:Tsk} (h:s.ts[i]? = some t):s.ts.getD i ts0=t:=by simp[List.getD,h]
theorem okS_le {s:Sys} {L:List (List Pc)} {i j:Nat} (hij:i≤j) (h:okS s L j=true):okS s L i=true:=by
 induction j with
 | zero =>
    obtain rfl:i=0:=by omega
    exact h
 | succ j ih =>
  by_cases e:i=j+1
  ·rw[e];exact h
  ·rw[okS,Bool.and_eq_true] at h;exact ih (by omega) h.1
theorem vals_made1 {w:World} {b n:Nat} {e:TypeId} {z:Value} (hz:z.cells = #[z]) (h:w.ownsRow 0 e 1 (.slice (some ⟨b,0,none⟩) n n) n (madeCells z.cells (n*1)).toList):Vals w b e n (fun _=>z):=by
 obtain⟨h1,h2⟩:=h
 rcases h2 with⟨h2,_⟩ | ⟨g,cap,cur,hv,_,hh,hn,hc,hs,ht⟩
 ·cases h2
 ·cases hv
  have e:cur=((List.range n).map (fun _=>z)).toArray:=by
   apply Array.ext'
   have e1:cur.toList.take (n*1)=cur.toList:=List.take_of_length_le (by simp;omega)
   rw[e1] at ht
   rw[ht]
   apply List.ext_getElem?
   intro j
   by_cases hj:j<n
   ·simp[madeCells,hj,hz,Nat.mod_one]
   ·simp[madeCells,hj]
  show w.heap[b]? = _
  rw[hh,e]
structure CT (w1 wr:World) (b6 b7 m:Nat) (f g:Nat→Int):Prop where
 v6:Vals wr b6 3 m (fun c=>.int .i64 (f c))
 v7:Vals wr b7 3 m (fun c=>.int .i64 (g c))
 h6:w1.heap.size≤b6
 h7:w1.heap.size≤b7
 ne:b6≠b7
 but:But No w1 wr
theorem CT.no {w1 wr w2:World} {b6 b7 m:Nat} {f g:Nat→Int} (h:CT w1 wr b6 b7 m f g) (hb:But No wr w2):CT w1 w2 b6 b7 m f g:=⟨h.v6.but hb (fun f=>f),h.v7.but hb (fun f=>f),h.h6,h.h7,h.ne,h.but.trans hb⟩
theorem CT.congr {w1 wr:World} {b6 b7 m:Nat} {f g f' g':Nat→Int} (h:CT w1 wr b6 b7 m f g) (hf:∀ j,j<m→f' j=f j) (hg:∀ j,j<m→g' j=g j):CT w1 wr b6 b7 m f' g' :=
 ⟨h.v6.congr (fun j hj=>by rw[hf j hj]),h.v7.congr (fun j hj=>by rw[hg j hj]),h.h6,h.h7,h.ne,h.but⟩
theorem right_nums {s:Sys} (h:right s=true):(1≤s.co∧s.co≤8)∧(1≤s.la∧s.la≤50)∧s.ts.length≤24∧∀ t ∈ s.ts,(1≤t.w∧t.w≤1099511627776)∧1≤t.d∧t.d≤1099511627776:=by
 obtain⟨h1,h2⟩:=right_parts h
 have h3:=h1
 unfold vWhole at h3
 simp only[Bool.and_eq_true,wi_true] at h3
 refine⟨by omega,by omega,by omega,fun t ht=>?_⟩
 have h4:=h2 t ht
 unfold vTsk vHead at h4
 simp only[Bool.and_eq_true,wi_true] at h4
 omega
end Go.Proofs.YtjfaiaipojfhgaaGreat.pln
end
section
namespace Go.Proofs.YtjfaiaipojfhgaaGreat.pln
open Go.ChangeShapes Go.WideShapes Go.ChangeAt Go.RowKit Go.Deep val
def pcC (x:Pc):List Value:=[.int .i64 x.co,.int .i64 x.bu,.int .i64 x.de,.int .i64 x.pr,.bool x.ti]
def OPc (w:World) (v:Value) (l:List Pc):Prop:=w.ownsRow 0 42 5 v l.length (l.flatMap pcC)
theorem OPc.nil (w:World):OPc w (.slice none 0 0) []:=World.ownsRow_nil _ _ _ _
theorem OPc.but {w w':World} {v:Value} {l:List Pc} {S:Nat→Prop} (h:OPc w v l) (hb:But S w w') (hs:∀ k,v.ownBlock=some k→¬S k):OPc w' v l:=owns_but h hb hs
theorem OPc.lt {w:World} {v:Value} {l:List Pc} (h:OPc w v l) {k:Nat} (hk:v.ownBlock=some k):k<w.heap.size:=(World.ownsRow.lt h k hk).2
theorem pcC_at {l:List Pc} {k:Nat} {x:Pc} (h:l[k]? = some x):(l.flatMap pcC)[k*5]? = some (.int .i64 x.co)∧(l.flatMap pcC)[k*5+1]? = some (.int .i64 x.bu)∧(l.flatMap pcC)[k*5+2]? = some (.int .i64 x.de)∧(l.flatMap pcC)[k*5+3]? = some (.int .i64 x.pr)∧(l.flatMap pcC)[k*5+4]? = some (.bool x.ti):=by
 induction l generalizing k with
 | nil=>simp at h
 | cons y l ih =>
  rw[List.flatMap_cons]
  cases k with
  | zero =>
   rw[List.getElem?_cons_zero] at h
   cases h
   exact⟨rfl,rfl,rfl,rfl,rfl⟩
  | succ k =>
   rw[List.getElem?_cons_succ] at h
   obtain⟨h0,h1,h2,h3,h4⟩:=ih h
   have e:(pcC y).length=5:=rfl
   refine⟨?_,?_,?_,?_,?_⟩
   ·rw[List.getElem?_append_right (by rw[e];omega),e,show (k+1)*5-5=k*5 by omega];exact h0
   ·rw[List.getElem?_append_right (by rw[e];omega),e,show (k+1)*5+1-5=k*5+1 by omega];exact h1
   ·rw[List.getElem?_append_right (by rw[e];omega),e,show (k+1)*5+2-5=k*5+2 by omega];exact h2
   ·rw[List.getElem?_append_right (by rw[e];omega),e,show (k+1)*5+3-5=k*5+3 by omega];exact h3
   ·rw[List.getElem?_append_right (by rw[e];omega),e,show (k+1)*5+4-5=k*5+4 by omega];exact h4
theorem OPc.rd {w:World} {v:Value} {l:List Pc} (h:OPc w v l) (hm:l.length≤9223372036854775807) (hf:∀ x ∈ l,inR x.co∧inR x.bu∧inR x.de∧inR x.pr):∃ A c,v=.slice A l.length c∧l.length≤c∧RPc w A l.length l:=by
 obtain⟨h1,h2⟩:=h
 rcases h2 with⟨h2,e⟩ | ⟨g,cap,cur,hv,_,hh,hc,hcap,hs,ht⟩
 ·exact⟨none,0,by rw[e];exact h2,by omega,rfl,hm,fun h=>absurd h (by omega),hf⟩
 ·refine⟨_,_,hv,hc,rfl,hm,fun hn=>⟨g,0,rfl,Blk.lt hh,fun k x hx=>?_⟩,hf⟩
  have hk:k<l.length:=(List.getElem?_eq_some_iff.1 hx).1
  obtain⟨a0,a1,a2,a3,a4⟩:=pcC_at hx
  have rdc:∀ j u,j<l.length*5→(l.flatMap pcC)[j]? = some u→w.cell? ⟨g,0+j,none⟩=some u:=fun j u hj hu=>by
   rw[Nat.zero_add]
   refine Blk.cell hh ?_
   rw[←ht,List.getElem?_take,if_pos hj] at hu
   simpa using hu
  refine⟨rdc _ _ (by omega) a0,?_,?_,?_,?_⟩
  ·have:=rdc (k*5+1) _ (by omega) a1;rw[←Nat.add_assoc] at this;exact this
  ·have:=rdc (k*5+2) _ (by omega) a2;rw[←Nat.add_assoc] at this;exact this
  ·have:=rdc (k*5+3) _ (by omega) a3;rw[←Nat.add_assoc] at this;exact this
  ·have:=rdc (k*5+4) _ (by omega) a4;rw[←Nat.add_assoc] at this;exact this
structure Rp (w wr:World) (v:Value) (l:List Pc):Prop where
 but:But No w wr
 own:OPc wr v l
 new:∀ k,v.ownBlock=some k→w.heap.size≤k
theorem Rp.no {w wr w2:World} {v:Value} {l:List Pc} (h:Rp w wr v l) (hb:But No wr w2):Rp w w2 v l:=⟨h.but.trans hb,h.own.but hb (fun _ _ f=>f),h.new⟩
theorem Rp.start (w:World):Rp w w (.slice none 0 0) []:=⟨But.refl No w,OPc.nil w,own_none⟩
theorem Rp.app {w wr w2:World} {v:Value} {l k:List Pc} {A:Option Addr} {c n:Nat} (h:Rp w wr v l) (hn:n=l.length+k.length) (ho:w2.ownsRow 0 42 5 (.slice A n c) n (l.flatMap pcC ++ k.flatMap pcC)) (hg:wr.grownBy w2 v.ownBlock)
  (hat:(Value.slice A n c).ownBlock=v.ownBlock∨(Value.slice A n c).ownBlock=some wr.heap.size):Rp w w2 (.slice A n c) (l ++ k):=by
 refine⟨h.but.grown hg (fun k e=>.inr (h.new k e)),?_,own_new h.new hat h.but.size⟩
 unfold OPc
 rw[List.length_append,List.flatMap_append,←hn]
 exact ho
structure RoP (w wr:World) (v:Value) (vs:List Value) (Ls:List (List Pc)):Prop where
 but:But No w wr
 row:wr.ownsRow 0 40 1 v vs.length vs
 new:∀ k,v.ownBlock=some k→w.heap.size≤k
 len:vs.length=Ls.length
 own:∀ (r:Nat) (u:Value) (l:List Pc),vs[r]? = some u→Ls[r]? = some l→OPc wr u l∧∀ k,u.ownBlock=some k→w.heap.size≤k
 nb:∀ (r:Nat) (u:Value) (k:Nat),vs[r]? = some u→u.ownBlock=some k→v.ownBlock≠some k
 dis:∀ (r s:Nat) (u z:Value) (k:Nat),vs[r]? = some u→vs[s]? = some z→u.ownBlock=some k→z.ownBlock=some k→r=s
theorem RoP.start (w:World):RoP w w (.slice none 0 0) [] []:=⟨But.refl No w,World.ownsRow_nil _ _ _ _,own_none,rfl,fun r u l h=>by simp at h,fun r u k h=>by simp at h,fun r s u z k h=>by simp at h⟩
theorem RoP.no {w wr w2:World} {v:Value} {vs:List Value} {Ls:List (List Pc)} (h:RoP w wr v vs Ls) (hb:But No wr w2):RoP w w2 v vs Ls :=
 ⟨h.but.trans hb,owns_but h.row hb (fun _ _ f=>f),h.new,h.len,fun r u l h1 h2=>⟨(h.own r u l h1 h2).1.but hb (fun _ _ f=>f),(h.own r u l h1 h2).2⟩,h.nb,h.dis⟩
theorem RoP.app {w wr w0 w1 w2:World} {v u:Value} {vs:List Value} {Ls:List (List Pc)} {l:List Pc} {A:Option Addr} {c n:Nat} (h:RoP w w0 v vs Ls) (hb:But No w0 wr) (hu:OPc wr u l) (hun:∀ k,u.ownBlock=some k→w0.heap.size≤k) (hb1:But No wr w1)
  (hn:n=vs.length+1) (ho:w2.ownsRow 0 40 1 (.slice A n c) n (vs ++ [u])) (hg:w1.grownBy w2 v.ownBlock)
  (hat:(Value.slice A n c).ownBlock=v.ownBlock∨(Value.slice A n c).ownBlock=some w1.heap.size):RoP w w2 (.slice A n c) (vs ++ [u]) (Ls ++ [l]):=by
 have h1:=(h.no hb).no hb1
 have hub:=hu.but hb1 (S:=No) (fun _ _ f=>f)
 have hB:But (fun k=>v.ownBlock=some k) w1 w2:=(But.refl _ w1).grown hg (fun k e=>.inl e)
 have hvlt:∀ k,v.ownBlock=some k→k<w0.heap.size:=fun k e=>(World.ownsRow.lt h.row k e).2
 have hsz:=hb.size
 have hsz1:=hb1.size
 have nth:∀ (r:Nat) (z:Value),(vs ++ [u])[r]? = some z→vs[r]? = some z∨r=vs.length∧z=u:=fun r z e=>by
  by_cases hr:r<vs.length
  ·rw[List.getElem?_append_left hr] at e;exact .inl e
  ·rw[List.getElem?_append_right (by omega)] at e
   have:r-vs.length=0:=by
    have:=(List.getElem?_eq_some_iff.1 e).1
    simp at this;omega
   rw[this] at e
   exact .inr ⟨by omega,by simpa using e.symm⟩
 have elt:∀ (r:Nat) (z:Value) (k:Nat),vs[r]? = some z→z.ownBlock=some k→k<w0.heap.size:=fun r z k hr hk=>by
  have hrl:r<Ls.length:=by rw[←h.len];exact(List.getElem?_eq_some_iff.1 hr).1
  exact(h.own r z Ls[r] hr (List.getElem?_eq_getElem hrl)).1.lt hk
 refine⟨h1.but.grown hg (fun k e=>.inr (h.new k e)),by rw[List.length_append,show vs.length + [u].length=n by simp[hn]];exact ho,own_new h.new hat (by have:=h1.but.size;omega),by simp[h.len],?_,?_,?_⟩
 ·intro r z l' hr hl'
  rcases nth r z hr with hr' | ⟨rfl,rfl⟩
  ·have hrl:r<Ls.length:=by rw[←h.len];exact(List.getElem?_eq_some_iff.1 hr').1
   rw[List.getElem?_append_left hrl] at hl'
   obtain⟨a,b⟩:=h1.own r z l' hr' hl'
   exact⟨a.but hB (fun k e1 e2=>h.nb r z k hr' e1 e2),b⟩
  ·rw[h.len,List.getElem?_append_right (Nat.le_refl _)] at hl'
   simp at hl'
   subst hl'
   exact⟨hub.but hB (fun k e1 e2=>by have:=hun k e1;have:=hvlt k e2;omega),fun k e=>by have:=hun k e;have:=h.but.size;omega⟩
 ·intro r z k hr hk e
  rcases hat with ha | ha
  ·rw[ha] at e
   rcases nth r z hr with hr' | ⟨rfl,rfl⟩
   ·exact h.nb r z k hr' hk e
   ·have:=hun k hk;have:=hvlt k e;omega
  ·rw[ha] at e
   have hk2:w1.heap.size=k:=by simpa using e
   rcases nth r z hr with hr' | ⟨rfl,rfl⟩
   ·have:=elt r z k hr' hk;omega
   ·have:=hub.lt hk;omega
 ·intro r s z y k hr hs hk hk'
  rcases nth r z hr with hr' | ⟨rfl,rfl⟩ <;> rcases nth s y hs with hs' | ⟨rfl,rfl⟩
  ·exact h.dis r s z y k hr' hs' hk hk'
  ·have:=elt r z k hr' hk;have:=hun k hk';omega
  ·have:=elt s y k hs' hk';have:=hun k hk;omega
  ·rfl
end Go.Proofs.YtjfaiaipojfhgaaGreat.pln
end
section
namespace Go.Proofs.YtjfaiaipojfhgaaGreat.pln
open Go.ChangeShapes Go.WideShapes Go.ChangeAt Go.RowKit Go.Deep val
def zp (x:Pc):Pc:=⟨x.co,x.bu,x.de,0,x.ti⟩
def rkP (s:Sys) (L:List (List Pc)) (i:Nat) (x:Pc):Pc:=⟨x.co,x.bu,x.de,if s.po=1∧x.ti=false then 1+aheadV i (zp x) L else 0,x.ti⟩
def rkL (s:Sys) (L:List (List Pc)) (i:Nat) (l:List Pc):List Pc:=l.map (rkP s L i)
def rkN (s:Sys) (L:List (List Pc)):Nat→List (List Pc)
 | 0=>[]
 | i+1=>rkN s L i ++ [rkL s L i (L.getD i [])]
def rkV (s:Sys) (L:List (List Pc)):List (List Pc):=rkN s L L.length
theorem rkN_len (s:Sys) (L:List (List Pc)):∀ i,(rkN s L i).length=i
 | 0=>rfl
 | i+1=>by rw[rkN,List.length_append,rkN_len s L i];rfl
theorem plR_parts {s:Sys} {L:List (List Pc)} (h:plR s L=true):right s=true∧L.length=s.ts.length∧okS s L L.length=true:=by
 unfold plR at h
 simp only[Bool.and_eq_true,decide_eq_true_eq] at h
 exact⟨h.1,h.2.1,h.2.2.1⟩
theorem okS_at {s:Sys} {L:List (List Pc)} {i:Nat} {l:List Pc} (h:okS s L L.length=true) (hl:L[i]? = some l):okL s (s.ts.getD i ts0) l=true:=by
 have hi:i<L.length:=(List.getElem?_eq_some_iff.1 hl).1
 have h1:=okS_le (show i+1≤L.length by omega) h
 rw[okS,Bool.and_eq_true,getL hl] at h1
 exact h1.2
theorem plR_small {s:Sys} {L:List (List Pc)} (h:plR s L=true):L.length≤24∧∀ l ∈ L,l.length≤8:=by
 obtain⟨h1,h2,h3⟩:=plR_parts h
 obtain⟨_,_,h4,_⟩:=right_nums h1
 refine⟨by omega,fun l hl=>?_⟩
 obtain⟨i,hi⟩:=List.mem_iff_getElem?.1 hl
 exact okL_len (okS_at h3 hi)
theorem OPc.val {w:World} {v:Value} {l:List Pc} (h:OPc w v l):∃ A n c,v=.slice A n c:=by
 obtain⟨h1,h2⟩:=h
 rcases h2 with⟨h2,_⟩ | ⟨g,cap,cur,hv,_⟩
 ·exact⟨_,_,_,h2⟩
 ·exact⟨_,_,_,hv⟩
end Go.Proofs.YtjfaiaipojfhgaaGreat.pln
end
section
namespace Go.Proofs.YtjfaiaipojfhgaaGreat.pln
open Go.ChangeShapes Go.WideShapes Go.ChangeAt Go.RowKit Go.Deep val
theorem ov_lt {w:World} {v:Value} {zs:List Int} (h:Ov w v zs) {k:Nat} (hk:v.ownBlock=some k):k<w.heap.size:=(World.ownsRow.lt h k hk).2
theorem vals_ov {w:World} {b m:Nat} {f:Nat→Int} (h:Vals w b 3 m (fun j=>.int .i64 (f j))) (hm:m≤maxLen):Ov w (.slice (some ⟨b,0,none⟩) m m) ((List.range m).map f):=by
 refine⟨by simp,.inr ⟨b,m,((List.range m).map (fun j=>Value.int .i64 (f j))).toArray,by simp,by omega,h,by simp,hm,by simp,?_⟩⟩
 simp only[List.length_map,List.length_range,Nat.mul_one]
 rw[List.take_of_length_le (by simp)]
 simp[List.map_map,Function.comp_def]
structure RoI (w wr:World) (v:Value) (vs:List Value) (Ls:List (List Int)):Prop where
 but:But No w wr
 row:wr.ownsRow 0 39 1 v vs.length vs
 new:∀ k,v.ownBlock=some k→w.heap.size≤k
 len:vs.length=Ls.length
 own:∀ (r:Nat) (u:Value) (l:List Int),vs[r]? = some u→Ls[r]? = some l→Ov wr u l∧∀ k,u.ownBlock=some k→w.heap.size≤k
 nb:∀ (r:Nat) (u:Value) (k:Nat),vs[r]? = some u→u.ownBlock=some k→v.ownBlock≠some k
 dis:∀ (r s:Nat) (u z:Value) (k:Nat),vs[r]? = some u→vs[s]? = some z→u.ownBlock=some k→z.ownBlock=some k→r=s
theorem RoI.start (w:World):RoI w w (.slice none 0 0) [] []:=⟨But.refl No w,World.ownsRow_nil _ _ _ _,own_none,rfl,fun r u l h=>by simp at h,fun r u k h=>by simp at h,fun r s u z k h=>by simp at h⟩
theorem RoI.no {w wr w2:World} {v:Value} {vs:List Value} {Ls:List (List Int)} (h:RoI w wr v vs Ls) (hb:But No wr w2):RoI w w2 v vs Ls :=
 ⟨h.but.trans hb,owns_but h.row hb (fun _ _ f=>f),h.new,h.len,fun r u l h1 h2=>⟨(h.own r u l h1 h2).1.but hb (fun _ _ f=>f),(h.own r u l h1 h2).2⟩,h.nb,h.dis⟩
theorem RoI.app {w wr w0 w1 w2:World} {v u:Value} {vs:List Value} {Ls:List (List Int)} {l:List Int} {A:Option Addr} {c n:Nat} (h:RoI w w0 v vs Ls) (hb:But No w0 wr) (hu:Ov wr u l) (hun:∀ k,u.ownBlock=some k→w0.heap.size≤k) (hb1:But No wr w1)
  (hn:n=vs.length+1) (ho:w2.ownsRow 0 39 1 (.slice A n c) n (vs ++ [u])) (hg:w1.grownBy w2 v.ownBlock)
  (hat:(Value.slice A n c).ownBlock=v.ownBlock∨(Value.slice A n c).ownBlock=some w1.heap.size):RoI w w2 (.slice A n c) (vs ++ [u]) (Ls ++ [l]):=by
 have h1:=(h.no hb).no hb1
 have hub:=hu.but hb1 (S:=No) (fun _ _ f=>f)
 have hB:But (fun k=>v.ownBlock=some k) w1 w2:=(But.refl _ w1).grown hg (fun k e=>.inl e)
 have hvlt:∀ k,v.ownBlock=some k→k<w0.heap.size:=fun k e=>(World.ownsRow.lt h.row k e).2
 have hsz:=hb.size
 have hsz1:=hb1.size
 have nth:∀ (r:Nat) (z:Value),(vs ++ [u])[r]? = some z→vs[r]? = some z∨r=vs.length∧z=u:=fun r z e=>by
  by_cases hr:r<vs.length
  ·rw[List.getElem?_append_left hr] at e;exact .inl e
  ·rw[List.getElem?_append_right (by omega)] at e
   have:r-vs.length=0:=by
    have:=(List.getElem?_eq_some_iff.1 e).1
    simp at this;omega
   rw[this] at e
   exact .inr ⟨by omega,by simpa using e.symm⟩
 have elt:∀ (r:Nat) (z:Value) (k:Nat),vs[r]? = some z→z.ownBlock=some k→k<w0.heap.size:=fun r z k hr hk=>by
  have hrl:r<Ls.length:=by rw[←h.len];exact(List.getElem?_eq_some_iff.1 hr).1
  exact(h.own r z Ls[r] hr (List.getElem?_eq_getElem hrl)).1 |> fun h9=>ov_lt h9 hk
 refine⟨h1.but.grown hg (fun k e=>.inr (h.new k e)),by rw[List.length_append,show vs.length + [u].length=n by simp[hn]];exact ho,own_new h.new hat (by have:=h1.but.size;omega),by simp[h.len],?_,?_,?_⟩
 ·intro r z l' hr hl'
  rcases nth r z hr with hr' | ⟨rfl,rfl⟩
  ·have hrl:r<Ls.length:=by rw[←h.len];exact(List.getElem?_eq_some_iff.1 hr').1
   rw[List.getElem?_append_left hrl] at hl'
   obtain⟨a,b⟩:=h1.own r z l' hr' hl'
   exact⟨a.but hB (fun k e1 e2=>h.nb r z k hr' e1 e2),b⟩
  ·rw[h.len,List.getElem?_append_right (Nat.le_refl _)] at hl'
   simp at hl'
   subst hl'
   exact⟨hub.but hB (fun k e1 e2=>by have:=hun k e1;have:=hvlt k e2;omega),fun k e=>by have:=hun k e;have:=h.but.size;omega⟩
 ·intro r z k hr hk e
  rcases hat with ha | ha
  ·rw[ha] at e
   rcases nth r z hr with hr' | ⟨rfl,rfl⟩
   ·exact h.nb r z k hr' hk e
   ·have:=hun k hk;have:=hvlt k e;omega
  ·rw[ha] at e
   have hk2:w1.heap.size=k:=by simpa using e
   rcases nth r z hr with hr' | ⟨rfl,rfl⟩
   ·have:=elt r z k hr' hk;omega
   ·have:=(ov_lt hub hk);omega
 ·intro r s z y k hr hs hk hk'
  rcases nth r z hr with hr' | ⟨rfl,rfl⟩ <;> rcases nth s y hs with hs' | ⟨rfl,rfl⟩
  ·exact h.dis r s z y k hr' hs' hk hk'
  ·have:=elt r z k hr' hk;have:=hun k hk';omega
  ·have:=elt s y k hs' hk';have:=hun k hk;omega
  ·rfl
structure RNs (w:World) (A:Option Addr) (n:Nat) (Z:List (List Int)):Prop where
 len:Z.length=n
 max:n≤9223372036854775807
 at_:0<n→∃ b off,A=some ⟨b,off,none⟩∧b<w.heap.size∧∀ k l,Z[k]? = some l→∃ A' c',w.cell? ⟨b,off+k,none⟩=some (.slice A' l.length c')∧l.length≤c'∧Rl w A' l.length l
theorem RNs.no {w w':World} {A:Option Addr} {n:Nat} {Z:List (List Int)} (h:RNs w A n Z) (hb:But No w w'):RNs w' A n Z :=
 ⟨h.len,h.max,fun hn=>by
  obtain⟨b,off,e,hl,hc⟩:=h.at_ hn
  refine⟨b,off,e,Nat.lt_of_lt_of_le hl hb.size,fun k l hx=>?_⟩
  obtain⟨A',c',h1,h2,h3⟩:=hc k l hx
  exact⟨A',c',by rw[hb.cell hl (fun f=>f)];exact h1,h2,h3.no hb⟩⟩
theorem RNs.at1 {w:World} {A:Option Addr} {n:Nat} {Z:List (List Int)} (h:RNs w A n Z) {k:Nat} {l:List Int} (hx:Z[k]? = some l) :
  ∃ b off A' c',A=some ⟨b,off,none⟩∧b<w.heap.size∧w.cell? ⟨b,off+k,none⟩=some (.slice A' l.length c')∧l.length≤c'∧Rl w A' l.length l:=by
 have hk:k<Z.length:=(List.getElem?_eq_some_iff.1 hx).1
 obtain⟨b,off,e,hl,hc⟩:=h.at_ (by rw[←h.len];omega)
 obtain⟨A',c',h1,h2,h3⟩:=hc k l hx
 exact⟨b,off,A',c',e,hl,h1,h2,h3⟩
theorem RoI.from {w0 w wr:World} {v:Value} {vs:List Value} {Z:List (List Int)} (h:RoI w wr v vs Z) (hb:But No w0 w):RoI w0 wr v vs Z :=
 ⟨hb.trans h.but,h.row,fun k e=>Nat.le_trans hb.size (h.new k e),h.len,fun r u l h1 h2=>⟨(h.own r u l h1 h2).1,fun k e=>Nat.le_trans hb.size ((h.own r u l h1 h2).2 k e)⟩,h.nb,h.dis⟩
end Go.Proofs.YtjfaiaipojfhgaaGreat.pln
end
section
namespace Go.Proofs.YtjfaiaipojfhgaaGreat.pln
open Go.ChangeShapes Go.WideShapes Go.ChangeAt Go.RowKit Go.Deep val
def tp (x p:Int):Int:=if x=0∨p<x then p else x
def ceS (p:Int) (ss:List (Int × Int × Int)) (f:Nat→Int):Nat→Nat→Int
 | 0,r=>f r
 | k+1,r=>if (ss.getD k (0,0,0)).2.1=(r:Int) then tp (ceS p ss f k r) p else ceS p ss f k r
def ceP (s:Sys) (L:List (List Pc)) (i:Nat) (l:List Pc):Int:=max 1 (rkP s L i (l.getD 0 pc0)).pr
def ceN (s:Sys) (L:List (List Pc)) (c:Int):Nat→Nat→Int
 | 0,_=>0
 | i+1,r=>if whO (L.getD i [])=c then ceS (ceP s L i (L.getD i [])) (s.ts.getD i ts0).secs (ceN s L c i) (s.ts.getD i ts0).secs.length r else ceN s L c i r
def ceR (s:Sys) (L:List (List Pc)) (c:Nat):List Int:=(List.range s.rs.toNat).map (ceN s L c L.length)
def ceV (s:Sys) (L:List (List Pc)):List (List Int):=(List.range s.co.toNat).map (ceR s L)
theorem ceS_next {p:Int} {ss:List (Int × Int × Int)} {f:Nat→Int} {k:Nat} {x:Int × Int × Int} (h:ss[k]? = some x) (r:Nat):ceS p ss f (k+1) r=if x.2.1=(r:Int) then tp (ceS p ss f k r) p else ceS p ss f k r:=by
 have e:ss.getD k (0,0,0)=x:=by simp[List.getD,h]
 rw[ceS,e]
theorem ceN_next {s:Sys} {L:List (List Pc)} {c:Int} {i:Nat} {l:List Pc} {t:Tsk} (hl:L[i]? = some l) (ht:s.ts[i]? = some t) (r:Nat):ceN s L c (i+1) r=if whO l=c then ceS (ceP s L i l) t.secs (ceN s L c i) t.secs.length r else ceN s L c i r:=by
 rw[ceN,getL hl,getT ht]
theorem rkV_len (s:Sys) (L:List (List Pc)):(rkV s L).length=L.length:=rkN_len s L L.length
theorem rkN_at {s:Sys} {L:List (List Pc)}:∀ {n i:Nat},i<n→(rkN s L n)[i]? = some (rkL s L i (L.getD i []))
 | 0,i,h=>absurd h (by omega)
 | n+1,i,h=>by
  rw[rkN]
  by_cases e:i<n
  ·rw[List.getElem?_append_left (by rw[rkN_len];exact e)];exact rkN_at e
  ·obtain rfl:i=n:=by omega
   rw[List.getElem?_append_right (by rw[rkN_len];omega),rkN_len];simp
theorem rkV_at {s:Sys} {L:List (List Pc)} {i:Nat} {l:List Pc} (h:L[i]? = some l):(rkV s L)[i]? = some (rkL s L i l):=by
 have:=rkN_at (s:=s) (L:=L) (List.getElem?_eq_some_iff.1 h).1
 rw[getL h] at this;exact this
theorem rkV_mem {s:Sys} {L:List (List Pc)} {m:List Pc} (h:m ∈ rkV s L):∃ i l,L[i]? = some l∧m=rkL s L i l:=by
 obtain⟨i,hi⟩:=List.mem_iff_getElem?.1 h
 have hl:i<L.length:=by have:=(List.getElem?_eq_some_iff.1 hi).1;rw[rkV_len] at this;exact this
 obtain⟨l,h1⟩:∃ l,L[i]? = some l:=⟨_,List.getElem?_eq_getElem hl⟩
 rw[rkV_at h1] at hi
 exact⟨i,l,h1,by simpa using hi.symm⟩
structure CE (w1 wr:World) (b m:Nat) (f:Nat→Int):Prop where
 v:Vals wr b 3 m (fun r=>.int .i64 (f r))
 h:w1.heap.size≤b
 but:But No w1 wr
theorem CE.no {w1 wr w2:World} {b m:Nat} {f:Nat→Int} (h:CE w1 wr b m f) (hb:But No wr w2):CE w1 w2 b m f:=⟨h.v.but hb (fun f=>f),h.h,h.but.trans hb⟩
theorem CE.set {w1 wr:World} {b m k:Nat} {f f':Nat→Int} (h:CE w1 wr b m f) (v:Int) (he:∀ j,j<m→f' j=if j=k then v else f j):CE w1 (wr.setCell ⟨b,k,none⟩ (.int .i64 v)) b m f' :=
 ⟨(h.v.set _).congr (fun j hj=>by rw[he j hj];split <;> rfl),h.h,h.but.setNew h.h _⟩
theorem CE.congr {w1 wr:World} {b m:Nat} {f f':Nat→Int} (h:CE w1 wr b m f) (hf:∀ j,j<m→f' j=f j):CE w1 wr b m f':=⟨h.v.congr (fun j hj=>by rw[hf j hj]),h.h,h.but⟩
theorem whO_is {l:List Pc} {c:Int} (h:whO l=c) (h0:0≤c):∃ x,l = [x]∧x.ti=false∧x.co=c:=by
 unfold whO at h
 by_cases h1:l.length=1∧(l.getD 0 pc0).ti=false
 ·rw[if_pos h1] at h
  obtain⟨x,rfl⟩:=List.length_eq_one_iff.1 h1.1
  exact⟨x,rfl,h1.2,h⟩
 ·rw[if_neg h1] at h;omega
end Go.Proofs.YtjfaiaipojfhgaaGreat.pln
end
