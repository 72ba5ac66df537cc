/- Part 9 of a proof: PlR2 PlR3 PlR4 PlO PlR5 PlP PlR6 PlH2. -/
import Derived.Test.YtlecikdjoekknaaGreatM08
set_option maxRecDepth 100000
set_option maxHeartbeats 16000000
set_option linter.unusedVariables false
set_option linter.unusedSimpArgs false
section
namespace Go.Proofs.YtlecikdjoekknaaGreat.pln
open Go.ChangeShapes Go.WideShapes Go.ChangeAt Go.RowKit Go.Deep val
structure Rw (w wr:World) (v:Value) (zs:List Int):Prop where
 but:But No w wr
 own:Ov wr v zs
 new:∀ k,v.ownBlock=some k->w.heap.size<=k
def whO (l:List Pc):Int:=if l.length=1/\(l.getD 0 pc0).ti=false then (l.getD 0 pc0).co else -1
def aC (task:Int) (p:Pc) (i:Nat) (x:Pc):Bool:=decide (x.co=p.co) && (!x.ti && (!decide ((i:Int)=task) && (decide (x.de<p.de) || (decide (x.de=p.de) && decide ((i:Int)<task)))))
def aL (task:Int) (p:Pc) (i:Nat) (l:List Pc):Nat->Int
 | 0=>0
 | k+1=>aL task p i l k+if aC task p i (l.getD k pc0)=true then 1 else 0
def aN (task:Int) (p:Pc) (L:List (List Pc)):Nat->Int
 | 0=>0
 | i+1=>aN task p L i+aL task p i (L.getD i []) (L.getD i []).length
def aheadV (task:Int) (p:Pc) (L:List (List Pc)):Int:=aN task p L L.length
theorem aL_bd (task:Int) (p:Pc) (i:Nat) (l:List Pc):∀ k,0<=aL task p i l k/\aL task p i l k<=k
 | 0=>by rw[aL];omega
 | k+1=>by
  have:=aL_bd task p i l k
  rw[aL]
  split <;> omega
theorem aN_bd {task:Int} {p:Pc} {L:List (List Pc)} {B:Nat} (h:∀ l ∈ L,l.length<=B):∀ i,i<=L.length->0<=aN task p L i/\aN task p L i<=i*B
 | 0,_=>by rw[aN];simp
 | i+1,hi=>by
  have ih:=aN_bd (task:=task) (p:=p) h i (by omega)
  have hl:L[i]? = some L[i]:=List.getElem?_eq_getElem (by omega)
  have e:L.getD i []=L[i]:=by simp[List.getD,hl]
  have h1:=aL_bd task p i L[i] L[i].length
  have h2:=h L[i] (List.getElem_mem _)
  rw[aN,e]
  have h3:((i+1:Nat):Int)*(B:Int)=(i:Int)*B+B:=by rw[Int.natCast_add,Int.add_mul];simp
  rw[h3]
  omega
def ts0 : Tsk:=⟨0,0,0, []⟩
def tL (c:Int) (l:List Pc):Nat->Int
 | 0=>0
 | k+1=>tL c l k+if (l.getD k pc0).ti=true/\(l.getD k pc0).co=c then 1 else 0
def uL (c:Int) (l:List Pc):Nat->Int
 | 0=>0
 | k+1=>uL c l k+if (l.getD k pc0).co=c then 1 else 0
def tN (L:List (List Pc)) (c:Int):Nat->Int
 | 0=>0
 | i+1=>tN L c i+tL c (L.getD i []) (L.getD i []).length
def uN (s:Sys) (L:List (List Pc)) (c:Int):Nat->Int
 | 0=>0
 | i+1=>uN s L c i+if 0<(s.ts.getD i ts0).secs.length then uL c (L.getD i []) (L.getD i []).length else 0
def okS (s:Sys) (L:List (List Pc)):Nat->Bool
 | 0=>true
 | i+1=>okS s L i && okL s (s.ts.getD i ts0) (L.getD i [])
def okC (s:Sys) (L:List (List Pc)):Nat->Bool
 | 0=>true
 | c+1=>okC s L c && !(decide (1<tN L c L.length) || (decide (tN L c L.length=1) && decide (0<uN s L c L.length)))
def plR (s:Sys) (L:List (List Pc)):Bool:=right s && (decide (L.length=s.ts.length) && (okS s L L.length && okC s L s.co.toNat))
theorem okL_len {s:Sys} {t:Tsk} {l:List Pc} (h:okL s t l=true):l.length<=8:=by
 unfold okL at h;rw[Bool.and_eq_true] at h;simpa using h.1
theorem getL {L:List (List Pc)} {i:Nat} {l:List Pc} (h:L[i]? = some l):L.getD i []=l:=by simp[List.getD,h]
theorem getT {s:Sys} {i:Nat} {t:Tsk} (h:s.ts[i]? = some t):s.ts.getD i ts0=t:=by simp[List.getD,h]
theorem okS_le {s:Sys} {L:List (List Pc)} {i j:Nat} (hij:i<=j) (h:okS s L j=true):okS s L i=true:=by
 induction j with
 | zero =>
    obtain rfl:i=0:=by omega
    exact h
 | succ j ih =>
  by_cases e:i=j+1
  ·rw[e];exact h
  ·rw[okS,Bool.and_eq_true] at h;exact ih (by omega) h.1
theorem okC_le {s:Sys} {L:List (List Pc)} {i j:Nat} (hij:i<=j) (h:okC s L j=true):okC s L i=true:=by
 induction j with
 | zero =>
    obtain rfl:i=0:=by omega
    exact h
 | succ j ih =>
  by_cases e:i=j+1
  ·rw[e];exact h
  ·rw[okC,Bool.and_eq_true] at h;exact ih (by omega) h.1
theorem plR_core {s:Sys} {L:List (List Pc)} {c:Nat} (hc:c<s.co.toNat) (h:1<tN L c L.length\/tN L c L.length=1/\0<uN s L c L.length):plR s L=false:=by
 have h1:okC s L (c+1)=false:=by
  rw[okC]
  rcases h with h | ⟨h,h'⟩
  ·simp[h]
  ·simp[h,h']
 have h2:okC s L s.co.toNat=false:=by
  cases e:okC s L s.co.toNat with
  | false=>rfl
  | true=>rw[okC_le (show c+1<=s.co.toNat by omega) e] at h1;cases h1
 unfold plR;rw[h2];simp
theorem vals_made1 {w:World} {b n:Nat} {e:TypeId} {z:Value} (hz:z.cells = #[z]) (h:w.ownsRow 0 e 1 (.slice (some ⟨b,0,none⟩) n n) n (madeCells z.cells (n*1)).toList):Vals w b e n (λ _=>z):=by
 obtain⟨h1,h2⟩:=h
 rcases h2 with⟨h2,_⟩ | ⟨g,cap,cur,hv,_,hh,hn,hc,hs,ht⟩
 ·cases h2
 ·cases hv
  have e:cur=((List.range n).map (λ _=>z)).toArray:=by
   apply Array.ext'
   have e1:cur.toList.take (n*1)=cur.toList:=List.take_of_length_le (by simp;omega)
   rw[e1] at ht
   rw[ht]
   apply List.ext_getElem?
   intro j
   by_cases hj:j<n
   ·simp[madeCells,hj,hz,Nat.mod_one]
   ·simp[madeCells,hj]
  show w.heap[b]? = _
  rw[hh,e]
structure CT (w1 wr:World) (b6 b7 m:Nat) (f g:Nat->Int):Prop where
 v6:Vals wr b6 3 m (λ c=>.int .i64 (f c))
 v7:Vals wr b7 3 m (λ c=>.int .i64 (g c))
 h6:w1.heap.size<=b6
 h7:w1.heap.size<=b7
 ne:b6≠b7
 but:But No w1 wr
theorem right_nums {s:Sys} (h:right s=true):(1<=s.co/\s.co<=8)/\(1<=s.la/\s.la<=50)/\s.ts.length<=24/\∀ t ∈ s.ts,(1<=t.w/\t.w<=1099511627776)/\1<=t.d/\t.d<=1099511627776:=by
 obtain⟨h1,h2⟩:=right_parts h
 have h3:=h1
 unfold vWhole at h3
 simp only[Bool.and_eq_true,wi_true] at h3
 refine⟨by omega,by omega,by omega,λ t ht=>?_⟩
 have h4:=h2 t ht
 unfold vTsk vHead at h4
 simp only[Bool.and_eq_true,wi_true] at h4
 omega
def pcC (x:Pc):List Value:=[.int .i64 x.co,.int .i64 x.bu,.int .i64 x.de,.int .i64 x.pr,.bool x.ti]
def OPc (w:World) (v:Value) (l:List Pc):Prop:=w.ownsRow 0 40 5 v l.length (l.flatMap pcC)
theorem OPc.nil (w:World):OPc w (.slice none 0 0) []:=World.ownsRow_nil _ _ _ _
theorem OPc.but {w w':World} {v:Value} {l:List Pc} {S:Nat->Prop} (h:OPc w v l) (hb:But S w w') (hs:∀ k,v.ownBlock=some k->¬S k):OPc w' v l:=owns_but h hb hs
theorem OPc.lt {w:World} {v:Value} {l:List Pc} (h:OPc w v l) {k:Nat} (hk:v.ownBlock=some k):k<w.heap.size:=(World.ownsRow.lt h k hk).2
theorem pcC_at {l:List Pc} {k:Nat} {x:Pc} (h:l[k]? = some x):(l.flatMap pcC)[k*5]? = some (.int .i64 x.co)/\(l.flatMap pcC)[k*5+1]? = some (.int .i64 x.bu)/\(l.flatMap pcC)[k*5+2]? = some (.int .i64 x.de)/\(l.flatMap pcC)[k*5+3]? = some (.int .i64 x.pr)/\(l.flatMap pcC)[k*5+4]? = some (.bool x.ti):=by
 induction l generalizing k with
 | nil=>simp at h
 | cons y l ih =>
  rw[List.flatMap_cons]
  cases k with
  | zero =>
   rw[List.getElem?_cons_zero] at h
   cases h
   exact⟨rfl,rfl,rfl,rfl,rfl⟩
  | succ k =>
   rw[List.getElem?_cons_succ] at h
   obtain⟨h0,h1,h2,h3,h4⟩:=ih h
   have e:(pcC y).length=5:=rfl
   refine⟨?_,?_,?_,?_,?_⟩
   ·rw[List.getElem?_append_right (by rw[e];omega),e,show (k+1)*5-5=k*5 by omega];exact h0
   ·rw[List.getElem?_append_right (by rw[e];omega),e,show (k+1)*5+1-5=k*5+1 by omega];exact h1
   ·rw[List.getElem?_append_right (by rw[e];omega),e,show (k+1)*5+2-5=k*5+2 by omega];exact h2
   ·rw[List.getElem?_append_right (by rw[e];omega),e,show (k+1)*5+3-5=k*5+3 by omega];exact h3
   ·rw[List.getElem?_append_right (by rw[e];omega),e,show (k+1)*5+4-5=k*5+4 by omega];exact h4
theorem OPc.rd {w:World} {v:Value} {l:List Pc} (h:OPc w v l) (hm:l.length<=9223372036854775807) (hf:∀ x ∈ l,inR x.co/\inR x.bu/\inR x.de/\inR x.pr):∃ A c,v=.slice A l.length c/\l.length<=c/\RPc w A l.length l:=by
 obtain⟨h1,h2⟩:=h
 rcases h2 with⟨h2,e⟩ | ⟨g,cap,cur,hv,_,hh,hc,hcap,hs,ht⟩
 ·exact⟨none,0,by rw[e];exact h2,by omega,rfl,hm,λ h=>absurd h (by omega),hf⟩
 ·refine⟨_,_,hv,hc,rfl,hm,λ hn=>⟨g,0,rfl,Blk.lt hh,λ k x hx=>?_⟩,hf⟩
  have hk:k<l.length:=(List.getElem?_eq_some_iff.1 hx).1
  obtain⟨a0,a1,a2,a3,a4⟩:=pcC_at hx
  have rdc:∀ j u,j<l.length*5->(l.flatMap pcC)[j]? = some u->w.cell? ⟨g,0+j,none⟩=some u:=λ j u hj hu=>by
   rw[Nat.zero_add]
   refine Blk.cell hh ?_
   rw[<-ht,List.getElem?_take,if_pos hj] at hu
   simpa using hu
  refine⟨rdc _ _ (by omega) a0,?_,?_,?_,?_⟩
  ·have:=rdc (k*5+1) _ (by omega) a1;rw[<-Nat.add_assoc] at this;exact this
  ·have:=rdc (k*5+2) _ (by omega) a2;rw[<-Nat.add_assoc] at this;exact this
  ·have:=rdc (k*5+3) _ (by omega) a3;rw[<-Nat.add_assoc] at this;exact this
  ·have:=rdc (k*5+4) _ (by omega) a4;rw[<-Nat.add_assoc] at this;exact this
structure Rp (w wr:World) (v:Value) (l:List Pc):Prop where
 but:But No w wr
 own:OPc wr v l
 new:∀ k,v.ownBlock=some k->w.heap.size<=k
structure RoP (w wr:World) (v:Value) (vs:List Value) (Ls:List (List Pc)):Prop where
 but:But No w wr
 row:wr.ownsRow 0 38 1 v vs.length vs
 new:∀ k,v.ownBlock=some k->w.heap.size<=k
 len:vs.length=Ls.length
 own:∀ (r:Nat) (u:Value) (l:List Pc),vs[r]? = some u->Ls[r]? = some l->OPc wr u l/\∀ k,u.ownBlock=some k->w.heap.size<=k
 nb:∀ (r:Nat) (u:Value) (k:Nat),vs[r]? = some u->u.ownBlock=some k->v.ownBlock≠some k
 dis:∀ (r s:Nat) (u z:Value) (k:Nat),vs[r]? = some u->vs[s]? = some z->u.ownBlock=some k->z.ownBlock=some k->r=s
theorem RoP.no {w wr w2:World} {v:Value} {vs:List Value} {Ls:List (List Pc)} (h:RoP w wr v vs Ls) (hb:But No wr w2):RoP w w2 v vs Ls :=
 ⟨h.but.trans hb,owns_but h.row hb (λ _ _ f=>f),h.new,h.len,λ r u l h1 h2=>⟨(h.own r u l h1 h2).1.but hb (λ _ _ f=>f),(h.own r u l h1 h2).2⟩,h.nb,h.dis⟩
def zp (x:Pc):Pc:=⟨x.co,x.bu,x.de,0,x.ti⟩
def rkP (s:Sys) (L:List (List Pc)) (i:Nat) (x:Pc):Pc:=⟨x.co,x.bu,x.de,if s.po=1/\x.ti=false then 1+aheadV i (zp x) L else 0,x.ti⟩
def rkL (s:Sys) (L:List (List Pc)) (i:Nat) (l:List Pc):List Pc:=l.map (rkP s L i)
def rkN (s:Sys) (L:List (List Pc)):Nat->List (List Pc)
 | 0=>[]
 | i+1=>rkN s L i ++ [rkL s L i (L.getD i [])]
def rkV (s:Sys) (L:List (List Pc)):List (List Pc):=rkN s L L.length
theorem rkN_len (s:Sys) (L:List (List Pc)):∀ i,(rkN s L i).length=i
 | 0=>rfl
 | i+1=>by rw[rkN,List.length_append,rkN_len s L i];rfl
theorem plR_parts {s:Sys} {L:List (List Pc)} (h:plR s L=true):right s=true/\L.length=s.ts.length/\okS s L L.length=true:=by
 unfold plR at h
 simp only[Bool.and_eq_true,decide_eq_true_eq] at h
 exact⟨h.1,h.2.1,h.2.2.1⟩
theorem okS_at {s:Sys} {L:List (List Pc)} {i:Nat} {l:List Pc} (h:okS s L L.length=true) (hl:L[i]? = some l):okL s (s.ts.getD i ts0) l=true:=by
 have hi:i<L.length:=(List.getElem?_eq_some_iff.1 hl).1
 have h1:=okS_le (show i+1<=L.length by omega) h
 rw[okS,Bool.and_eq_true,getL hl] at h1
 exact h1.2
theorem plR_small {s:Sys} {L:List (List Pc)} (h:plR s L=true):L.length<=24/\∀ l ∈ L,l.length<=8:=by
 obtain⟨h1,h2,h3⟩:=plR_parts h
 obtain⟨_,_,h4,_⟩:=right_nums h1
 refine⟨by omega,λ l hl=>?_⟩
 obtain⟨i,hi⟩:=List.mem_iff_getElem?.1 hl
 exact okL_len (okS_at h3 hi)
theorem infoP : (Tryz.prog.info? 40).map (λ i=>(i.zero,i.size,i.bytes))=some (some (.agg #[.int .i64 0,.int .i64 0,.int .i64 0,.int .i64 0,.bool false]),5,40):=by kernel_rfl
theorem infoPS : (Tryz.prog.info? 38).map (λ i=>(i.zero,i.size,i.bytes))=some (some (.slice none 0 0),1,24):=by kernel_rfl
theorem pc_one_reads (w:World) (x:Pc) (t:TypeId):Reads (w.alloc (.cells #[.int .i64 x.co,.int .i64 x.bu,.int .i64 x.de,.int .i64 x.pr,.bool x.ti] t)) (w.heap.size+1) 5 (some ⟨w.heap.size,0,none⟩) 1 (pcC x) :=
 ⟨rfl,λ _=>⟨⟨w.heap.size,0,none⟩,rfl,by simp,World.news_of_block (cs:=#[.int .i64 x.co,.int .i64 x.bu,.int .i64 x.de,.int .i64 x.pr,.bool x.ti]) (t:=t) (fr:=(0,0)) (Blk.new w _ _)⟩⟩
theorem pc_one_cell (x:Pc):∀ u ∈ pcC x,u.oneCell'=true:=by simp[pcC,Value.oneCell']
theorem vals_ov {w:World} {b m:Nat} {f:Nat->Int} (h:Vals w b 3 m (λ j=>.int .i64 (f j))) (hm:m<=maxLen):Ov w (.slice (some ⟨b,0,none⟩) m m) ((List.range m).map f):=by
 refine⟨by simp,.inr ⟨b,m,((List.range m).map (λ j=>Value.int .i64 (f j))).toArray,by simp,by omega,h,by simp,hm,by simp,?_⟩⟩
 simp only[List.length_map,List.length_range,Nat.mul_one]
 rw[List.take_of_length_le (by simp)]
 simp[List.map_map,Function.comp_def]
theorem RoP.pl {w wr:World} {v:Value} {vs:List Value} {Ls:List (List Pc)} (h:RoP w wr v vs Ls) (hm:Ls.length<=1000) (hl:∀ l ∈ Ls,l.length<=1000) (hf:∀ l ∈ Ls,∀ x ∈ l,inR x.co/\inR x.bu/\inR x.de/\inR x.pr):∃ A c,v=.slice A Ls.length c/\RPl wr A Ls.length Ls:=by
 obtain⟨h1,h2⟩:=h.row
 rcases h2 with⟨h2,e⟩ | ⟨g,cap,cur,hv,_,hh,hc,hcap,hs,ht⟩
 ·rw[h.len] at e
  exact⟨none,0,by rw[e];exact h2,rfl,by omega,λ h9=>absurd h9 (by omega)⟩
 ·rw[h.len] at hv
  refine⟨_,_,hv,rfl,by omega,λ hn=>⟨g,0,rfl,Blk.lt hh,λ k l hx=>?_⟩⟩
  have hk:k<Ls.length:=(List.getElem?_eq_some_iff.1 hx).1
  obtain⟨u,hu⟩:∃ u,vs[k]? = some u:=⟨_,List.getElem?_eq_getElem (by rw[h.len];exact hk)⟩
  have hm9:=List.mem_of_getElem? hx
  have hl9:=hl l hm9
  obtain⟨A',c',e,hc',hp⟩:=(h.own k u l hu hx).1.rd (by omega) (hf l hm9)
  rw[e] at hu
  refine⟨A',c',?_,hc',hp⟩
  rw[Nat.zero_add]
  refine Blk.cell hh ?_
  rw[<-ht,List.getElem?_take,if_pos (by rw[h.len];omega)] at hu
  simpa using hu
structure RoI (w wr:World) (v:Value) (vs:List Value) (Ls:List (List Int)):Prop where
 but:But No w wr
 row:wr.ownsRow 0 26 1 v vs.length vs
 new:∀ k,v.ownBlock=some k->w.heap.size<=k
 len:vs.length=Ls.length
 own:∀ (r:Nat) (u:Value) (l:List Int),vs[r]? = some u->Ls[r]? = some l->Ov wr u l/\∀ k,u.ownBlock=some k->w.heap.size<=k
 nb:∀ (r:Nat) (u:Value) (k:Nat),vs[r]? = some u->u.ownBlock=some k->v.ownBlock≠some k
 dis:∀ (r s:Nat) (u z:Value) (k:Nat),vs[r]? = some u->vs[s]? = some z->u.ownBlock=some k->z.ownBlock=some k->r=s
structure RNs (w:World) (A:Option Addr) (n:Nat) (Z:List (List Int)):Prop where
 len:Z.length=n
 max:n<=9223372036854775807
 at_:0<n->∃ b off,A=some ⟨b,off,none⟩/\b<w.heap.size/\∀ k l,Z[k]? = some l->∃ A' c',w.cell? ⟨b,off+k,none⟩=some (.slice A' l.length c')/\l.length<=c'/\Rl w A' l.length l
def tp (x p:Int):Int:=if x=0\/p<x then p else x
def ceS (p:Int) (ss:List (Int × Int × Int)) (f:Nat->Int):Nat->Nat->Int
 | 0,r=>f r
 | k+1,r=>if (ss.getD k (0,0,0)).2.1=(r:Int) then tp (ceS p ss f k r) p else ceS p ss f k r
def ceP (s:Sys) (L:List (List Pc)) (i:Nat) (l:List Pc):Int:=max 1 (rkP s L i (l.getD 0 pc0)).pr
def ceN (s:Sys) (L:List (List Pc)) (c:Int):Nat->Nat->Int
 | 0,_=>0
 | i+1,r=>if whO (L.getD i [])=c then ceS (ceP s L i (L.getD i [])) (s.ts.getD i ts0).secs (ceN s L c i) (s.ts.getD i ts0).secs.length r else ceN s L c i r
def ceR (s:Sys) (L:List (List Pc)) (c:Nat):List Int:=(List.range s.rs.toNat).map (ceN s L c L.length)
def ceV (s:Sys) (L:List (List Pc)):List (List Int):=(List.range s.co.toNat).map (ceR s L)
theorem ceS_next {p:Int} {ss:List (Int × Int × Int)} {f:Nat->Int} {k:Nat} {x:Int × Int × Int} (h:ss[k]? = some x) (r:Nat):ceS p ss f (k+1) r=if x.2.1=(r:Int) then tp (ceS p ss f k r) p else ceS p ss f k r:=by
 have e:ss.getD k (0,0,0)=x:=by simp[List.getD,h]
 rw[ceS,e]
theorem rk_pr {s:Sys} {L:List (List Pc)} {i:Nat} {x:Pc} (hL:L.length<=24) (h8:∀ l ∈ L,l.length<=8):0<=(rkP s L i x).pr/\(rkP s L i x).pr<=193:=by
 unfold rkP
 dsimp only
 split
 ·have:=aN_bd (task:=(i:Int)) (p:=zp x) h8 L.length (Nat.le_refl _)
  have e:aheadV i (zp x) L=aN i (zp x) L L.length:=rfl
  rw[e]
  have:(L.length:Int)*((8:Nat):Int)<=192:=by omega
  omega
 ·omega
theorem rkV_len (s:Sys) (L:List (List Pc)):(rkV s L).length=L.length:=rkN_len s L L.length
theorem rkN_at {s:Sys} {L:List (List Pc)}:∀ {n i:Nat},i<n->(rkN s L n)[i]? = some (rkL s L i (L.getD i []))
 | 0,i,h=>absurd h (by omega)
 | n+1,i,h=>by
  rw[rkN]
  by_cases e:i<n
  ·rw[List.getElem?_append_left (by rw[rkN_len];exact e)];exact rkN_at e
  ·obtain rfl:i=n:=by omega
   rw[List.getElem?_append_right (by rw[rkN_len];omega),rkN_len];simp
theorem rkV_at {s:Sys} {L:List (List Pc)} {i:Nat} {l:List Pc} (h:L[i]? = some l):(rkV s L)[i]? = some (rkL s L i l):=by
 have:=rkN_at (s:=s) (L:=L) (List.getElem?_eq_some_iff.1 h).1
 rw[getL h] at this;exact this
theorem rkV_mem {s:Sys} {L:List (List Pc)} {m:List Pc} (h:m ∈ rkV s L):∃ i l,L[i]? = some l/\m=rkL s L i l:=by
 obtain⟨i,hi⟩:=List.mem_iff_getElem?.1 h
 have hl:i<L.length:=by have:=(List.getElem?_eq_some_iff.1 hi).1;rw[rkV_len] at this;exact this
 obtain⟨l,h1⟩:∃ l,L[i]? = some l:=⟨_,List.getElem?_eq_getElem hl⟩
 rw[rkV_at h1] at hi
 exact⟨i,l,h1,by simpa using hi.symm⟩
structure CE (w1 wr:World) (b m:Nat) (f:Nat->Int):Prop where
 v:Vals wr b 3 m (λ r=>.int .i64 (f r))
 h:w1.heap.size<=b
 but:But No w1 wr
theorem whO_is {l:List Pc} {c:Int} (h:whO l=c) (h0:0<=c):∃ x,l = [x]/\x.ti=false/\x.co=c:=by
 unfold whO at h
 by_cases h1:l.length=1/\(l.getD 0 pc0).ti=false
 ·rw[if_pos h1] at h
  obtain⟨x,rfl⟩:=List.length_eq_one_iff.1 h1.1
  exact⟨x,rfl,h1.2,h⟩
 ·rw[if_neg h1] at h;omega
def askV (t:Tsk) (r:Int):Bool:=t.secs.any (λ x=>decide (x.2.1=r))
end Go.Proofs.YtlecikdjoekknaaGreat.pln
end
