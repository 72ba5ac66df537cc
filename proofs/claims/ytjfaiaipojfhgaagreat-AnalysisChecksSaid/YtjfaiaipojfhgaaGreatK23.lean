/- Part 23 of a proof: DeW DeR1. -/
import Derived.ChangeSame
import Derived.Deep.Fields
import Derived.Deep.Slices
import Derived.OwnWalk
import Derived.SizedLaws
import Derived.Test.YtjfaiaipojfhgaaGreatK01
import Derived.Test.YtjfaiaipojfhgaaGreatK05
import Derived.Test.YtjfaiaipojfhgaaGreatK22
section
namespace Go.Proofs.YtjfaiaipojfhgaaGreat.dem
open Go.ChangeShapes Go.WideShapes Go.ChangeAt Go.RowKit Go.Deep
section
variable {H:Type} {enc:TypeId × Value→H} {P:Program} {w:World} {base:Nat} {spare:Nat→Bool} {held:Bool}
theorem open_slice_fields {t e:TypeId} {fs:Array Field} {fuel:Nat} {cs:List Value} {x:DataW H × List MemPlace} (ht:P.underlying t=some (.slice e)) (he:P.underlying e=some (.struct fs))
  (hone:oneCellFields P fs=true) (hC:P.cellsOf e=fs.size) (h:DataW.trod enc P w base spare held fuel t cs=some x) :
  (cs = [.slice none 0 0]∧x=(.nil, [])) ∨
  ∃ (a:Addr) (len cap m:Nat) (D:Nat→DataW H) (Pl:Nat→List MemPlace),cs = [.slice (some a) len cap]∧base≤a.block∧len≤cap∧cap≤maxLen∧m=(if spare a.block then cap else len) ∧
   x=(.slice ((List.range len).map D) ((List.range (m-len)).map fun j=>D (len+j)),MemPlace.row a (m*fs.size) ++ (List.range m).flatMap Pl) ∧
   ∀ i,i<m→∃ (ys:List (DataW H × List MemPlace)) (n:Nat),D i=.agg (ys.map (·.1))∧Pl i=ys.flatMap (·.2)∧ys.length=fs.size ∧
    ∀ (j:Nat) (f:Field),fs[j]? = some f→∃ (v:Value) (y:DataW H × List MemPlace),w.cell? (a.add (i*fs.size+j))=some v∧ys[j]? = some y∧DataW.trod enc P w base spare held n f.type [v]=some y:=by
 rcases open_slice ht h with h0 | ⟨a,len,cap,m,n,D,Pl,hcs,hb,hl,hm,hmm,hx,hi⟩
 ·exact .inl h0
 ·refine .inr ⟨a,len,cap,m,D,Pl,hcs,hb,hl,hm,hmm,by rw[hC] at hx;exact hx,fun i him=>?_⟩
  obtain⟨cs',hc,ht'⟩:=hi i him
  rw[hC] at hc
  obtain⟨ys,n',hn',hy,hlen,hyl,hf⟩:=DataW.trod_struct he ht'
  obtain⟨_,hcl,hat⟩:=World.cells?_some hc
  simp only[Prod.mk.injEq] at hy
  refine⟨ys,n',hy.1,hy.2,hyl,fun j f hj=>?_⟩
  obtain⟨ho,hk⟩:=hone_of hone j f hj
  have hjl:j<fs.size:=(Array.getElem?_eq_some_iff.1 hj).1
  have hcell:=hat j hjl
  have hv:cs'[j]? = some (cs'[j]'(by omega)):=List.getElem?_eq_getElem (by omega)
  have h1:=hf j f hj
  rw[ho,hk] at h1
  have hone':(cs'.drop j).take 1 = [cs'[j]'(by omega)]:=by
   rw[List.drop_eq_getElem_cons (by omega)]
   rfl
  rw[hone'] at h1
  have hys:ys[j]? = some (ys[j]'(by omega)):=List.getElem?_eq_getElem (by omega)
  refine⟨_,_,?_,hys,h1.trans hys⟩
  rw[←Go.Deep.add_add,hcell,hv]
end
structure RWk (w:World) (A:Option Addr) (n:Nat) (l:List Wk):Prop where
 len:l.length=n
 max:n≤9223372036854775807
 at_:0<n→∃ b off,A=some ⟨b,off,none⟩∧b<w.heap.size∧∀ k x,l[k]? = some x→w.cell? ⟨b,off+k*4,none⟩=some (.int .i64 x.w)∧w.cell? ⟨b,off+k*4+1,none⟩=some (.int .i64 x.p)∧w.cell? ⟨b,off+k*4+2,none⟩=some (.int .i64 x.d)∧w.cell? ⟨b,off+k*4+3,none⟩=some (.bool x.top)
 fit:∀ x ∈ l,inR x.w∧inR x.p∧inR x.d
theorem RWk.but {w w':World} {A:Option Addr} {n:Nat} {l:List Wk} {S:Nat→Prop} (h:RWk w A n l) (hb:But S w w') (hs:0<n→∀ b off,A=some ⟨b,off,none⟩→¬S b):RWk w' A n l :=
 ⟨h.len,h.max,fun hn=>by
  obtain⟨b,off,e,hl,hc⟩:=h.at_ hn
  have h9:=hs hn b off e
  exact⟨b,off,e,Nat.lt_of_lt_of_le hl hb.size,fun k x hx=>by rw[hb.cell hl h9,hb.cell hl h9,hb.cell hl h9,hb.cell hl h9];exact hc k x hx⟩,h.fit⟩
theorem RWk.no {w w':World} {A:Option Addr} {n:Nat} {l:List Wk} (h:RWk w A n l) (hb:But No w w'):RWk w' A n l:=h.but hb (fun _ _ _ _ f=>f)
theorem RWk.at1 {w:World} {A:Option Addr} {n:Nat} {l:List Wk} (h:RWk w A n l) {k:Nat} {x:Wk} (hx:l[k]? = some x) :
  ∃ b off,A=some ⟨b,off,none⟩∧b<w.heap.size∧w.cell? ⟨b,off+k*4,none⟩=some (.int .i64 x.w)∧w.cell? ⟨b,off+k*4+1,none⟩=some (.int .i64 x.p)∧w.cell? ⟨b,off+k*4+2,none⟩=some (.int .i64 x.d)∧w.cell? ⟨b,off+k*4+3,none⟩=some (.bool x.top):=by
 have hk:k<l.length:=(List.getElem?_eq_some_iff.1 hx).1
 obtain⟨b,off,e,hl,hc⟩:=h.at_ (by rw[←h.len];omega)
 obtain⟨h1,h2,h3,h4⟩:=hc k x hx
 exact⟨b,off,e,hl,h1,h2,h3,h4⟩
theorem RWk.nil (w:World):RWk w none 0 []:=⟨rfl,by omega,fun h=>absurd h (by omega),by simp⟩
theorem RWk.take {w:World} {A:Option Addr} {n:Nat} {l:List Wk} (h:RWk w A n l) {i:Nat} (hi:i≤n):RWk w A i (l.take i):=by
 refine⟨by rw[List.length_take,h.len];omega,by have:=h.max;omega,fun h0=>?_,fun x hx=>h.fit x (List.mem_of_mem_take hx)⟩
 obtain⟨b,off,e,hl,hc⟩:=h.at_ (by omega)
 exact⟨b,off,e,hl,fun k x hx=>hc k x (by rw[List.getElem?_take] at hx;split at hx;exact hx;cases hx)⟩
theorem RWk.drop {w:World} {b off n i:Nat} {l:List Wk} (h:RWk w (some ⟨b,off,none⟩) n l) (hi:i≤n):RWk w (some ⟨b,off+i*4,none⟩) (n-i) (l.drop i):=by
 refine⟨by rw[List.length_drop,h.len],by have:=h.max;omega,fun h0=>?_,fun x hx=>h.fit x (List.mem_of_mem_drop hx)⟩
 obtain⟨b',off',e,hl,hc⟩:=h.at_ (by omega)
 cases e
 refine⟨b,off+i*4,rfl,hl,fun k x hx=>?_⟩
 rw[List.getElem?_drop] at hx
 have:=hc (i+k) x hx
 have e4:off+(i+k)*4=off+i*4+k*4:=by omega
 rw[e4] at this
 exact this
theorem int_of {H:Type} {enc:TypeId × Value→H} {W:World} {base n:Nat} {sp:Nat→Bool} {held:Bool} {v:Value} {y:DataW H × List MemPlace} (h:DataW.trod enc Tryz.prog W base sp held n 3 [v]=some y):∃ z,v=.int .i64 z∧inR z:=by
 obtain⟨z,hz⟩:=DataW.trod_int Tryz.underlying3 h
 simp only[List.cons.injEq,and_true] at hz
 exact⟨z,hz.1,inR_of hz.2.2⟩
theorem bool_of {H:Type} {enc:TypeId × Value→H} {W:World} {base n:Nat} {sp:Nat→Bool} {held:Bool} {v:Value} {y:DataW H × List MemPlace} (h:DataW.trod enc Tryz.prog W base sp held n 4 [v]=some y):∃ z,v=.bool z:=by
 obtain⟨z,hz⟩:=DataW.trod_bool Tryz.underlying4 h
 simp only[List.cons.injEq,and_true] at hz
 exact⟨z,hz.1⟩
def wkC (x:Wk):List Value:=[.int .i64 x.w,.int .i64 x.p,.int .i64 x.d,.bool x.top]
def OWk (w:World) (e:TypeId) (v:Value) (l:List Wk):Prop:=w.ownsRow 0 e 4 v l.length (l.flatMap wkC)
theorem OWk.nil (w:World) (e:TypeId):OWk w e (.slice none 0 0) []:=World.ownsRow_nil _ _ _ _
theorem OWk.but {w w':World} {e:TypeId} {v:Value} {l:List Wk} {S:Nat→Prop} (h:OWk w e v l) (hb:But S w w') (hs:∀ k,v.ownBlock=some k→¬S k):OWk w' e v l:=owns_but h hb hs
theorem wkC_at {l:List Wk} {k:Nat} {x:Wk} (h:l[k]? = some x):(l.flatMap wkC)[k*4]? = some (.int .i64 x.w)∧(l.flatMap wkC)[k*4+1]? = some (.int .i64 x.p)∧(l.flatMap wkC)[k*4+2]? = some (.int .i64 x.d)∧(l.flatMap wkC)[k*4+3]? = some (.bool x.top):=by
 induction l generalizing k with
 | nil=>cases h
 | cons y l ih =>
  rw[List.flatMap_cons]
  cases k with
  | zero =>
   have e:y=x:=by simpa using h
   subst e
   exact⟨rfl,rfl,rfl,rfl⟩
  | succ k =>
   have:=ih (k:=k) (by simpa using h)
   have e:(wkC y).length=4:=rfl
   refine⟨?_,?_,?_,?_⟩ <;> rw[List.getElem?_append_right (by rw[e];omega),e]
   ·rw[show (k+1)*4-4=k*4 by omega];exact this.1
   ·rw[show (k+1)*4+1-4=k*4+1 by omega];exact this.2.1
   ·rw[show (k+1)*4+2-4=k*4+2 by omega];exact this.2.2.1
   ·rw[show (k+1)*4+3-4=k*4+3 by omega];exact this.2.2.2
theorem OWk.rd {w:World} {e:TypeId} {v:Value} {l:List Wk} (h:OWk w e v l) (hm:l.length≤9223372036854775807) (hf:∀ x ∈ l,inR x.w∧inR x.p∧inR x.d):∃ A c,v=.slice A l.length c∧RWk w A l.length l:=by
 obtain⟨h1,h2⟩:=h
 rcases h2 with⟨hv,hn⟩ | ⟨g,cap,cur,hv,_,hh,_,_,hs,ht⟩
 ·exact⟨none,0,by rw[hv,hn],by obtain rfl:=List.length_eq_zero_iff.1 hn;exact RWk.nil w⟩
 ·refine⟨some ⟨g,0,none⟩,cap,hv,rfl,hm,fun hn=>⟨g,0,rfl,Blk.lt hh,fun k x hx=>?_⟩,hf⟩
  have hk:k<l.length:=(List.getElem?_eq_some_iff.1 hx).1
  obtain⟨a0,a1,a2,a3⟩:=wkC_at hx
  have at_:∀ (j:Nat) (u:Value),j<l.length*4→(l.flatMap wkC)[j]? = some u→w.cell? ⟨g,j,none⟩=some u:=fun j u hj hu=>by
   rw[←ht,List.getElem?_take,if_pos hj] at hu
   exact Blk.cell hh (by simpa using hu)
  rw[Nat.zero_add]
  exact⟨at_ _ _ (by omega) a0,at_ _ _ (by omega) a1,at_ _ _ (by omega) a2,at_ _ _ (by omega) a3⟩
end Go.Proofs.YtjfaiaipojfhgaaGreat.dem
end
section
namespace Go.Proofs.YtjfaiaipojfhgaaGreat.dem
open Go.Lib (hid)
open Go.ChangeShapes Go.WideShapes Go.ChangeAt Go.RowKit Go.Deep
theorem retp {a b c d:Int} (h:a=c) (k:b=d):Ending.returned (.tuple #[.int .i64 a,.int .i64 b])=.returned (.tuple #[.int .i64 c,.int .i64 d]):=by rw[h,k]
set_option maxRecDepth 100000 in
theorem rup_any (n d:Int) (hn:1≤n) (hd:1≤d) (hr:n≤9223372036854775807) (hr2:d≤9223372036854775807) (w:World):Calls Tryz.prog 109 #[.int .i64 n,.int .i64 d] w fun e w'=>e=.returned (.int .i64 (up n d))∧w'=w:=by
 have hb:=up_bd hn hd
 have q1:n.tdiv d=n/d:=Int.tdiv_eq_ediv_of_nonneg (by omega)
 have q2:n.tmod d=n % d:=Int.tmod_eq_emod_of_nonneg (by omega)
 have hq0:0≤n/d:=Int.ediv_nonneg (by omega) (by omega)
 have hq1:n/d≤n:=Int.ediv_le_self _ (by omega)
 by_cases h:0<n % d
 ·have HU:Hid (up n d=n/d+1):=hid (by unfold up;rw[if_pos h])
  have hu:n/d+1≤n:=by have:=HU.out;omega
  have b1:decide (0<n % d)=true:=by simp[h]
  have hd0:d≠0:=by omega
  obtain⟨q,hq⟩:∃ q,n/d=q:=⟨_,rfl⟩
  obtain⟨r,hrr⟩:∃ r,n % d=r:=⟨_,rfl⟩
  rw[hq] at q1 hq0 hq1 HU hu
  rw[hrr] at q2 h b1
  clear hb hq hrr
  go_enter Tryz.func109,Tryz.ntmps109
  go_wp2
  go_ret
  exact⟨ret1 HU.out.symm,rfl⟩
 ·have HU:Hid (up n d=n/d):=hid (by unfold up;rw[if_neg h];omega)
  have b1:decide (0<n % d)=false:=by simp;omega
  have hd0:d≠0:=by omega
  obtain⟨q,hq⟩:∃ q,n/d=q:=⟨_,rfl⟩
  obtain⟨r,hrr⟩:∃ r,n % d=r:=⟨_,rfl⟩
  rw[hq] at q1 hq0 hq1 HU
  rw[hrr] at q2 h b1
  clear hb hq hrr
  go_enter Tryz.func109,Tryz.ntmps109
  go_wp2
  go_ret
  exact⟨ret1 HU.out.symm,rfl⟩
theorem radd_good (a b:Int) (ha:0≤a) (hb:0≤b) (h:a+b≤9223372036854775807) (w:World):Calls Tryz.prog 108 #[.int .i64 a,.int .i64 b] w fun e w'=>e=.returned (.tuple #[.int .i64 (a+b),.int .i64 0])∧w'=w :=
 (qar.radd_any a b (by unfold inR;omega) (by unfold inR;omega) w).mono fun e w' ⟨h1,h2⟩=>⟨by rw[h1,qar.exV_in (by unfold inR;omega),qar.exE_in (by unfold inR;omega)],h2.symm⟩
theorem radd_bad (a b:Int) (ha:0≤a) (hb:0≤b) (ha':a≤9223372036854775807) (hb':b≤9223372036854775807) (h:9223372036854775807<a+b) (w:World):Calls Tryz.prog 108 #[.int .i64 a,.int .i64 b] w fun e w'=>e=.returned (.tuple #[.int .i64 0,.int .i64 2])∧w'=w :=
 (qar.radd_any a b (by unfold inR;omega) (by unfold inR;omega) w).mono fun e w' ⟨h1,h2⟩=>⟨by rw[h1,qar.exV_out (by unfold inR;omega),qar.exE_out (by unfold inR;omega)],h2.symm⟩
set_option maxRecDepth 100000 in
theorem rtimes_good (s m k:Int) (hs:0≤s) (hm:0≤m) (hk:0≤k) (hm':m≤9223372036854775807) (hk':k≤9223372036854775807) (h:s+m*k≤9223372036854775807) (w:World):Calls Tryz.prog 110 #[.int .i64 s,.int .i64 m,.int .i64 k] w fun e w'=>e=.returned (.tuple #[.int .i64 (s+m*k),.int .i64 0])∧w'=w:=by
 have h0:0≤m*k:=Int.mul_nonneg hm hk
 have CM:Hid (∀ W,Calls Tryz.prog 133 #[.int .i64 m,.int .i64 k] W fun e w'=>e=.returned (.tuple #[.int .i64 (m*k),.int .i64 0])∧w'=W):=fun W =>
  (qar.rmul_any m k (by unfold inR;omega) (by unfold inR;omega) W).mono fun e w' ⟨h1,h2⟩=>⟨by rw[h1,qar.exV_in (by unfold inR;omega),qar.exE_in (by unfold inR;omega)],h2.symm⟩
 have CA:Hid (∀ W,Calls Tryz.prog 108 #[.int .i64 s,.int .i64 (m*k)] W fun e w'=>e=.returned (.tuple #[.int .i64 (s+m*k),.int .i64 0])∧w'=W):=fun W=>radd_good s (m*k) hs h0 h W
 generalize m*k=z at *
 clear h h0 hm hk hm' hk' hs
 go_enter Tryz.func110,Tryz.ntmps110
 go_wp2_with (first | (go_at_call 133;(with_reducible refine(CM.out _).mono ?_);rintro e w1 ⟨rfl,rfl⟩) | (go_at_call 108;(with_reducible refine(CA.out _).mono ?_);rintro e w2 ⟨rfl,rfl⟩))
 go_ret2
 exact⟨rfl,rfl⟩
set_option maxRecDepth 100000 in
theorem rtimes_bad (s m k:Int) (hs:0≤s) (hm:0≤m) (hk:0≤k) (hs':s≤9223372036854775807) (hm':m≤9223372036854775807) (hk':k≤9223372036854775807) (h:9223372036854775807<s+m*k) (w:World):Calls Tryz.prog 110 #[.int .i64 s,.int .i64 m,.int .i64 k] w fun e w'=>e=.returned (.tuple #[.int .i64 0,.int .i64 2])∧w'=w:=by
 have h0:0≤m*k:=Int.mul_nonneg hm hk
 by_cases hz:m*k≤9223372036854775807
 ·have CM:Hid (∀ W,Calls Tryz.prog 133 #[.int .i64 m,.int .i64 k] W fun e w'=>e=.returned (.tuple #[.int .i64 (m*k),.int .i64 0])∧w'=W):=fun W =>
   (qar.rmul_any m k (by unfold inR;omega) (by unfold inR;omega) W).mono fun e w' ⟨h1,h2⟩=>⟨by rw[h1,qar.exV_in (by unfold inR;omega),qar.exE_in (by unfold inR;omega)],h2.symm⟩
  have CA:Hid (∀ W,Calls Tryz.prog 108 #[.int .i64 s,.int .i64 (m*k)] W fun e w'=>e=.returned (.tuple #[.int .i64 0,.int .i64 2])∧w'=W):=fun W=>radd_bad s (m*k) hs h0 hs' hz h W
  generalize m*k=z at *
  clear h h0 hm hk hm' hk' hs hs' hz
  go_enter Tryz.func110,Tryz.ntmps110
  go_wp2_with (first | (go_at_call 133;(with_reducible refine(CM.out _).mono ?_);rintro e w1 ⟨rfl,rfl⟩) | (go_at_call 108;(with_reducible refine(CA.out _).mono ?_);rintro e w2 ⟨rfl,rfl⟩))
  go_ret2
  exact⟨rfl,rfl⟩
 ·have CM:Hid (∀ W,Calls Tryz.prog 133 #[.int .i64 m,.int .i64 k] W fun e w'=>e=.returned (.tuple #[.int .i64 0,.int .i64 2])∧w'=W):=fun W =>
   (qar.rmul_any m k (by unfold inR;omega) (by unfold inR;omega) W).mono fun e w' ⟨h1,h2⟩=>⟨by rw[h1,qar.exV_out (by unfold inR;omega),qar.exE_out (by unfold inR;omega)],h2.symm⟩
  clear h h0 hm hk hm' hk' hs hs' hz
  go_enter Tryz.func110,Tryz.ntmps110
  go_wp2_with (go_at_call 133;(with_reducible refine(CM.out _).mono ?_);rintro e w1 ⟨rfl,rfl⟩)
  go_ret2
  exact⟨rfl,rfl⟩
set_option maxRecDepth 100000 in
set_option maxHeartbeats 4000000 in
theorem rright_any (A:Option Addr) (n c:Nat) (l:List Wk) (bl rl:Int) (w:World) (h:RWk w A n l):Calls Tryz.prog 79 #[.slice A n c,.int .i64 bl,.int .i64 rl] w fun e w'=>e=.returned (.bool (right l bl rl))∧But No w w':=by
 have HN:=hid h.len
 have HL:=hid h
 have hmax:=h.max
 clear h
 by_cases h1:n≤72
 ·have a1:decide (72<n)=false:=by simp;omega
  have a1':decide ((72:Int)<(n:Int))=false:=by simp;omega
  by_cases h2:bl<0
  ·have HV:Hid (right l bl rl=false):=hid (by cases e:right l bl rl with | false=>rfl | true=>have:=(right_iff.1 e).2.1;omega)
   have a2:decide (bl<0)=true:=by simp[h2]
   go_enter Tryz.func79,Tryz.ntmps79
   go_wp2
   go_ret
   exact⟨ret_bool HV.out.symm,But.refl No w⟩
  ·have a2:decide (bl<0)=false:=by simp;omega
   by_cases h3:1099511627776<bl
   ·have HV:Hid (right l bl rl=false):=hid (by cases e:right l bl rl with | false=>rfl | true=>have:=(right_iff.1 e).2.1;omega)
    have a3:decide (1099511627776<bl)=true:=by simp[h3]
    go_enter Tryz.func79,Tryz.ntmps79
    go_wp2
    go_ret
    exact⟨ret_bool HV.out.symm,But.refl No w⟩
   ·have a3:decide (1099511627776<bl)=false:=by simp;omega
    by_cases h4:rl<0
    ·have HV:Hid (right l bl rl=false):=hid (by cases e:right l bl rl with | false=>rfl | true=>have:=(right_iff.1 e).2.2.1;omega)
     have a4:decide (rl<0)=true:=by simp[h4]
     go_enter Tryz.func79,Tryz.ntmps79
     go_wp2
     go_ret
     exact⟨ret_bool HV.out.symm,But.refl No w⟩
    ·have a4:decide (rl<0)=false:=by simp;omega
     by_cases h5:1099511627776<rl
     ·have HV:Hid (right l bl rl=false):=hid (by cases e:right l bl rl with | false=>rfl | true=>have:=(right_iff.1 e).2.2.1;omega)
      have a5:decide (1099511627776<rl)=true:=by simp[h5]
      go_enter Tryz.func79,Tryz.ntmps79
      go_wp2
      go_ret
      exact⟨ret_bool HV.out.symm,But.refl No w⟩
     ·have a5:decide (1099511627776<rl)=false:=by simp;omega
      have HH:=hid (And.intro h1 (And.intro (show 0≤bl∧bl≤1099511627776 by omega) (show 0≤rl∧rl≤1099511627776 by omega)))
      clear h2 h3 h4 h5
      go_enter Tryz.func79,Tryz.ntmps79
      go_wp2_with fail
      go_loopw [7] (fun i wr=>∃ q:Nat,i=.int .i64 (q:Int)∧q≤n∧Hid (∀ j x,j<q→l[j]? = some x→okW x=true)∧Hid (But No w wr)) (fun i _=>n-(intOf i).toNat)
      case atStart=>exact⟨0,rfl,by omega,fun j x hj=>absurd hj (by omega),But.refl No w⟩
      case round =>
       obtain⟨q,rfl,hq,HG,HBR⟩:=hrel
       by_cases hqn:q<n
       ·have hqn2:(q:Int)<(n:Int):=by omega
        have hq0:(0:Int)≤(q:Int):=Int.natCast_nonneg q
        obtain⟨x,hx⟩:∃ x,l[q]? = some x:=⟨_,List.getElem?_eq_getElem (by rw[HN.out];exact hqn)⟩
        obtain⟨b,off,rfl,_,e0,e1,e2,e3⟩:=(HL.out.no HBR.out).at1 hx
        have HX:=hid hx
        clear hx
        obtain⟨x0,x1,x2,x3⟩:=x
        simp only at e0 e1 e2 e3
        by_cases g0:x0<0
        ·have HV:Hid (right l bl rl=false):=hid (by
          cases e:right l bl rl with
          | false=>rfl
          | true =>
           have:=okW_iff.1 ((right_iff.1 e).2.2.2 _ (List.mem_of_getElem? HX.out))
           dsimp only at this
           omega)
         have k0:decide (x0<0)=true:=by simp[g0]
         go_wp2
         go_ret
         exact⟨ret_bool HV.out.symm,HBR.out.alloc _⟩
        ·have k0:decide (x0<0)=false:=by simp;omega
         by_cases g1:1099511627776<x0
         ·have HV:Hid (right l bl rl=false):=hid (by
           cases e:right l bl rl with
           | false=>rfl
           | true =>
            have:=okW_iff.1 ((right_iff.1 e).2.2.2 _ (List.mem_of_getElem? HX.out))
            dsimp only at this
            omega)
          have k1:decide (1099511627776<x0)=true:=by simp[g1]
          go_wp2
          go_ret
          exact⟨ret_bool HV.out.symm,HBR.out.alloc _⟩
         ·have k1:decide (1099511627776<x0)=false:=by simp;omega
          by_cases g2:x1<1
          ·have HV:Hid (right l bl rl=false):=hid (by
            cases e:right l bl rl with
            | false=>rfl
            | true =>
             have:=okW_iff.1 ((right_iff.1 e).2.2.2 _ (List.mem_of_getElem? HX.out))
             dsimp only at this
             omega)
           have k2:decide (x1<1)=true:=by simp[g2]
           go_wp2
           go_ret
           exact⟨ret_bool HV.out.symm,HBR.out.alloc _⟩
          ·have k2:decide (x1<1)=false:=by simp;omega
           by_cases g3:1099511627776<x1
           ·have HV:Hid (right l bl rl=false):=hid (by
             cases e:right l bl rl with
             | false=>rfl
             | true =>
              have:=okW_iff.1 ((right_iff.1 e).2.2.2 _ (List.mem_of_getElem? HX.out))
              dsimp only at this
              omega)
            have k3:decide (1099511627776<x1)=true:=by simp[g3]
            go_wp2
            go_ret
            exact⟨ret_bool HV.out.symm,HBR.out.alloc _⟩
           ·have k3:decide (1099511627776<x1)=false:=by simp;omega
            by_cases g4:x2<1
            ·have HV:Hid (right l bl rl=false):=hid (by
              cases e:right l bl rl with
              | false=>rfl
              | true =>
               have:=okW_iff.1 ((right_iff.1 e).2.2.2 _ (List.mem_of_getElem? HX.out))
               dsimp only at this
               omega)
             have k4:decide (x2<1)=true:=by simp[g4]
             go_wp2
             go_ret
             exact⟨ret_bool HV.out.symm,HBR.out.alloc _⟩
            ·have k4:decide (x2<1)=false:=by simp;omega
             by_cases g5:1099511627776<x2
             ·have HV:Hid (right l bl rl=false):=hid (by
               cases e:right l bl rl with
               | false=>rfl
               | true =>
                have:=okW_iff.1 ((right_iff.1 e).2.2.2 _ (List.mem_of_getElem? HX.out))
                dsimp only at this
                omega)
              have k5:decide (1099511627776<x2)=true:=by simp[g5]
              go_wp2
              go_ret
              exact⟨ret_bool HV.out.symm,HBR.out.alloc _⟩
             ·have k5:decide (1099511627776<x2)=false:=by simp;omega
              have HG1:Hid (∀ j x,j<q+1→l[j]? = some x→okW x=true):=hid (fun j y hj hy=>by
               by_cases e:j=q
               ·subst e;rw[HX.out] at hy;cases hy
                exact okW_iff.2 (by dsimp only;omega)
               ·exact HG.out j y (by omega) hy)
              go_wp2
              go_roundw
              case rel=>exact⟨q+1,by go_num,by omega,HG1,HBR.out.alloc _⟩
              case measure=>simp[intOf];omega
       ·have b3:decide ((q:Int)<(n:Int))=false:=by simp;omega
        have HV:Hid (right l bl rl=true):=hid (right_iff.2 ⟨by rw[HN.out];exact HH.out.1,HH.out.2.1,HH.out.2.2,fun x hx=>by
         obtain⟨j,hj⟩:=List.mem_iff_getElem?.1 hx
         have hjl:=(List.getElem?_eq_some_iff.1 hj).1
         rw[HN.out] at hjl
         exact HG.out j x (by omega) hj⟩)
        go_wp2
        go_ret
        exact⟨ret_bool HV.out.symm,HBR.out⟩
 ·have a1:decide (72<n)=true:=by simp;omega
  have a1':decide ((72:Int)<(n:Int))=true:=by simp;omega
  have HV:Hid (right l bl rl=false):=hid (by cases e:right l bl rl with | false=>rfl | true=>have:=(right_iff.1 e).1;have:=HN.out;omega)
  go_enter Tryz.func79,Tryz.ntmps79
  go_wp2
  go_ret
  exact⟨ret_bool HV.out.symm,But.refl No w⟩
end Go.Proofs.YtjfaiaipojfhgaaGreat.dem
end
