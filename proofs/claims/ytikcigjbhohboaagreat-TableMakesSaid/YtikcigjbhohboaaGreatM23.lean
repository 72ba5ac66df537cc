/- Part 23 of a proof: PaR PaP PaV PaO. -/
import Derived.Laws.BitsLemmas
import Derived.LoopIn
import Derived.LoopNIn
import Derived.OwnWalkIn
import Derived.RangeFuncBound
import Derived.RangeFuncCalls
import Derived.RangeFuncLeaves
import Derived.RangeFuncNested
import Derived.Shelf.Abstract
import Derived.Shelf.RegionOpen
import Derived.TacticsInMore
import Derived.WalkKit
import Derived.Test.YtikcigjbhohboaaGreatM13
import Derived.Test.YtikcigjbhohboaaGreatM15
import Derived.Test.YtikcigjbhohboaaGreatM20
section
namespace Go.Proofs.YtikcigjbhohboaaGreat.pln
open Go.ChangeShapes Go.WideShapes Go.ChangeAt Go.RowKit Go.Deep val
structure Cl (w:World) (b o:Nat) (x:Pt):Prop where
 c0:w.cell? ⟨b,o,none⟩=some (.int .i64 x.p.co)
 c1:w.cell? ⟨b,o+1,none⟩=some (.int .i64 x.p.bu)
 c2:w.cell? ⟨b,o+2,none⟩=some (.int .i64 x.p.de)
 c3:w.cell? ⟨b,o+3,none⟩=some (.int .i64 x.p.pr)
 c4:w.cell? ⟨b,o+4,none⟩=some (.bool x.p.ti)
 c5:w.cell? ⟨b,o+5,none⟩=some (.int .i64 (x.i:Int))
 c6:w.cell? ⟨b,o+6,none⟩=some (.int .i64 (x.k:Int))
 c7:w.cell? ⟨b,o+7,none⟩=some (.bool x.la)
 c8:w.cell? ⟨b,o+8,none⟩=some (.int .i64 x.dn)
 c9:w.cell? ⟨b,o+9,none⟩=some (.int .i64 x.ji)
theorem Cl.butS {w w':World} {b o:Nat} {x:Pt} {S:Nat→Prop} (h:Cl w b o x) (hb:But S w w') (hl:b<w.heap.size) (hs:¬S b):Cl w' b o x :=
 ⟨(hb.cell hl hs).trans h.c0,(hb.cell hl hs).trans h.c1,(hb.cell hl hs).trans h.c2,(hb.cell hl hs).trans h.c3,(hb.cell hl hs).trans h.c4,(hb.cell hl hs).trans h.c5,(hb.cell hl hs).trans h.c6,(hb.cell hl hs).trans h.c7,(hb.cell hl hs).trans h.c8,(hb.cell hl hs).trans h.c9⟩
theorem Blk.cl {w:World} {b:Nat} {x:Pt} {e:TypeId} (h:Blk w b (ptA x) e):Cl w b 0 x :=
 ⟨h.cell (o:=0) rfl,h.cell (o:=1) rfl,h.cell (o:=2) rfl,h.cell (o:=3) rfl,h.cell (o:=4) rfl,h.cell (o:=5) rfl,h.cell (o:=6) rfl,h.cell (o:=7) rfl,h.cell (o:=8) rfl,h.cell (o:=9) rfl⟩
structure RPt (w:World) (A:Option Addr) (n:Nat) (l:List Pt):Prop where
 len:l.length=n
 max:n≤9223372036854775807
 at_:0<n→∃ b off,A=some ⟨b,off,none⟩∧b<w.heap.size∧∀ k x,l[k]? = some x→Cl w b (off+k*10) x
theorem RPt.but {w w':World} {A:Option Addr} {n:Nat} {l:List Pt} {S:Nat→Prop} (h:RPt w A n l) (hb:But S w w') (hs:0<n→∀ b off,A=some ⟨b,off,none⟩→¬S b):RPt w' A n l :=
 ⟨h.len,h.max,fun hn=>by
  obtain⟨b,off,e,hl,hc⟩:=h.at_ hn
  exact⟨b,off,e,Nat.lt_of_lt_of_le hl hb.size,fun k x hx=>(hc k x hx).butS hb hl (hs hn b off e)⟩⟩
theorem RPt.no {w w':World} {A:Option Addr} {n:Nat} {l:List Pt} (h:RPt w A n l) (hb:But No w w'):RPt w' A n l:=h.but hb (fun _ _ _ _ f=>f)
theorem RPt.at1 {w:World} {A:Option Addr} {n:Nat} {l:List Pt} (h:RPt w A n l) {k:Nat} {x:Pt} (hx:l[k]? = some x) :
  ∃ b off,A=some ⟨b,off,none⟩∧b<w.heap.size∧Cl w b (off+k*10) x:=by
 have hk:k<l.length:=(List.getElem?_eq_some_iff.1 hx).1
 obtain⟨b,off,e,hl,hc⟩:=h.at_ (by rw[←h.len];omega)
 exact⟨b,off,e,hl,hc k x hx⟩
theorem flat_len {X:Type} {f:X→List Value} {sz:Nat} (hf:∀ x,(f x).length=sz) (l:List X):(l.flatMap f).length=l.length*sz:=by
 induction l with
 | nil=>simp
 | cons x l ih=>rw[List.flatMap_cons,List.length_append,ih,hf,List.length_cons,Nat.add_mul];omega
theorem flat_at {X:Type} {f:X→List Value} {sz:Nat} (hf:∀ x,(f x).length=sz) {l:List X} {k j:Nat} {x:X} (h:l[k]? = some x) (hj:j<sz):(l.flatMap f)[k*sz+j]? = (f x)[j]?:=by
 induction l generalizing k with
 | nil=>simp at h
 | cons y l ih =>
  rw[List.flatMap_cons]
  cases k with
  | zero =>
   rw[List.getElem?_cons_zero] at h
   cases h
   rw[Nat.zero_mul,Nat.zero_add,List.getElem?_append_left (by rw[hf];exact hj)]
  | succ k =>
   rw[List.getElem?_cons_succ] at h
   rw[List.getElem?_append_right (by rw[hf,Nat.add_mul];omega),hf,show (k+1)*sz+j-sz=k*sz+j by rw[Nat.add_mul];omega]
   exact ih h
theorem ptC_len (x:Pt):(ptC x).length=10:=rfl
theorem rpt_of {w:World} {v:Value} {l:List Pt} (h:w.ownsRow 0 130 10 v l.length (l.flatMap ptC)) (hm:l.length≤9223372036854775807):∃ A c,v=.slice A l.length c∧l.length≤c∧(∀ b off,A=some ⟨b,off,none⟩→(Value.slice A l.length c).ownBlock=some b∧off=0)∧RPt w A l.length l:=by
 obtain⟨h1,h2⟩:=h
 rcases h2 with⟨h2,e⟩ | ⟨g,cap,cur,hv,_,hh,hc,hcap,hs,ht⟩
 ·exact⟨none,0,by rw[e];exact h2,by omega,fun b off e=>(by cases e),rfl,hm,fun h=>absurd h (by omega)⟩
 ·refine⟨_,_,hv,hc,fun b off e=>by cases e;exact⟨rfl,rfl⟩,rfl,hm,fun hn=>⟨g,0,rfl,Blk.lt hh,fun k x hx=>?_⟩⟩
  have hk:k<l.length:=(List.getElem?_eq_some_iff.1 hx).1
  have rdc:∀ j u,j<10→(ptC x)[j]? = some u→w.cell? ⟨g,0+k*10+j,none⟩=some u:=fun j u hj hu=>by
   rw[Nat.zero_add]
   refine Blk.cell hh ?_
   have:=flat_at ptC_len hx hj
   rw[←ht,List.getElem?_take,if_pos (by omega),hu] at this
   simpa using this
  exact⟨rdc 0 _ (by omega) rfl,rdc 1 _ (by omega) rfl,rdc 2 _ (by omega) rfl,rdc 3 _ (by omega) rfl,rdc 4 _ (by omega) rfl,rdc 5 _ (by omega) rfl,rdc 6 _ (by omega) rfl,rdc 7 _ (by omega) rfl,rdc 8 _ (by omega) rfl,rdc 9 _ (by omega) rfl⟩
theorem infoPt : (Tryz.prog.info? 130).map (fun i=>(i.zero,i.size,i.bytes))=some (some (ptV pt0),10,80):=by kernel_rfl
theorem pt_one_cell (x:Pt):∀ u ∈ ptC x,u.oneCell'=true:=by simp[ptC,Value.oneCell']
end Go.Proofs.YtikcigjbhohboaaGreat.pln
end
section
namespace Go.Proofs.YtikcigjbhohboaaGreat.pln
open Go.ChangeShapes Go.WideShapes Go.ChangeAt Go.RowKit Go.Deep val
def whB (x:Pt):Bool:=decide (x.k=0) && (x.la && !x.p.ti)
def wrp (a:Int):Int:=IntKind.i64.wrap a
theorem wrp_in {a:Int} (h:inR a):wrp a=a:=by
 unfold inR at h;unfold wrp;rw[IntKind.wrap_i64];omega
set_option maxRecDepth 100000 in
theorem seat_any (x:Pt) (w:World):Calls Tryz.prog 64 #[ptV x] w fun e w'=>e=.returned (keyV x.p.co (x.i:Int))∧But No w w':=by
 obtain⟨⟨co,bu,de,pr,ti⟩,i,k,la,dn,ji⟩:=x
 have HB:Hid (But No w ((w.alloc (.cells #[.int .i64 co,.int .i64 bu,.int .i64 de,.int .i64 pr,.bool ti,.int .i64 (i:Int),.int .i64 (k:Int),.bool la,.int .i64 dn,.int .i64 ji] 130)).alloc (.cells #[.int .i64 co,.int .i64 (i:Int)] 131))):=Lib.hid (((But.refl No w).alloc _).alloc _)
 dsimp only[ptV,ptA]
 go_enter Tryz.func64,Tryz.ntmps64
 go_wp2
 refine bodyPost_ret (v:=.agg #[.int .i64 co,.int .i64 (i:Int)]) (by simp[results,Tryz.results64,go_sem]) rfl ?_
 exact⟨rfl,HB.out⟩
set_option maxRecDepth 100000 in
theorem whole_any (x:Pt) (w:World):Calls Tryz.prog 114 #[ptV x] w fun e w'=>e=.returned (.bool (whB x))∧But No w w':=by
 obtain⟨⟨co,bu,de,pr,ti⟩,i,k,la,dn,ji⟩:=x
 have hb:But No w (w.alloc (.cells #[.int .i64 co,.int .i64 bu,.int .i64 de,.int .i64 pr,.bool ti,.int .i64 (i:Int),.int .i64 (k:Int),.bool la,.int .i64 dn,.int .i64 ji] 130)):=(But.refl No w).alloc _
 have HB:=Lib.hid hb
 clear hb
 unfold whB
 dsimp only[ptV,ptA]
 by_cases hk:k=0
 ·have q0:((k:Int) == 0)=true:=by simp[hk]
  rw[decide_eq_true hk]
  clear hk
  cases la with
  | true =>
   cases ti with
   | true =>
    go_enter Tryz.func114,Tryz.ntmps114
    go_wp2
    go_ret
    exact⟨rfl,HB.out⟩
   | false =>
     go_enter Tryz.func114,Tryz.ntmps114
     go_wp2
     go_ret
     exact⟨rfl,HB.out⟩
  | false =>
   go_enter Tryz.func114,Tryz.ntmps114
   go_wp2
   go_ret
   exact⟨rfl,HB.out⟩
 ·have q0:((k:Int) == 0)=false:=by simp;omega
  rw[decide_eq_false hk]
  clear hk
  go_enter Tryz.func114,Tryz.ntmps114
  go_wp2
  go_ret
  exact⟨rfl,HB.out⟩
set_option maxRecDepth 100000 in
theorem before_any (x:Pt) (w:World):Calls Tryz.prog 113 #[ptV x] w fun e w'=>e=.returned (.int .i64 (wrp (x.dn+x.ji)))∧But No w w':=by
 obtain⟨⟨co,bu,de,pr,ti⟩,i,k,la,dn,ji⟩:=x
 have hb:But No w (w.alloc (.cells #[.int .i64 co,.int .i64 bu,.int .i64 de,.int .i64 pr,.bool ti,.int .i64 (i:Int),.int .i64 (k:Int),.bool la,.int .i64 dn,.int .i64 ji] 130)):=(But.refl No w).alloc _
 have HB:=Lib.hid hb
 clear hb
 dsimp only[ptV,ptA]
 have hw:IntKind.i64.wrap (dn+ji)=wrp (dn+ji):=rfl
 generalize wrp (dn+ji)=y at hw ⊢
 go_enter Tryz.func113,Tryz.ntmps113
 go_wp2
 go_ret
 exact⟨rfl,HB.out⟩
end Go.Proofs.YtikcigjbhohboaaGreat.pln
end
section
namespace Go.Proofs.YtikcigjbhohboaaGreat.pln
open Go.Lib (hid)
open Go.ChangeShapes Go.WideShapes Go.ChangeAt Go.RowKit Go.Deep Go.Shelf
attribute [local go_sem] Oper.semAt_some
def KT (T:World→Nat→Prop) (W W':World):Prop :=
 (∀ k,T W k→k<W.heap.size)→But (T W) W W'∧(∀ k,k<W.heap.size→T W' k→T W k)∧∀ k,T W' k→k<W'.heap.size
theorem KT.trans {T:World→Nat→Prop} {a b c:World} (h:KT T a b) (k:KT T b c):KT T a c:=fun ho=>by
 obtain⟨h1,h2,h3⟩:=h ho
 obtain⟨k1,k2,k3⟩:=k h3
 refine⟨⟨k1.os.trans h1.os,k1.tape.trans h1.tape,k1.output.trans h1.output,Nat.le_trans h1.size k1.size,fun i hi hs=>?_⟩,fun i hi ht=>h2 i hi (k2 i (Nat.lt_of_lt_of_le hi h1.size) ht),k3⟩
 exact(k1.block i (Nat.lt_of_lt_of_le hi h1.size) (fun s=>hs (h2 i hi s))).trans (h1.block i hi hs)
theorem KT.refl (T:World→Nat→Prop) (a:World):KT T a a:=fun ho=>⟨But.refl _ a,fun _ _ h=>h,ho⟩
def dnW (l:List Pc):Nat→Int
 | 0=>0
 | k+1=>wrp (dnW l k+(l.getD k pc0).bu)
def mkP (lt:Int) (i:Nat) (l:List Pc) (k:Nat) (x:Pc):Pt:=⟨x,i,k,decide (k+1=l.length),dnW l k,wrp ((k:Int)*lt)⟩
def visR (lt:Int) (i:Nat) (l:List Pc):Nat→List Pt
 | 0=>[]
 | k+1=>visR lt i l k ++ [mkP lt i l k (l.getD k pc0)]
def visN (lt:Int) (L:List (List Pc)):Nat→List Pt
 | 0=>[]
 | i+1=>visN lt L i ++ visR lt i (L.getD i []) (L.getD i []).length
def vis (lt:Int) (L:List (List Pc)):List Pt:=visN lt L L.length
def offN (L:List (List Pc)):Nat→Nat
 | 0=>0
 | i+1=>offN L i+(L.getD i []).length
theorem visR_len (lt:Int) (i:Nat) (l:List Pc):∀ k,(visR lt i l k).length=k
 | 0=>rfl
 | k+1=>by rw[visR,List.length_append,visR_len lt i l k];rfl
theorem visN_len (lt:Int) (L:List (List Pc)):∀ i,(visN lt L i).length=offN L i
 | 0=>rfl
 | i+1=>by rw[visN,List.length_append,visN_len lt L i,visR_len,offN]
theorem visR_at {lt:Int} {i:Nat} {l:List Pc} {q:Nat} {x:Pc} (hx:l[q]? = some x):∀ {k:Nat},q<k→(visR lt i l k)[q]? = some (mkP lt i l q x)
 | 0,h=>absurd h (by omega)
 | k+1,h=>by
  rw[visR]
  by_cases e:q=k
  ·subst e
   rw[List.getElem?_append_right (by rw[visR_len];exact Nat.le_refl _),visR_len,Nat.sub_self,getD_some hx];rfl
  ·rw[List.getElem?_append_left (by rw[visR_len];omega)]
   exact visR_at hx (by omega)
theorem visN_at {lt:Int} {L:List (List Pc)} {i:Nat} {l:List Pc} {q:Nat} {x:Pc} (hl:L[i]? = some l) (hx:l[q]? = some x):∀ {n:Nat},i<n→(visN lt L n)[offN L i+q]? = some (mkP lt i l q x)
 | 0,h=>absurd h (by omega)
 | n+1,h=>by
  have hq:q<l.length:=(List.getElem?_eq_some_iff.1 hx).1
  have hg:L.getD i []=l:=by simp[List.getD,hl]
  rw[visN]
  by_cases e:i=n
  ·subst e
   rw[List.getElem?_append_right (by rw[visN_len];omega),visN_len,Nat.add_sub_cancel_left,hg]
   exact visR_at hx hq
  ·have h9:∀ n,i<n→offN L i+l.length≤offN L n:=fun n=>by
    induction n with
    | zero=>intro h;omega
    | succ n ih =>
     intro h
     rw[offN]
     by_cases e:i=n
     ·subst e;rw[hg];exact Nat.le_refl _
     ·have:=ih (by omega);omega
   rw[List.getElem?_append_left (by rw[visN_len];have:=h9 n (by omega);omega)]
   exact visN_at hl hx (by omega)
theorem vis_at {lt:Int} {L:List (List Pc)} {i:Nat} {l:List Pc} {q:Nat} {x:Pc} (hl:L[i]? = some l) (hx:l[q]? = some x):(vis lt L)[offN L i+q]? = some (mkP lt i l q x) :=
 visN_at hl hx (List.getElem?_eq_some_iff.1 hl).1
theorem vis_len (lt:Int) (L:List (List Pc)):(vis lt L).length=offN L L.length:=visN_len lt L _
theorem offN_succ {L:List (List Pc)} {i:Nat} {l:List Pc} (hl:L[i]? = some l):offN L (i+1)=offN L i+l.length:=by rw[offN];simp[List.getD,hl]
theorem offN_le {L:List (List Pc)} {i l:Nat} (h:i≤l):offN L i≤offN L l:=by
 induction l with
 | zero =>
      obtain rfl:i=0:=by omega
      exact Nat.le_refl _
 | succ l ih =>
  by_cases e:i=l+1
  ·rw[e];exact Nat.le_refl _
  ·have:=ih (by omega);rw[offN];omega
set_option maxRecDepth 100000 in
set_option maxHeartbeats 8000000 in
theorem visit1_in (n:Nat) (hn:1≤n) (lp Bp Bl:Nat) (lt:Int) (A:Option Addr) (N c:Nat) (L:List (List Pc)) (w:World) (hl:RPl w A N L) (T:World→Nat→Prop) (hTa:∀ X cs e,(∀ k,T X k→k<X.heap.size)→∀ k,T (X.alloc (.cells cs e)) k→T X k)
  (J Jx:List {x:Pt // x ∈ vis lt L}→World→Prop) (W:World) (hW:But No w W) (hok:∀ k,T W k→k<W.heap.size) (hold:∀ k,k<w.heap.size→¬T W k) (hTp:¬T W Bp) (hTl:¬T W Bl) (hJ:AbidesFrom W.heap.size J)
  (hY:∀ pre (x : {x:Pt // x ∈ vis lt L}) W1,J pre W1→pre.length<(vis lt L).length→YieldAt Fence.wide (n-1) Tryz.prog lp #[ptV x.1] W1 fun e W' =>
   (e=.returned (.bool true)∧J (pre ++ [x]) W'∧KT T W1 W')∨(e=.returned (.bool false)∧Jx (pre ++ [x]) W'))
  (hp:Blk W Bp #[.slice A N c] 25) (hb:Blk W Bl #[.int .i64 lt] 3) (h0:J [] W) :
  CallsIn Fence.wide n Tryz.prog 98 #[.func (.yield lp) #[] #[],.pointer (some ⟨Bp,0,none⟩),.pointer (some ⟨Bl,0,none⟩)] W fun e W'=>(∃ v,e=.returned v) ∧
   ((∃ ys,ys=(vis lt L).attach∧J ys W')∨(∃ pre,pre <+: (vis lt L).attach∧Jx pre W')):=by
 have HLN:Hid (L.length=N):=hid hl.len
 have hmx:=hl.max
 have HL:=hid hl
 have HY:=hid hY
 have HJ:=hid hJ
 have HVL:Hid ((vis lt L).length=offN L L.length):=hid (vis_len lt L)
 have HKA:Hid (∀ X cs e,KT T X (X.alloc (.cells cs e))):=hid (fun X cs e ho=>⟨(But.refl _ X).alloc _,fun k _ ht=>hTa X cs e ho k ht,fun k ht=>by have:=ho k (hTa X cs e ho k ht);rw[size_alloc1];omega⟩)
 have HB:Hid (∀ X,KT T W X→But No w X∧Blk X Bp #[.slice A N c] 25∧Blk X Bl #[.int .i64 lt] 3∧∀ k,T X k→k<X.heap.size):=hid (fun X hx=>by
  obtain⟨h1,h2,h3⟩:=hx hok
  exact⟨⟨h1.os.trans hW.os,h1.tape.trans hW.tape,h1.output.trans hW.output,Nat.le_trans hW.size h1.size,fun k hk hs=>(h1.block k (Nat.lt_of_lt_of_le hk hW.size) (hold k hk)).trans (hW.block k hk hs)⟩,hp.but h1 hTp,hb.but h1 hTl,h3⟩)
 have HTA:=hid hTa
 have c0:=hp.cell (o:=0) rfl
 clear hl hW hY hJ hp hb hTa hok hold hTp hTl
 refine callsIn_of_wp Tryz.func98 rfl trivial ?_ rfl
 simp only[Tryz.ntmps98,List.size_toArray,List.length_cons,List.length_nil,Nat.reduceAdd,Nat.reduceSub,Array.replicate_succ,Array.replicate_zero,List.push_toArray,List.append_toArray,List.nil_append,List.cons_append]
 gi_wp2
 clear c0
 gi_loopw [11] (fun i wr=>∃ q:Nat,q≤N∧i=.int .i64 (q:Int)∧Hid (J ((vis lt L).attach.take (offN L q)) wr)∧Hid (KT T W wr)) (fun i _=>N-(intOf i).toNat)
 case atStart=>exact⟨0,by omega,rfl,h0,KT.refl _ _⟩
 case round =>
  obtain⟨i,hi,rfl,HJS,HKR⟩:=hrel
  have hi0:(0:Int)≤(i:Int):=Int.natCast_nonneg i
  by_cases hin:i<N
  ·have hin3:(i:Int)<(N:Int):=by omega
   have b2:decide ((i:Int)<(N:Int))=true:=by simp;omega
   obtain⟨l,hli⟩:∃ l,L[i]? = some l:=⟨_,List.getElem?_eq_getElem (by rw[HLN.out];exact hin)⟩
   obtain⟨b,off,A1,c1,rfl,hb,hcl,hc1,hpl⟩:=HL.out.at1 hli
   have hcl2:=cell_keep hcl (HB.out wr HKR.out).1
   have HPL:=hid hpl
   have hml:=hpl.max
   have HAT:Hid (∀ q x,l[q]? = some x→(vis lt L)[offN L i+q]? = some (mkP lt i l q x)):=hid (fun q x hx=>vis_at hli hx)
   have HOS:=hid (offN_succ hli)
   have HOL:Hid (offN L (i+1)≤(vis lt L).length):=hid (by rw[HVL.out];exact offN_le (by rw[HLN.out];omega))
   have HGD:Hid (∀ q x,l[q]? = some x→dnW l (q+1)=wrp (dnW l q+x.bu)):=hid (fun q x hx=>by rw[dnW,getD_some hx])
   obtain⟨p,hpo⟩:∃ p,offN L i=p:=⟨_,rfl⟩
   rw[hpo] at HJS HAT HOS
   obtain⟨m,hm⟩:∃ m,l.length=m:=⟨_,rfl⟩
   have HM:=hid hm
   rw[hm] at hcl2 hc1 HPL hml HOS
   clear hpl hcl hli hpo hm hb
   gi_wp2
   gi_loopw [6,18] (fun d j w3=>∃ q:Nat,q≤m∧d=.int .i64 (dnW l q)∧j=.int .i64 (q:Int)∧Hid (J ((vis lt L).attach.take (p+q)) w3)∧Hid (KT T W w3)) (fun _ j _=>m-(intOf j).toNat)
   case atStart=>exact⟨0,by omega,rfl,rfl,HJS.out,HKR.out⟩
   case round =>
    obtain⟨q,hq,rfl,rfl,HJS,HKR⟩:=hrel
    have hq0:(0:Int)≤(q:Int):=Int.natCast_nonneg q
    by_cases hqm:q<m
    ·have hqm2:(q:Int)<(m:Int):=by omega
     have b3:decide ((q:Int)<(m:Int))=true:=by simp;omega
     obtain⟨x,hx⟩:∃ x,l[q]? = some x:=⟨_,List.getElem?_eq_getElem (by rw[HM.out];exact hqm)⟩
     obtain⟨hbw,hBp,hBl,hkk⟩:=HB.out wr HKR.out
     obtain⟨bk,ok,rfl,_,e0,e1,e2,e3,e4⟩:=(HPL.out.no hbw).at1 hx
     have g0:=hBl.cell (o:=0) rfl
     have hat:=HAT.out q x hx
     have hkl:p+q<(vis lt L).length:=(List.getElem?_eq_some_iff.1 hat).1
     obtain⟨xx,hxx⟩:∃ xx : {x:Pt // x ∈ vis lt L},xx=⟨(vis lt L)[p+q],List.getElem_mem hkl⟩:=⟨_,rfl⟩
     have HTK:Hid ((vis lt L).attach.take (p+(q+1))=(vis lt L).attach.take (p+q) ++ [xx]):=hid (by rw[hxx];exact rsp.attach_take_snoc hkl)
     have hxv:xx.1=mkP lt i l q x:=by rw[hxx];exact Option.some.inj ((List.getElem?_eq_getElem hkl).symm.trans hat)
     have HDN:=hid (HGD.out q x hx)
     obtain⟨X,hX⟩:∃ X,wr.alloc (.cells #[.int .i64 x.co,.int .i64 x.bu,.int .i64 x.de,.int .i64 x.pr,.bool x.ti] 42)=X:=⟨_,rfl⟩
     have HX:=hid hX
     have hka:KT T wr X:=by rw[←hX];exact HKA.out wr _ _
     have HKX:Hid (KT T W X):=hid (HKR.out.trans hka)
     have hbx:Blk X wr.heap.size #[.int .i64 x.co,.int .i64 x.bu,.int .i64 x.de,.int .i64 x.pr,.bool x.ti] 42:=by rw[←hX];exact Blk.new wr _ _
     have hnT:¬T X wr.heap.size:=fun h=>by rw[←hX] at h;have:=hkk _ (HTA.out _ _ _ hkk _ h);omega
     have HRD:Hid (∀ W',KT T X W'→Blk W' wr.heap.size #[.int .i64 x.co,.int .i64 x.bu,.int .i64 x.de,.int .i64 x.pr,.bool x.ti] 42):=hid (fun W' hk=>hbx.but (hk (HB.out X HKX.out).2.2.2).1 hnT)
     obtain⟨fn,tmps,assign,body,hy,hR⟩:=HY.out ((vis lt L).attach.take (p+q)) xx X (by rw[←hX];exact HJ.out _ _ _ none HJS.out (World.grownBy_alloc _ _ none) (fun r e=>by cases e)) (by rw[List.length_take,List.length_attach];omega)
     have y0:=hbx.cell (o:=0) rfl
     have y1:=hbx.cell (o:=1) rfl
     have y2:=hbx.cell (o:=2) rfl
     have y3:=hbx.cell (o:=3) rfl
     have y4:=hbx.cell (o:=4) rfl
     have g1:X.cell? ⟨Bl,0,none⟩=some (.int .i64 lt):=by rw[←hX];exact(hBl.alloc _).cell (o:=0) rfl
     have g2:=(hBl.alloc (.cells #[.int .i64 x.co,.int .i64 x.bu,.int .i64 x.de,.int .i64 x.pr,.bool x.ti] 42)).cell (o:=0) rfl
     rw[hxv] at hy
     unfold mkP at hy
     rw[HM.out] at hy
     dsimp only[ptV,ptA] at hy
     rw[←hX] at hy
     have hwj:IntKind.i64.wrap ((q:Int)*lt)=wrp ((q:Int)*lt):=rfl
     have hwd:IntKind.i64.wrap (dnW l q+x.bu)=wrp (dnW l q+x.bu):=rfl
     rw[←HDN.out] at hwd
     generalize wrp ((q:Int)*lt)=jj at hy hwj
     have hlast:decide (q+1=m)=((q:Int) == (m:Int)-1):=by
      by_cases e:q+1=m
      ·rw[decide_eq_true e];symm;rw[beq_iff_eq];omega
      ·rw[decide_eq_false e];symm;rw[beq_eq_false_iff_ne];omega
     rw[hlast] at hy
     generalize dnW l q=dd at hy hwd
     have HD2:Hid (∃ d2,dnW l (q+1)=d2):=hid ⟨_,rfl⟩
     obtain⟨d2,hd2⟩:=HD2.out
     rw[hd2] at hwd
     have HD2:=hid (congrArg (Value.int .i64) hd2.symm)
     clear hd2
     have HR:=hid hR
     clear hlast hR hxv hx hat hkl hxx hbx hka hnT hkk hBp hBl hbw hX HDN
     gi_wp2
     rw[HX.out]
     refine HR.out.mono ?_
     rintro e W3 (⟨rfl,hJ3,hk3⟩ | ⟨rfl,hJx3⟩)
     ·have HJ3:Hid (J ((vis lt L).attach.take (p+(q+1))) W3):=hid (by rw[HTK.out];exact hJ3)
      have HK3:=hid (HKX.out.trans hk3)
      have f1:=(HRD.out W3 hk3).cell (o:=1) rfl
      clear hJ3 hk3 y0 y1 y2 y3 y4 g0 g1 g2 e0 e1 e2 e3 e4
      gi_wp2
      go_roundw
      case rel=>exact⟨q+1,by omega,HD2.out,by go_num,HJ3.out,HK3.out⟩
      case measure=>simp[intOf];omega
     ·gi_wp2
      refine bodyPost_ret (results_none rfl _ _ _) rfl ?_
      exact⟨⟨_,rfl⟩,.inr ⟨(vis lt L).attach.take (p+(q+1)),List.take_prefix _ _,by rw[HTK.out];exact hJx3⟩⟩
    ·have hqn:q=m:=by omega
     have b3:decide ((q:Int)<(m:Int))=false:=by simp;omega
     have HJE:Hid (J ((vis lt L).attach.take (offN L (i+1))) wr):=hid (by rw[HOS.out,←hqn];exact HJS.out)
     clear hqn
     gi_wp2
     go_roundw
     case rel=>exact⟨i+1,by omega,by go_num,HJE.out,HKR.out⟩
     case measure=>simp[intOf];omega
  ·have hi9:i=N:=by omega
   have b2:decide ((i:Int)<(N:Int))=false:=by simp;omega
   have htk:(vis lt L).attach.take (offN L i)=(vis lt L).attach:=by rw[hi9,←HLN.out];exact List.take_of_length_le (by rw[List.length_attach,HVL.out];exact Nat.le_refl _)
   rw[htk] at HJS
   clear htk hi9
   gi_wp2
   go_end0
   exact⟨⟨_,rfl⟩,.inl ⟨_,rfl,HJS.out⟩⟩
theorem visit_stops (n:Nat) (hn:1≤n) (Bp Bl:Nat) (lt:Int) (A:Option Addr) (N c:Nat) (L:List (List Pc)) (w:World) (hl:RPl w A N L) (T:World→Nat→Prop) (hTa:∀ X cs e,(∀ k,T X k→k<X.heap.size)→∀ k,T (X.alloc (.cells cs e)) k→T X k)
  (W0:World) (hW0:But No w W0) (hok:∀ W,But No W0 W→(∀ k,T W k→k<W.heap.size)∧(∀ k,k<w.heap.size→¬T W k)∧¬T W Bp∧¬T W Bl) (hp:Blk W0 Bp #[.slice A N c] 25) (hb:Blk W0 Bl #[.int .i64 lt] 3) :
  SeqStopsK Fence.wide n Tryz.prog 98 #[.pointer (some ⟨Bp,0,none⟩),.pointer (some ⟨Bl,0,none⟩)] (fun x : {x:Pt // x ∈ vis lt L}=>#[ptV x.1]) (KT T) (fun ys=>ys=(vis lt L).attach) (fun pre=>pre <+: (vis lt L).attach) (vis lt L).length W0:=fun lp J Jx W hW hJ _ hY h0=>by
 have hb':But No W0 W:=rsp.but_below hW
 obtain⟨h1,h2,h3,h4⟩:=hok W hb'
 exact visit1_in n hn lp Bp Bl lt A N c L w hl T hTa J Jx W (hW0.trans hb') h1 h2 h3 h4 hJ hY (hp.but hb' (fun f=>f)) (hb.but hb' (fun f=>f)) h0
theorem visit_any (s:Sys) (A:Option Addr) (n c:Nat) (A':Option Addr) (N c':Nat) (w:World):Calls Tryz.prog 63 #[sysV s A n c,.slice A' N c'] w fun e w' =>
  e=.returned (.func (.func 98) #[] #[.pointer (some ⟨w.heap.size+1,0,none⟩),.pointer (some ⟨w.heap.size+1+1,0,none⟩)])∧But No w w'∧w'.heap.size=w.heap.size+3∧Blk w' (w.heap.size+1) #[.slice A' N c'] 25∧Blk w' (w.heap.size+1+1) #[.int .i64 (wrp (s.la-1))] 3:=by
 have hmf:∀ (fn:Fn) (first cap:Array Value) (w:World),(Instr.makeFunc fn first cap).run Tryz.prog w=.ok (.func fn first cap) w:=fun _ _ _ _=>rfl
 have hwl:IntKind.i64.wrap (s.la-1)=wrp (s.la-1):=rfl
 have HF:Hid (∀ lt,But No w (((w.alloc (.cells #[.int .i64 s.co,.int .i64 s.po,.int .i64 s.pr,.int .i64 s.re,.int .i64 s.sw,.int .i64 s.fi,.int .i64 s.la,.int .i64 s.rs,.slice A n c] 24)).alloc (.cells #[.slice A' N c'] 25)).alloc (.cells #[.int .i64 lt] 3))∧(((w.alloc (.cells #[.int .i64 s.co,.int .i64 s.po,.int .i64 s.pr,.int .i64 s.re,.int .i64 s.sw,.int .i64 s.fi,.int .i64 s.la,.int .i64 s.rs,.slice A n c] 24)).alloc (.cells #[.slice A' N c'] 25)).alloc (.cells #[.int .i64 lt] 3)).heap.size=w.heap.size+3∧Blk (((w.alloc (.cells #[.int .i64 s.co,.int .i64 s.po,.int .i64 s.pr,.int .i64 s.re,.int .i64 s.sw,.int .i64 s.fi,.int .i64 s.la,.int .i64 s.rs,.slice A n c] 24)).alloc (.cells #[.slice A' N c'] 25)).alloc (.cells #[.int .i64 lt] 3)) (w.heap.size+1) #[.slice A' N c'] 25∧Blk (((w.alloc (.cells #[.int .i64 s.co,.int .i64 s.po,.int .i64 s.pr,.int .i64 s.re,.int .i64 s.sw,.int .i64 s.fi,.int .i64 s.la,.int .i64 s.rs,.slice A n c] 24)).alloc (.cells #[.slice A' N c'] 25)).alloc (.cells #[.int .i64 lt] 3)) (w.heap.size+1+1) #[.int .i64 lt] 3):=hid (fun lt=>⟨(((But.refl No w).alloc _).alloc _).alloc _,by simp,(blk2 w _ _ _).alloc _,by
  have:=blk2 (w.alloc (.cells #[.int .i64 s.co,.int .i64 s.po,.int .i64 s.pr,.int .i64 s.re,.int .i64 s.sw,.int .i64 s.fi,.int .i64 s.la,.int .i64 s.rs,.slice A n c] 24)) (.cells #[.slice A' N c'] 25) #[.int .i64 lt] 3
  rw[size_alloc1] at this;exact this⟩)
 generalize wrp (s.la-1)=lt at hwl ⊢
 unfold sysV
 go_enter Tryz.func63,Tryz.ntmps63
 go_wp2
 go_ret
 exact⟨rfl,HF.out lt⟩
end Go.Proofs.YtikcigjbhohboaaGreat.pln
end
section
namespace Go.Proofs.YtikcigjbhohboaaGreat.pln
open Go.Lib (hid)
open Go.ChangeShapes Go.WideShapes Go.ChangeAt Go.RowKit Go.Deep Go.Shelf val
attribute [local go_sem] Oper.semAt_some
abbrev lyA (s:Sys) (A:Option Addr) (n c m b:Nat):Array Value:=#[.int .i64 s.co,.int .i64 s.po,.int .i64 s.pr,.int .i64 s.re,.int .i64 s.sw,.int .i64 s.fi,.int .i64 s.la,.int .i64 s.rs,.slice A n c,.map (some m),.slice (some ⟨b,0,none⟩) n n]
abbrev lyV (s:Sys) (A:Option Addr) (n c m b:Nat):Value:=.agg (lyA s A n c m b)
def onN (F:Int→Int→Option Pt) (co:Int):Nat→List Pt
 | 0=>[]
 | i+1=>onN F co i ++ (match F co (i:Int)with | some x=>[x] | none=>[])
structure Fok (n:Nat) (F:Int→Int→Option Pt):Prop where
 at_:∀ a b x,F a b=some x→x.p.co=a∧(x.i:Int)=b∧x.i<n
 fit:∀ a b x,F a b=some x→inR x.p.co∧inR x.p.bu∧inR x.p.de∧inR x.p.pr
theorem onN_some {F:Int→Int→Option Pt} {co:Int} {i:Nat} {x:Pt} (h:F co (i:Int)=some x):onN F co (i+1)=onN F co i ++ [x]:=by rw[onN,h]
theorem onN_none {F:Int→Int→Option Pt} {co:Int} {i:Nat} (h:F co (i:Int)=none):onN F co (i+1)=onN F co i:=by rw[onN,h];simp
theorem onN_pre {F:Int→Int→Option Pt} {co:Int} {i n:Nat} (h:i≤n):onN F co i <+: onN F co n:=by
 induction n with
 | zero =>
      obtain rfl:i=0:=by omega
      exact List.prefix_refl _
 | succ n ih =>
  by_cases e:i=n+1
  ·rw[e];exact List.prefix_refl _
  ·refine(ih (by omega)).trans ?_
   rw[onN];exact List.prefix_append _ _
theorem onN_mem {F:Int→Int→Option Pt} {co:Int} {x:Pt}:∀ {n:Nat},x ∈ onN F co n→∃ i:Nat,i<n∧F co (i:Int)=some x
 | 0,h=>by simp[onN] at h
 | n+1,h=>by
  rw[onN,List.mem_append] at h
  rcases h with h | h
  ·obtain⟨i,hi,e⟩:=onN_mem h
   exact⟨i,by omega,e⟩
  ·cases e:F co (n:Int)with
   | none=>rw[e] at h;simp at h
   | some y=>rw[e] at h;simp at h;exact⟨n,by omega,by rw[e,h]⟩
theorem onN_len {F:Int→Int→Option Pt} {co:Int}:∀ n,(onN F co n).length≤n
 | 0=>by simp[onN]
 | n+1=>by
  have:=onN_len (F:=F) (co:=co) n
  rw[onN,List.length_append]
  cases F co (n:Int) <;> simp <;> omega
theorem attach_pre {α:Type} {l:List α} {k:Nat} {x:α} (h:l[k]? = some x):∃ xx : {x:α // x ∈ l},xx.1=x∧l.attach.take (k+1)=l.attach.take k ++ [xx]:=by
 have hk:k<l.length:=(List.getElem?_eq_some_iff.1 h).1
 exact⟨⟨l[k],List.getElem_mem hk⟩,Option.some.inj ((List.getElem?_eq_getElem hk).symm.trans h),rsp.attach_take_snoc hk⟩
set_option maxRecDepth 100000 in
set_option maxHeartbeats 8000000 in
theorem on1_in (n:Nat) (hn:1≤n) (lp Bs Bc:Nat) (s:Sys) (A:Option Addr) (N c m b:Nat) (F:Int→Int→Option Pt) (co:Int) (K:Nat) (S:Nat→Prop) (hSs:¬S Bs) (hSc:¬S Bc) (hSm:¬S m) (hco:inR co) (hN:N≤24)
  (J Jx:List {x:Pt // x ∈ onN F co N}→World→Prop) (W:World) (hJ:AbidesFrom W.heap.size J)
  (hY:∀ pre (x : {x:Pt // x ∈ onN F co N}) W1,J pre W1→pre.length<(onN F co N).length→YieldAt Fence.wide (n-1) Tryz.prog lp #[ptV x.1] W1 fun e W' =>
   (e=.returned (.bool true)∧J (pre ++ [x]) W'∧But S W1 W')∨(e=.returned (.bool false)∧Jx (pre ++ [x]) W'))
  (hp:Blk W Bs (lyA s A N c m b) 123) (hb:Blk W Bc #[.int .i64 co] 3) (hm:MP W m K F) (h0:J [] W) :
  CallsIn Fence.wide n Tryz.prog 120 #[.func (.yield lp) #[] #[],.pointer (some ⟨Bs,0,none⟩),.pointer (some ⟨Bc,0,none⟩)] W fun e W'=>(∃ v,e=.returned v) ∧
   ((∃ ys,ys=(onN F co N).attach∧J ys W')∨(∃ pre,pre <+: (onN F co N).attach∧Jx pre W')):=by
 have HY:=hid hY
 have HJ:=hid hJ
 have HCO:=hid hco
 have HJA:Hid (∀ {ys X},J ys X→∀ cs e,J ys (X.alloc (.cells cs e))):=hid (fun h cs e=>hJ _ _ _ none h (World.grownBy_alloc _ _ none) (fun r e=>by cases e))
 have HB:Hid (∀ X,But S W X→Blk X Bs (lyA s A N c m b) 123∧Blk X Bc #[.int .i64 co] 3∧MP X m K F):=hid (fun X hx=>⟨hp.but hx hSs,hb.but hx hSc,hm.but hx hSm⟩)
 have c8:=hp.cell (o:=8) rfl
 clear hY hJ hp hb hm hSs hSc hSm hco
 refine callsIn_of_wp Tryz.func120 rfl trivial ?_ rfl
 simp only[Tryz.ntmps120,List.size_toArray,List.length_cons,List.length_nil,Nat.reduceAdd,Nat.reduceSub,Array.replicate_succ,Array.replicate_zero,List.push_toArray,List.append_toArray,List.nil_append,List.cons_append]
 gi_wp2
 clear c8
 gi_loopw [11] (fun i wr=>∃ q:Nat,q≤N∧i=.int .i64 (q:Int)∧Hid (J ((onN F co N).attach.take (onN F co q).length) wr)∧Hid (But S W wr)) (fun i _=>N-(intOf i).toNat)
 case atStart=>exact⟨0,by omega,rfl,h0,But.refl _ _⟩
 case round =>
  obtain⟨i,hi,rfl,HJS,HBR⟩:=hrel
  have hi0:(0:Int)≤(i:Int):=Int.natCast_nonneg i
  by_cases hin:i<N
  ·have hin3:(i:Int)<(N:Int):=by omega
   have b2:decide ((i:Int)<(N:Int))=true:=by simp;omega
   obtain⟨hBs,hBc,hMP⟩:=HB.out wr HBR.out
   have e9:=hBs.cell (o:=9) rfl
   have e0:=hBc.cell (o:=0) rfl
   have hlk:=hMP.look (c:=co) (t:=(i:Int)) HCO.out (by unfold inR;omega)
   have HPR:=hid (onN_pre (F:=F) (co:=co) (i:=i+1) (n:=N) (by omega))
   cases hF:F co (i:Int)with
   | none =>
    rw[hF] at hlk
    dsimp only[ov,ptV,ptA,pt0,pc0,Option.isSome] at hlk
    have HJE:Hid (J ((onN F co N).attach.take (onN F co (i+1)).length) wr):=hid (by rw[onN_none hF];exact HJS.out)
    have HF:=hid hF
    clear hF
    gi_wp2
    refine⟨fun _ h=>(by cases h),?_⟩
    gi_wp2
    go_roundw
    case rel=>exact⟨i+1,by omega,by go_num,HJA.out HJE.out _ _,HBR.out.alloc _⟩
    case measure=>simp[intOf];omega
   | some x =>
    rw[hF] at hlk
    obtain⟨xx,hxx,htk⟩:=attach_pre (l:=onN F co N) (k:=(onN F co i).length) (x:=x) (by
     obtain⟨r,hr⟩:=HPR.out
     rw[←hr,onN_some hF,List.append_assoc,List.getElem?_append_right (Nat.le_refl _),Nat.sub_self];rfl)
    have HTK:=hid htk
    have HLE:Hid ((onN F co i).length<(onN F co N).length):=hid (by
     obtain⟨r,hr⟩:=HPR.out
     rw[←hr,onN_some hF];simp only[List.length_append,List.length_cons,List.length_nil];omega)
    have HL1:Hid ((onN F co (i+1)).length=(onN F co i).length+1):=hid (by rw[onN_some hF];simp)
    have HF:=hid hF
    obtain⟨fn,tmps,assign,body,hy,hR⟩:=HY.out ((onN F co N).attach.take (onN F co i).length) xx (wr.alloc (.cells (ptA x) 130)) (HJA.out HJS.out _ _) (by rw[List.length_take,List.length_attach];have:=HLE.out;omega)
    have hB2:=HBR.out.alloc (.cells (ptA x) 130)
    have HB2:=hid hB2
    have HR:=hid hR
    rw[hxx] at hy
    clear hF htk hR hB2 hxx
    obtain⟨⟨x0,x1,x2,x3,x4⟩,xi,xk,xl,xd,xj⟩:=x
    dsimp only[ov,ptV,ptA,Option.isSome] at hlk hy HR HB2
    gi_wp2
    refine HR.out.mono ?_
    rintro e W3 (⟨rfl,hJ3,hk3⟩ | ⟨rfl,hJx3⟩)
    ·have HJ3:Hid (J ((onN F co N).attach.take (onN F co (i+1)).length) W3):=hid (by rw[HL1.out,HTK.out];exact hJ3)
     have HK3:=hid (HB2.out.trans hk3)
     clear hJ3 hk3 hlk e9 e0
     gi_wp2
     go_roundw
     case rel=>exact⟨i+1,by omega,by go_num,HJ3.out,HK3.out⟩
     case measure=>simp[intOf];omega
    ·have HJX:Hid (Jx ((onN F co N).attach.take (onN F co (i+1)).length) W3):=hid (by rw[HL1.out,HTK.out];exact hJx3)
     clear hJx3
     gi_wp2
     refine bodyPost_ret (results_none rfl _ _ _) rfl ?_
     exact⟨⟨_,rfl⟩,.inr ⟨(onN F co N).attach.take (onN F co (i+1)).length,List.take_prefix _ _,HJX.out⟩⟩
  ·have hi9:i=N:=by omega
   have b2:decide ((i:Int)<(N:Int))=false:=by simp;omega
   have htk:(onN F co N).attach.take (onN F co i).length=(onN F co N).attach:=by rw[hi9];exact List.take_of_length_le (by rw[List.length_attach];exact Nat.le_refl _)
   rw[htk] at HJS
   clear htk hi9
   gi_wp2
   go_end0
   exact⟨⟨_,rfl⟩,.inl ⟨_,rfl,HJS.out⟩⟩
theorem on_stops (n:Nat) (hn:1≤n) (Bs Bc:Nat) (s:Sys) (A:Option Addr) (N c m b:Nat) (F:Int→Int→Option Pt) (co:Int) (K:Nat) (S:Nat→Prop) (hSs:¬S Bs) (hSc:¬S Bc) (hSm:¬S m) (hco:inR co) (hN:N≤24) (W0:World)
  (hp:Blk W0 Bs (lyA s A N c m b) 123) (hb:Blk W0 Bc #[.int .i64 co] 3) (hm:MP W0 m K F) :
  SeqStopsK Fence.wide n Tryz.prog 120 #[.pointer (some ⟨Bs,0,none⟩),.pointer (some ⟨Bc,0,none⟩)] (fun x : {x:Pt // x ∈ onN F co N}=>#[ptV x.1]) (But S) (fun ys=>ys=(onN F co N).attach) (fun pre=>pre <+: (onN F co N).attach) (onN F co N).length W0:=fun lp J Jx W hW hJ _ hY h0=>by
 have hb':But No W0 W:=rsp.but_below hW
 exact on1_in n hn lp Bs Bc s A N c m b F co K S hSs hSc hSm hco hN J Jx W hJ hY (hp.but hb' (fun f=>f)) (hb.but hb' (fun f=>f)) (hm.no hb') h0
theorem on_any (s:Sys) (A:Option Addr) (n c m b:Nat) (co:Int) (w:World):Calls Tryz.prog 102 #[lyV s A n c m b,.int .i64 co] w fun e w' =>
  e=.returned (.func (.func 120) #[] #[.pointer (some ⟨w.heap.size,0,none⟩),.pointer (some ⟨w.heap.size+1,0,none⟩)])∧w'=(w.alloc (.cells (lyA s A n c m b) 123)).alloc (.cells #[.int .i64 co] 3):=by
 have hmf:∀ (fn:Fn) (first cap:Array Value) (w:World),(Instr.makeFunc fn first cap).run Tryz.prog w=.ok (.func fn first cap) w:=fun _ _ _ _=>rfl
 dsimp only[lyV,lyA]
 go_enter Tryz.func102,Tryz.ntmps102
 go_wp2
 go_ret
 exact⟨rfl,rfl⟩
end Go.Proofs.YtikcigjbhohboaaGreat.pln
end
