/- Part 30 of a proof: PaG PaH. -/
import Derived.Maps.OwnIn
import Derived.Test.YtikcigjbhohboaaGreatM25
import Derived.Test.YtikcigjbhohboaaGreatM29
section
namespace Go.Proofs.YtikcigjbhohboaaGreat.pln
open Go.Lib (hid)
open Go.ChangeShapes Go.WideShapes Go.ChangeAt Go.RowKit Go.Deep Go.Shelf val ter Go.Sort
attribute [local go_sem] Oper.semAt_some
section
variable {fx:List (Nat × Array Value × TypeId)} {W W':World}
end
theorem row_ne_blk {w:World} {v:Value} {e e':TypeId} {sz n b:Nat} {xs:List Value} {cur:Array Value} (h:w.ownsRow 0 e sz v n xs) (hb:Blk w b cur e') (he:e'≠e):v.ownBlock≠some b:=fun f=>by
 obtain⟨_,h2⟩:=h
 rcases h2 with⟨h2,_⟩ | ⟨g,cap,cur',hv,_,hh,_⟩
 ·rw[h2] at f;simp[Value.ownBlock] at f
 ·rw[hv] at f
  have:g=b:=by simpa [Value.ownBlock] using f
  subst this
  unfold Blk at hb
  rw[hh] at hb
  cases hb
  exact he rfl
theorem Rg.turn {e:TypeId} {sz:Nat} {w wr w2:World} {v:Value} {n B:Nat} {cs:List Value} (h:Rg e sz w wr v n cs) {row:Option Nat} (hB:w.heap.size≤B) (hg:wr.grownBy w2 row) (hr:∀ r,row=some r→B≤r∧∃ o:Obj,wr.heap[r]? = some o∧o.isCells=false):Rg e sz w w2 v n cs:=by
 refine⟨h.but.grown hg (fun k e=>.inr (Nat.le_trans hB (hr k e).1)),?_,h.new⟩
 obtain⟨h1,h2⟩:=h.own
 refine⟨h1,?_⟩
 rcases h2 with h2 | ⟨g,cap,cur,hv,hg0,hh,hc⟩
 ·exact .inl h2
 ·exact .inr ⟨g,cap,cur,hv,hg0,rsp.blk_turn (show Blk wr g cur e from hh) hg (fun k e=>(hr k e).2),hc⟩
theorem row_is {w:World} {v:Value} {e:TypeId} {sz n:Nat} {xs:List Value} (h:w.ownsRow 0 e sz v n xs) (j:Nat) (o:Obj) (hv:v.ownBlock=some j) (hj:w.heap[j]? = some o):o.isCells=true:=by
 obtain⟨_,h2⟩:=h
 rcases h2 with⟨h2,_⟩ | ⟨g,cap,cur',hv',_,hh,_⟩
 ·rw[h2] at hv;simp[Value.ownBlock] at hv
 ·rw[hv'] at hv
  have:g=j:=by simpa [Value.ownBlock] using hv
  subst this
  rw[hh] at hj
  cases hj
  rfl
set_option maxRecDepth 100000 in
set_option maxHeartbeats 8000000 in
theorem append_any {w:World} {s:Sys} {A:Option Addr} {n c m b K Bs Bc:Nat} {F:Int→Int→Option Pt} (co:Int) (hco:inR co) (hn:n≤24) (hp:Blk w Bs (lyA s A n c m b) 123) (hb:Blk w Bc #[.int .i64 co] 3) (hm:MP w m K F) :
  Calls Tryz.prog 157 #[.slice none 0 0,.func (.func 120) #[] #[.pointer (some ⟨Bs,0,none⟩),.pointer (some ⟨Bc,0,none⟩)]] w fun e w'=>∃ v,e=.returned v∧Rg 130 10 w w' v (onN F co n).length ((onN F co n).flatMap ptC):=by
 have hb1:But No w (w.alloc (.cells #[.slice none 0 0] 182)):=(But.refl No w).alloc _
 have HP:=hid (hp.but hb1 (fun f=>f))
 have HC:=hid (hb.but hb1 (fun f=>f))
 have HM:=hid (hm.no hb1)
 have HV:=hid (Blk.new w #[.slice none 0 0] 182)
 have HB:=hid hb1
 have hlp:=hp.lt
 have hlc:=hb.lt
 have hlm:=hm.lt
 have HOL:=hid (onN_len (F:=F) (co:=co) n)
 obtain⟨ia,hi0,hz0,hz1,hz2⟩:=info_parts infoPt
 have IA:Hid (Tryz.prog.info? 130=some ia∧ia.zero=some (ptV pt0)∧ia.size=10∧ia.bytes=80):=⟨hi0,hz0,hz1,hz2⟩
 have hsz:(w.alloc (.cells #[.slice none 0 0] 182)).heap.size=w.heap.size+1:=by simp
 clear hp hb hm hb1 hi0 hz0 hz1 hz2
 refine(callsIn_wide (n:=8)).1 ?_
 refine callsIn_of_wp_marks Tryz.func157 rfl trivial ?_ rfl
 simp only[Tryz.ntmps157,List.size_toArray,List.length_cons,List.length_nil,Nat.reduceAdd,Nat.reduceSub,Array.replicate_succ,Array.replicate_zero,List.push_toArray,List.append_toArray,List.nil_append,List.cons_append]
 gi_wp2
 generalize w.alloc (.cells #[.slice none 0 0] 182)=W0 at HP HC HM HV HB hsz ⊢
 refine wpIn_rangeFunc_ownH rfl (by omega) (gf:=120) (lb:=#[.pointer (some ⟨Bs,0,none⟩),.pointer (some ⟨Bc,0,none⟩)]) rfl trivial (enters_of Tryz.func120 (by kernel_rfl) rfl)
  (on_stops (8-1) (by omega) Bs Bc s A n c m b F co K (fun z=>w.heap.size≤z) (by omega) (by omega) (by omega) hco hn W0 HP.out HC.out HM.out) But.trans (fun X l o o' hl ho hc _=>(But.refl _ X).grown (grownBy_putObj' _ l o') (fun z e=>by cases e;exact .inl (by omega))) (Below.refl _ _) (fun _=>rfl)
  (fun pre W=>(∃ v,Blk W w.heap.size #[v] 182∧Rg 130 10 w W v pre.length ((vl pre).flatMap ptC))∧W0.heap.size≤W.heap.size)
  (fun _ _ _=>False)
  (fun st X Y row hs hg hr=>by obtain⟨⟨v,h1,h2⟩,h3⟩:=hs;exact⟨⟨v,rsp.blk_turn h1 hg (fun k e=>(hr k e).2),h2.turn (B:=W0.heap.size) (by omega) hg hr⟩,Nat.le_trans h3 hg.size⟩)
  (fun _ _ _ _ _ hs _ _=>hs)
  ⟨⟨_,HV.out,HB.out,World.ownsRow_nil _ _ _ _,own_none⟩,Nat.le_refl _⟩
  (fun x a' W=>∃ Bx,W0.heap.size≤Bx∧Blk W Bx (ptA x.1) 130∧a' = { tmps:=#[.slice none 0 0,.func (.func 120) #[] #[.pointer (some ⟨Bs,0,none⟩),.pointer (some ⟨Bc,0,none⟩)],.pointer (some ⟨w.heap.size,0,none⟩),undef,.slice none 0 0,.pointer (some ⟨Bx,0,none⟩),.func (.func 120) #[] #[.pointer (some ⟨Bs,0,none⟩),.pointer (some ⟨Bc,0,none⟩)],ptV x.1,undef,undef,undef,undef,undef],defers:=[] })
  (fun x a' st X Y row hs hg hr=>by obtain⟨Bx,h1,h2,h3⟩:=hs;exact⟨Bx,h1,rsp.blk_turn h2 hg (fun k e=>(hr k e).2),h3⟩)
  ?assign ?body ?done ?stop
 case assign =>
  rintro lp pre x W K ⟨⟨v,h1,h2⟩,hz⟩ hK
  dsimp only[ptV,ptA]
  gi_wp2
  exact hK _ _ ((KeepsOthers.alloc _ _).from _) ((But.refl _ W).alloc _) ⟨⟨v,h1.alloc _,h2.no ((But.refl _ W).alloc _)⟩,by rw[size_alloc1];omega⟩ ⟨W.heap.size,hz,Blk.new W _ _,rfl⟩
 case body =>
  rintro lp pre x a' W hl ⟨r,hr⟩ ⟨⟨v,h1,h2⟩,hz⟩ ⟨Bx,hBx,hbx,rfl⟩ hlt
  have HSN:Hid ((vl (pre ++ [x])).flatMap ptC=(vl pre).flatMap ptC ++ ptC x.1∧(pre ++ [x]).length=pre.length+1):=hid ⟨by rw[vl_snoc,List.flatMap_append];simp,by simp⟩
  obtain⟨N,hN⟩:∃ N,pre.length=N:=⟨_,rfl⟩
  rw[hN] at h2 HSN hlt
  have hN9:N<24:=by have:=HOL.out;omega
  have k0:=h1.cell (o:=0) rfl
  have H1:=hid h1
  have H2:=hid h2
  have HZ:=hid hz
  have hsW:w.heap.size≤W.heap.size:=h2.but.size
  clear hN hlt hz h1 h2 hl hr
  obtain⟨⟨⟨x0,x1,x2,x3,x4⟩,xi,xk,xl,xd,xj⟩,hx⟩:=x
  dsimp only at HSN
  dsimp only[ptA] at hbx
  have d0:=hbx.cell (o:=0) rfl;have d1:=hbx.cell (o:=1) rfl;have d2:=hbx.cell (o:=2) rfl;have d3:=hbx.cell (o:=3) rfl;have d4:=hbx.cell (o:=4) rfl;have d5:=hbx.cell (o:=5) rfl;have d6:=hbx.cell (o:=6) rfl;have d7:=hbx.cell (o:=7) rfl;have d8:=hbx.cell (o:=8) rfl;have d9:=hbx.cell (o:=9) rfl
  clear hbx
  dsimp only[ptV]
  gi_wp2_with (gi_at_builtin;refine wpListIn_append_own_at _ rfl _ _ 182 rfl 0 130 ia _ 10 80 Tryz.underlying182 IA.out.1 IA.out.2.1 IA.out.2.2.1 IA.out.2.2.2 rfl (by omega) v N ((vl pre).flatMap ptC) rfl (owns_but H2.out.own ((But.refl No W).alloc _) (fun _ _ f=>f)) ⟨W.heap.size,0,none⟩ 1 1 (ptC ⟨⟨x0,x1,x2,x3,x4⟩,xi,xk,xl,xd,xj⟩) rfl rfl (World.news_of_block (fr:=(0,0)) (Blk.new W _ _)) (pt_one_cell _) (by unfold maxLen;omega) (by omega) (Nat.zero_le _) ?_;intro v5 w5 hown5 hgrow5 hnil5 hat5;obtain⟨A5,c5,rfl⟩:=owns_slice hown5;have HR5:=hid ((H2.out.no ((But.refl No W).alloc _)).app hown5 hgrow5 hat5);have HBX5:=hid ((H1.out.alloc (.cells #[.int .i64 x0,.int .i64 x1,.int .i64 x2,.int .i64 x3,.bool x4,.int .i64 (xi:Int),.int .i64 (xk:Int),.bool xl,.int .i64 xd,.int .i64 xj] 130)).but ((But.refl (fun k=>v.ownBlock=some k) _).grown hgrow5 (fun k e=>.inl e)) (row_ne_blk H2.out.own H1.out (by decide)));have HG5:=hid hgrow5;have e0:=HBX5.out.cell (o:=0) rfl;have e1:=HBX5.out.frozen 0;clear hgrow5 hown5 hat5 hnil5)
  have hbx6:=HBX5.out.set 0 (.slice A5 (N+1) c5)
  have hne:(Value.slice A5 (N+1) c5).ownBlock≠some w.heap.size:=row_ne_blk HR5.out.own HBX5.out (by decide)
  have hb6:But (Just w.heap.size) w5 (w5.setCell ⟨w.heap.size,0,none⟩ (.slice A5 (N+1) c5)):=(But.refl (Just w.heap.size) w5).setCell (p:=⟨w.heap.size,0,none⟩) rfl _
  have hb7:But No w (w5.setCell ⟨w.heap.size,0,none⟩ (.slice A5 (N+1) c5)):=But.andThen' HR5.out.but hb6 (fun z _ hz=>by rw[show z=w.heap.size from hz];omega)
  have hrow:=owns_but H2.out.own ((But.refl No W).alloc (.cells #[.int .i64 x0,.int .i64 x1,.int .i64 x2,.int .i64 x3,.bool x4,.int .i64 (xi:Int),.int .i64 (xk:Int),.bool xl,.int .i64 xd,.int .i64 xj] 130)) (fun _ _ f=>f)
  refine⟨(((KeepsOthers.alloc W _).trans (KeepsOthers.of_grownBy HG5.out (fun k o e h=>row_is hrow k o e h))).trans (KeepsOthers.setCell _ _ _)).from _,(((But.refl _ W).alloc _).grown HG5.out (fun k e=>.inl (H2.out.new k e))).setCell (p:=⟨w.heap.size,0,none⟩) (Nat.le_refl _) _,⟨_,hbx6,?_⟩,?_⟩
  ·rw[HSN.out.1,HSN.out.2]
   exact HR5.out.but2 hb6 hb7 (fun k e f=>hne (by rw[e,show k=w.heap.size from f]))
  ·have h1:=HG5.out.size;have h2:=HZ.out;rw[size_alloc1] at h1;simp;omega
 case done =>
  rintro D ys W hD rfl ⟨⟨v,h1,h2⟩,_⟩ hK
  rw[vl_all] at h2
  have hl:(onN F co n).attach.length=(onN F co n).length:=by simp
  have k0:=h1.cell (o:=0) rfl
  have hR:=h2.turn (B:=W0.heap.size) (by omega) (grownBy_putObj' _ D (.deferred none)) (fun r e=>by cases e;exact⟨hD,_,hK,rfl⟩)
  have HR:=hid hR
  have HK:=hid hK
  clear h1 h2 hR hK
  gi_wp2
  refine⟨by simp,.inl ⟨_,_,rfl,run_takeDeferred HK.out,?_⟩⟩
  exact⟨v,by simp[results,Tryz.results157,go_sem],v,rfl,by rw[←hl];exact HR.out⟩
 case stop =>
  rintro D c' pre W hD hp h
  exact h.elim
set_option maxRecDepth 100000 in
set_option maxHeartbeats 8000000 in
theorem collect_any {w:World} {s:Sys} {A:Option Addr} {n c m b K Bs Bc:Nat} {F:Int→Int→Option Pt} (co:Int) (hco:inR co) (hn:n≤24) (hp:Blk w Bs (lyA s A n c m b) 123) (hb:Blk w Bc #[.int .i64 co] 3) (hm:MP w m K F) :
  Calls Tryz.prog 134 #[.func (.func 120) #[] #[.pointer (some ⟨Bs,0,none⟩),.pointer (some ⟨Bc,0,none⟩)]] w fun e w'=>∃ v,e=.returned v∧Rg 130 10 w w' v (onN F co n).length ((onN F co n).flatMap ptC):=by
 have HA:=hid (append_any (s:=s) (A:=A) (c:=c) (b:=b) co hco hn hp hb hm)
 clear hp hb hm
 go_enter Tryz.func134,Tryz.ntmps134
 go_wp2_with (go_at_call 157;refine HA.out.mono ?_;rintro e w1 ⟨v,rfl,hr⟩)
 go_ret
 exact⟨v,rfl,hr⟩
end Go.Proofs.YtikcigjbhohboaaGreat.pln
end
section
namespace Go.Proofs.YtikcigjbhohboaaGreat.pln
open Go.Lib (hid)
open Go.ChangeShapes Go.WideShapes Go.ChangeAt Go.RowKit Go.Deep Go.Shelf val ter Go.Sort
attribute [local go_sem] Oper.semAt_some
structure Og (e tS:TypeId) (sz:Nat) (W0:World) (g:Nat) (v:Value) (n:Nat) (cs:List Value) (W:World):Prop where
 but:But (Just g) W0 W
 blk:Blk W g #[v] tS
 own:W.ownsRow 0 e sz v n cs
 new:∀ k,v.ownBlock=some k→W0.heap.size≤k
section
variable {e tS:TypeId} {sz g n:Nat} {W0 W W':World} {v:Value} {cs:List Value}
theorem Og.no (h:Og e tS sz W0 g v n cs W) (hb:But No W W'):Og e tS sz W0 g v n cs W':=⟨h.but.trans hb.no,h.blk.but hb (fun f=>f),owns_but h.own hb (fun _ _ f=>f),h.new⟩
theorem Og.turn (h:Og e tS sz W0 g v n cs W) {row:Option Nat} (hg:W.grownBy W' row) (hr:∀ r,row=some r→W0.heap.size≤r∧∃ o:Obj,W.heap[r]? = some o∧o.isCells=false):Og e tS sz W0 g v n cs W':=by
 refine⟨h.but.grown hg (fun k e=>.inr (hr k e).1),rsp.blk_turn h.blk hg (fun k e=>(hr k e).2),?_,h.new⟩
 obtain⟨h1,h2⟩:=h.own
 refine⟨h1,?_⟩
 rcases h2 with h2 | ⟨g,cap,cur,hv,hg0,hh,hc⟩
 ·exact .inl h2
 ·exact .inr ⟨g,cap,cur,hv,hg0,rsp.blk_turn (show Blk W g cur e from hh) hg (fun k e=>(hr k e).2),hc⟩
theorem Og.push (h:Og e tS sz W0 g v n cs W) (hg0:g<W0.heap.size) {W1 w5:World} {v5:Value} {n5:Nat} {cs5:List Value} (h1:But No W W1) (ho:w5.ownsRow 0 e sz v5 n5 cs5) (hg:W1.grownBy w5 v.ownBlock) (hat:v5.ownBlock=v.ownBlock∨v5.ownBlock=some W1.heap.size) :
  Og e tS sz W0 g v5 n5 cs5 (w5.setCell ⟨g,0,none⟩ v5)∧KeepsOthers W (w5.setCell ⟨g,0,none⟩ v5)∧But (fun z=>z=g∨W0.heap.size≤z) W (w5.setCell ⟨g,0,none⟩ v5):=by
 have h2:=h.no h1
 have hs:=h2.but.size
 have hnew:∀ k,v5.ownBlock=some k→W0.heap.size≤k:=fun k e=>by
  rcases hat with f | f
  ·exact h.new k (by rw[←f];exact e)
  ·rw[f] at e;cases e;exact hs
 have hn0:v.ownBlock≠some g:=fun f=>by have:=h.new g f;omega
 refine⟨⟨(h2.but.grown hg (fun k e=>.inr (h.new k e))).setCell (p:=⟨g,0,none⟩) rfl _,?_,?_,hnew⟩,((rsp.keeps_but h1).trans (KeepsOthers.of_grownBy hg (fun k o e f=>row_is h2.own k o e f))).trans (KeepsOthers.setCell _ _ _),?_⟩
 ·have hb:Blk w5 g #[v] tS:=h2.blk.but ((But.refl (fun k=>v.ownBlock=some k) W1).grown hg (fun k e=>.inl e)) hn0
  exact hb.set 0 v5
 ·exact owns_but ho ((But.refl (Just g) w5).setCell (p:=⟨g,0,none⟩) rfl _) (fun k e f=>by have:=hnew k e;rw[show k=g from f] at this;omega)
 ·exact(((But.refl (fun z=>z=g∨W0.heap.size≤z) W).trans h1.no).grown hg (fun k e=>.inl (.inr (h.new k e)))).setCell (p:=⟨g,0,none⟩) (.inl rfl) _
theorem Og.box (h:Og e tS sz W0 g v n cs W) (hg0:g<W0.heap.size) {W1 w5:World} (h1:But No W W1) (hg:W1.grownBy w5 v.ownBlock):Blk w5 g #[v] tS :=
 (h.no h1).blk.but ((But.refl (fun k=>v.ownBlock=some k) W1).grown hg (fun k e=>.inl e)) (fun f=>by have:=h.new g f;omega)
theorem Og.ne (h:Og e tS sz W0 g v n cs W) {k:Nat} (hk:k<W0.heap.size):v.ownBlock≠some k:=fun f=>by have:=h.new k f;omega
end
def ntL (F:Int→Int→Option Pt) (co:Int) (n:Nat):List Pt:=(onN F co n).filter (fun x=>!x.p.ti)
def nt (l:List Pt):List Pt:=l.filter (fun x=>!x.p.ti)
def RkS (W0:World) (g:Nat) (l:List Pt) (k:Nat) (W:World):Prop:=(∃ v,Og 130 182 10 W0 g v (nt l).length ((nt l).flatMap ptC) W)∧(nt l).length≤k
theorem nt_snoc (l:List Pt) (x:Pt):nt (l ++ [x])=nt l ++ (if x.p.ti=true then [] else [x]):=by
 unfold nt
 rw[List.filter_append]
 cases h:x.p.ti <;> simp[h]
theorem nt_len (l:List Pt):(nt l).length≤l.length:=List.length_filter_le _ _
def spP (x:Pt) (p:Int):Pt:={ x with p:={ x.p with pr:=p } }
def rkT (F:Int→Int→Option Pt) (l:List Pt):Nat→Int→Int→Option Pt
 | 0=>F
 | q+1=>upF (rkT F l q) (l.getD q pt0).p.co ((l.getD q pt0).i:Int) (spP (l.getD q pt0) ((q:Int)+1))
theorem onN_lt {F:Int→Int→Option Pt} {co:Int} {N:Nat} (hF:Fok N F):∀ n,∀ x ∈ onN F co n,x.i<n:=fun n x hx=>by
 obtain⟨i,hi,e⟩:=onN_mem hx
 have:=(hF.at_ _ _ _ e).2.1
 omega
theorem onN_tasks {F:Int→Int→Option Pt} {co:Int} {N:Nat} (hF:Fok N F):∀ n,(onN F co n).Pairwise fun x y=>x.i<y.i
 | 0=>List.Pairwise.nil
 | n+1=>by
  rw[onN]
  cases h:F co (n:Int)with
  | none=>simpa using onN_tasks hF n
  | some x =>
   refine List.pairwise_append.2 ⟨onN_tasks hF n,by simp,fun a ha y hy=>?_⟩
   have h1:=onN_lt hF n a ha
   have h2:=(hF.at_ _ _ _ h).2.1
   simp at hy
   subst hy
   omega
abbrev PR (q g m:Nat) (co bu de pr:Int) (ti:Bool) (i k:Nat) (la:Bool) (dn ji:Int) (W:World):Prop:=W.cell? ⟨q,9,none⟩=some (.map (some m))∧W.cell? ⟨g,0,none⟩=some (.int .i64 co)∧W.cell? ⟨g,1,none⟩=some (.int .i64 bu)∧W.cell? ⟨g,2,none⟩=some (.int .i64 de)∧W.cell? ⟨g,3,none⟩=some (.int .i64 pr)∧W.cell? ⟨g,4,none⟩=some (.bool ti)∧W.cell? ⟨g,5,none⟩=some (.int .i64 (i:Int))∧W.cell? ⟨g,6,none⟩=some (.int .i64 (k:Int))∧W.cell? ⟨g,7,none⟩=some (.bool la)∧W.cell? ⟨g,8,none⟩=some (.int .i64 dn)∧W.cell? ⟨g,9,none⟩=some (.int .i64 ji)
theorem PR.butS {q g m:Nat} {co bu de pr:Int} {ti:Bool} {i k:Nat} {la:Bool} {dn ji:Int} {W W':World} {S:Nat→Prop} (h:PR q g m co bu de pr ti i k la dn ji W) (hb:But S W W') (hq:¬S q) (hr:¬S g):PR q g m co bu de pr ti i k la dn ji W' :=
 ⟨cell_butS h.1 hb hq,cell_butS h.2.1 hb hr,cell_butS h.2.2.1 hb hr,cell_butS h.2.2.2.1 hb hr,cell_butS h.2.2.2.2.1 hb hr,cell_butS h.2.2.2.2.2.1 hb hr,cell_butS h.2.2.2.2.2.2.1 hb hr,cell_butS h.2.2.2.2.2.2.2.1 hb hr,cell_butS h.2.2.2.2.2.2.2.2.1 hb hr,cell_butS h.2.2.2.2.2.2.2.2.2.1 hb hr,cell_butS h.2.2.2.2.2.2.2.2.2.2 hb hr⟩
theorem pr_of {q g m:Nat} {W:World} {x:Pt} {s:Sys} {A:Option Addr} {n c b:Nat} {e e':TypeId} (h1:Blk W q (lyA s A n c m b) e) (h2:Blk W g (ptA x) e'):PR q g m x.p.co x.p.bu x.p.de x.p.pr x.p.ti x.i x.k x.la x.dn x.ji W :=
 ⟨h1.cell (o:=9) rfl,h2.cell (o:=0) rfl,h2.cell (o:=1) rfl,h2.cell (o:=2) rfl,h2.cell (o:=3) rfl,h2.cell (o:=4) rfl,h2.cell (o:=5) rfl,h2.cell (o:=6) rfl,h2.cell (o:=7) rfl,h2.cell (o:=8) rfl,h2.cell (o:=9) rfl⟩
theorem rkT_snoc {F:Int→Int→Option Pt} {l:List Pt} {q:Nat} {x:Pt} (h:l[q]? = some x):rkT F l (q+1)=upF (rkT F l q) x.p.co (x.i:Int) (spP x ((q:Int)+1)):=by
 rw[rkT]
 simp[List.getD,h]
set_option maxRecDepth 100000 in
set_option maxHeartbeats 8000000 in
theorem rank_any {w0 w:World} {s:Sys} {A:Option Addr} {n c m b K:Nat} {F:Int→Int→Option Pt} {f:Nat→Int} (h:LY w0 w s A n c m b K F f) (hF:Fok n F) (hn:n≤24) (hK:K≤900) (co:Int) (hco:inR co) :
  Calls Tryz.prog 97 #[lyV s A n c m b,.int .i64 co] w fun e w'=>(∃ v,e=.returned v)∧(∃ l':List Pt,l'.Perm (ntL F co n)∧l'.Pairwise ltp∧LY w0 w' s A n c m b (K+l'.length) (rkT F l' l'.length) f)∧But (Just m) w w':=by
 have CO:Hid (∀ W,Calls Tryz.prog 102 #[lyV s A n c m b,.int .i64 co] W fun e w'=>e=.returned (.func (.func 120) #[] #[.pointer (some ⟨W.heap.size,0,none⟩),.pointer (some ⟨W.heap.size+1,0,none⟩)])∧w'=(W.alloc (.cells (lyA s A n c m b) 123)).alloc (.cells #[.int .i64 co] 3)):=hid (fun W=>on_any s A n c m b co W)
 have HY:=hid h
 have HF:=hid hF
 have HMP:=hid h.map
 have hml:=h.map.lt
 have HOL:=hid (onN_len (F:=F) (co:=co) n)
 obtain⟨ia,hi0,hz0,hz1,hz2⟩:=info_parts infoPt
 have IA:Hid (Tryz.prog.info? 130=some ia∧ia.zero=some (ptV pt0)∧ia.size=10∧ia.bytes=80):=⟨hi0,hz0,hz1,hz2⟩
 clear h hF hi0 hz0 hz1 hz2
 dsimp only[lyV,lyA] at CO ⊢
 refine(callsIn_wide (n:=8)).1 ?_
 refine callsIn_of_wp_marks Tryz.func97 rfl trivial ?_ rfl
 simp only[Tryz.ntmps97,List.size_toArray,List.length_cons,List.length_nil,Nat.reduceAdd,Nat.reduceSub,Array.replicate_succ,Array.replicate_zero,List.push_toArray,List.append_toArray,List.nil_append,List.cons_append]
 gi_wp2_with (refine⟨trivial,?_⟩;gi_at_call 102;refine(callsIn_wide.2 (CO.out _)).mono ?_;rintro e w1 ⟨rfl,rfl⟩)
 have HW:Hid (∀ W1 W2 W3 W4:World,W1=w.alloc (.cells #[.int .i64 s.co,.int .i64 s.po,.int .i64 s.pr,.int .i64 s.re,.int .i64 s.sw,.int .i64 s.fi,.int .i64 s.la,.int .i64 s.rs,.slice A n c,.map (some m),.slice (some ⟨b,0,none⟩) n n] 123)→W2=W1.alloc (.cells #[.slice none 0 0] 182)→W3=W2.alloc (.cells #[.int .i64 s.co,.int .i64 s.po,.int .i64 s.pr,.int .i64 s.re,.int .i64 s.sw,.int .i64 s.fi,.int .i64 s.la,.int .i64 s.rs,.slice A n c,.map (some m),.slice (some ⟨b,0,none⟩) n n] 123)→W4=W3.alloc (.cells #[.int .i64 co] 3)→But No w W4∧W4.heap.size=w.heap.size+4∧Blk W4 w.heap.size #[.int .i64 s.co,.int .i64 s.po,.int .i64 s.pr,.int .i64 s.re,.int .i64 s.sw,.int .i64 s.fi,.int .i64 s.la,.int .i64 s.rs,.slice A n c,.map (some m),.slice (some ⟨b,0,none⟩) n n] 123∧Blk W4 (w.heap.size+1) #[.slice none 0 0] 182∧Blk W4 (w.heap.size+1+1) #[.int .i64 s.co,.int .i64 s.po,.int .i64 s.pr,.int .i64 s.re,.int .i64 s.sw,.int .i64 s.fi,.int .i64 s.la,.int .i64 s.rs,.slice A n c,.map (some m),.slice (some ⟨b,0,none⟩) n n] 123∧Blk W4 (w.heap.size+1+1+1) #[.int .i64 co] 3):=hid (fun W1 W2 W3 W4 e1 e2 e3 e4=>by
  have s1:W1.heap.size=w.heap.size+1:=by rw[e1];simp
  have s2:W2.heap.size=w.heap.size+1+1:=by rw[e2,size_alloc1,s1]
  have s3:W3.heap.size=w.heap.size+1+1+1:=by rw[e3,size_alloc1,s2]
  have b1:But No w W1:=by rw[e1];exact(But.refl No w).alloc _
  have b2:But No W1 W2:=by rw[e2];exact(But.refl No W1).alloc _
  have b3:But No W2 W3:=by rw[e3];exact(But.refl No W2).alloc _
  have b4:But No W3 W4:=by rw[e4];exact(But.refl No W3).alloc _
  have k1:Blk W1 w.heap.size #[.int .i64 s.co,.int .i64 s.po,.int .i64 s.pr,.int .i64 s.re,.int .i64 s.sw,.int .i64 s.fi,.int .i64 s.la,.int .i64 s.rs,.slice A n c,.map (some m),.slice (some ⟨b,0,none⟩) n n] 123:=by rw[e1];exact Blk.new w _ _
  have k2:Blk W2 (w.heap.size+1) #[.slice none 0 0] 182:=by have:=Blk.new W1 #[.slice none 0 0] 182;rw[←e2,s1] at this;exact this
  have k3:Blk W3 (w.heap.size+1+1) #[.int .i64 s.co,.int .i64 s.po,.int .i64 s.pr,.int .i64 s.re,.int .i64 s.sw,.int .i64 s.fi,.int .i64 s.la,.int .i64 s.rs,.slice A n c,.map (some m),.slice (some ⟨b,0,none⟩) n n] 123:=by have:=Blk.new W2 #[.int .i64 s.co,.int .i64 s.po,.int .i64 s.pr,.int .i64 s.re,.int .i64 s.sw,.int .i64 s.fi,.int .i64 s.la,.int .i64 s.rs,.slice A n c,.map (some m),.slice (some ⟨b,0,none⟩) n n] 123;rw[←e3,s2] at this;exact this
  have k4:Blk W4 (w.heap.size+1+1+1) #[.int .i64 co] 3:=by have:=Blk.new W3 #[.int .i64 co] 3;rw[←e4,s3] at this;exact this
  exact⟨((b1.trans b2).trans b3).trans b4,by rw[e4,size_alloc1,s3],((k1.but b2 (fun f=>f)).but b3 (fun f=>f)).but b4 (fun f=>f),(k2.but b3 (fun f=>f)).but b4 (fun f=>f),k3.but b4 (fun f=>f),k4⟩)
 obtain⟨hB0,hs0,hk1,hk2,hk3,hk4⟩:=HW.out _ _ _ _ rfl rfl rfl rfl
 generalize (((w.alloc (.cells #[.int .i64 s.co,.int .i64 s.po,.int .i64 s.pr,.int .i64 s.re,.int .i64 s.sw,.int .i64 s.fi,.int .i64 s.la,.int .i64 s.rs,.slice A n c,.map (some m),.slice (some ⟨b,0,none⟩) n n] 123)).alloc (.cells #[.slice none 0 0] 182)).alloc (.cells #[.int .i64 s.co,.int .i64 s.po,.int .i64 s.pr,.int .i64 s.re,.int .i64 s.sw,.int .i64 s.fi,.int .i64 s.la,.int .i64 s.rs,.slice A n c,.map (some m),.slice (some ⟨b,0,none⟩) n n] 123)).alloc (.cells #[.int .i64 co] 3)=W0 at hB0 hs0 hk1 hk2 hk3 hk4 ⊢
 have HB0:=hid hB0
 have BL0:=hid hk1
 have HLB:=hid hk3
 have HCB:=hid hk4
 have HM0:Hid (MP W0 m K F):=hid (HMP.out.no hB0)
 have HOG:Hid (Og 130 182 10 W0 (w.heap.size+1) (.slice none 0 0) 0 [] W0):=hid ⟨But.refl _ W0,hk2,World.ownsRow_nil _ _ _ _,own_none⟩
 clear HW hB0 hk1 hk2 hk3 hk4
 refine wpIn_rangeFunc_ownH rfl (by omega) (gf:=120) (lb:=#[.pointer (some ⟨w.heap.size+1+1,0,none⟩),.pointer (some ⟨w.heap.size+1+1+1,0,none⟩)]) rfl trivial (enters_of Tryz.func120 (by kernel_rfl) rfl)
  (on_stops (8-1) (by omega) (w.heap.size+1+1) (w.heap.size+1+1+1) s A n c m b F co K (fun z=>w.heap.size≤z∧z≠w.heap.size+1+1∧z≠w.heap.size+1+1+1) (by omega) (by omega) (by omega) hco hn W0 HLB.out HCB.out HM0.out) But.trans (fun X l o o' hl ho hc _=>(But.refl _ X).grown (grownBy_putObj' _ l o') (fun z e=>by cases e;exact .inl ⟨by omega,by omega,by omega⟩)) (Below.refl _ _) (fun _=>rfl)
  (fun pre W=>RkS W0 (w.heap.size+1) (vl pre) pre.length W)
  (fun _ _ _=>False)
  (fun st X Y row hs hg hr=>by obtain⟨⟨v,h1⟩,h2⟩:=hs;exact⟨⟨v,h1.turn hg hr⟩,h2⟩)
  (fun _ _ _ _ _ hs _ _=>hs)
  ⟨⟨_,HOG.out⟩,Nat.le_refl _⟩
  (fun x a' W=>∃ Bx,W0.heap.size≤Bx∧Blk W Bx (ptA x.1) 130∧a' = { tmps:=#[.agg #[.int .i64 s.co,.int .i64 s.po,.int .i64 s.pr,.int .i64 s.re,.int .i64 s.sw,.int .i64 s.fi,.int .i64 s.la,.int .i64 s.rs,.slice A n c,.map (some m),.slice (some ⟨b,0,none⟩) n n],.int .i64 co,.pointer (some ⟨w.heap.size,0,none⟩),undef,.pointer (some ⟨w.heap.size+1,0,none⟩),.pointer (some ⟨Bx,0,none⟩),undef,undef,.agg #[.int .i64 s.co,.int .i64 s.po,.int .i64 s.pr,.int .i64 s.re,.int .i64 s.sw,.int .i64 s.fi,.int .i64 s.la,.int .i64 s.rs,.slice A n c,.map (some m),.slice (some ⟨b,0,none⟩) n n],.int .i64 co,.func (.func 120) #[] #[.pointer (some ⟨w.heap.size+1+1,0,none⟩),.pointer (some ⟨w.heap.size+1+1+1,0,none⟩)],ptV x.1,undef,undef,undef,undef,undef,undef,undef,undef,undef,undef,undef,undef,undef,undef,undef,undef,undef,undef,undef,undef,undef,undef,undef,undef,undef,undef,undef],defers:=[] })
  (fun x a' st X Y row hs hg hr=>by obtain⟨Bx,h1,h2,h3⟩:=hs;exact⟨Bx,h1,rsp.blk_turn h2 hg (fun k e=>(hr k e).2),h3⟩)
  ?assign ?body ?done ?stop
 case assign =>
  rintro lp pre x W K ⟨⟨v,h1⟩,h2⟩ hK
  have hz:=h1.but.size
  dsimp only[ptV,ptA]
  gi_wp2
  exact hK _ _ ((KeepsOthers.alloc _ _).from _) ((But.refl _ W).alloc _) ⟨⟨v,h1.no ((But.refl _ W).alloc _)⟩,h2⟩ ⟨W.heap.size,hz,Blk.new W _ _,rfl⟩
 case body =>
  rintro lp pre x a' W hl ⟨r,hr⟩ ⟨⟨v,h1⟩,hlen⟩ ⟨Bx,hBx,hbx,rfl⟩ hlt
  obtain⟨Lx,hLx⟩:∃ Lx,nt (vl pre)=Lx:=⟨_,rfl⟩
  have HST:Hid (∀ W' v',Og 130 182 10 W0 (w.heap.size+1) v' (Lx ++ (if x.1.p.ti=true then [] else [x.1])).length ((Lx ++ (if x.1.p.ti=true then [] else [x.1])).flatMap ptC) W'→RkS W0 (w.heap.size+1) (vl (pre ++ [x])) (pre ++ [x]).length W'):=hid (fun W' v' ho=>by
   have e:nt (vl (pre ++ [x]))=Lx ++ (if x.1.p.ti=true then [] else [x.1]):=by rw[vl_snoc,nt_snoc,hLx]
   unfold RkS
   rw[e]
   refine⟨⟨v',ho⟩,?_⟩
   rw[hLx] at hlen
   have h1:(pre ++ [x]).length=pre.length+1:=by simp
   rw[h1,List.length_append]
   split <;> simp <;> omega)
  rw[hLx] at h1 hlen
  have hN9:Lx.length<24:=by have:=HOL.out;omega
  have k0:=h1.blk.cell (o:=0) rfl
  have H1:=hid h1
  have HLN:=hid hlen
  clear hLx hlt h1 hl hr hlen
  obtain⟨⟨⟨x0,x1,x2,x3,x4⟩,xi,xk,xl,xd,xj⟩,hx⟩:=x
  dsimp only at HST
  dsimp only[ptA] at hbx
  have d0:=hbx.cell (o:=0) rfl;have d1:=hbx.cell (o:=1) rfl;have d2:=hbx.cell (o:=2) rfl;have d3:=hbx.cell (o:=3) rfl;have d4:=hbx.cell (o:=4) rfl;have d5:=hbx.cell (o:=5) rfl;have d6:=hbx.cell (o:=6) rfl;have d7:=hbx.cell (o:=7) rfl;have d8:=hbx.cell (o:=8) rfl;have d9:=hbx.cell (o:=9) rfl
  clear hbx
  dsimp only[ptV]
  cases x4 with
  | true =>
   gi_wp2
   refine⟨(KeepsOthers.refl _).from _,But.refl _ W,?_⟩
   exact HST.out _ v (by simpa using H1.out)
  | false =>
   gi_wp2_with (gi_at_builtin;refine wpListIn_append_own_at _ rfl _ _ 182 rfl 0 130 ia _ 10 80 Tryz.underlying182 IA.out.1 IA.out.2.1 IA.out.2.2.1 IA.out.2.2.2 rfl (by omega) v Lx.length (Lx.flatMap ptC) rfl (H1.out.no ((But.refl No W).alloc _)).own ⟨W.heap.size,0,none⟩ 1 1 (ptC ⟨⟨x0,x1,x2,x3,false⟩,xi,xk,xl,xd,xj⟩) rfl rfl (World.news_of_block (fr:=(0,0)) (Blk.new W _ _)) (pt_one_cell _) (by unfold maxLen;omega) (by omega) (Nat.zero_le _) ?_;intro v5 w5 hown5 hgrow5 hnil5 hat5;obtain⟨A5,c5,rfl⟩:=owns_slice hown5;have HR5:=hid (H1.out.push (by omega) ((But.refl No W).alloc _) hown5 hgrow5 hat5);have hbx5:=H1.out.box (by omega) ((But.refl No W).alloc _) hgrow5;have e0:=hbx5.cell (o:=0) rfl;have e1:=hbx5.frozen 0;clear hbx5 hgrow5 hown5 hat5 hnil5)
   refine⟨HR5.out.2.1.from _,HR5.out.2.2.mono (fun z _ e=>by rcases e with e | e <;> omega),?_⟩
   exact HST.out _ _ (by simpa using HR5.out.1)
 case done =>
  rintro D ys W hD rfl ⟨⟨v,h1⟩,_⟩ hK
  rw[vl_all] at h1
  have hl24:(nt (onN F co n)).length≤24:=Nat.le_trans (nt_len _) (Nat.le_trans HOL.out hn)
  have CS:=hid (sort_any W h1.own hl24 ((onN_tasks HF.out n).filter _))
  have HMEM:Hid (∀ x ∈ nt (onN F co n),x.p.co=co∧x.i<n):=hid (fun x hx=>by
   obtain⟨i,_,e⟩:=onN_mem (List.mem_filter.1 hx).1
   exact⟨(HF.out.at_ _ _ _ e).1,(HF.out.at_ _ _ _ e).2.2⟩)
  have HNT:Hid (nt (onN F co n)=ntL F co n):=hid rfl
  obtain⟨A1,c1,hv,hLc, -, -⟩:=rpt_of h1.own (by omega)
  subst hv
  have k0:=h1.blk.cell (o:=0) rfl
  have HO:=hid h1
  have HK:=hid hK
  have HDW:=hid (hD)
  generalize nt (onN F co n)=NL at CS HMEM HNT HO k0 hl24 hLc
  obtain⟨L,hL⟩:∃ L,NL.length=L:=⟨_,rfl⟩
  rw[hL] at CS HO k0 hl24 hLc
  have HL:=hid hL
  clear h1 hK hD hL
  gi_wp2_with (refine⟨trivial,?_⟩;gi_at_call 115;refine(callsIn_wide.2 CS.out).mono ?_;rintro e w1 ⟨rfl,hb1,l',ho1,hp1,hs1⟩;have k1:=cell_butS k0 hb1 (HO.out.ne (k:=w.heap.size+1) (by omega));have HB1:=hid hb1;have HO1:=hid ho1;have HP1:=hid hp1;have HS1:=hid hs1;clear hb1 ho1 hp1 hs1 k0)
  have HL1:Hid (l'.length=L):=hid (HP1.out.length_eq.trans HL.out)
  have ho2:=HO1.out
  obtain⟨A2,c2,hv2,hLc2,hA2,hrp⟩:=rpt_of ho2 (by rw[HL1.out];omega)
  rw[HL1.out] at hv2 hLc2 hA2 hrp
  have hv3:A1=A2∧c1=c2:=by cases hv2;exact⟨rfl,rfl⟩
  obtain⟨rfl,rfl⟩:=hv3
  have HRP:=hid hrp
  have HA2:=hid hA2
  have hg1:w.heap.size+1<W0.heap.size:=by omega
  have HBW1:Hid (But No w w1):=hid ((HB0.out.andThen' HO.out.but (fun i _ e=>by rw[show i=_ from e];omega)).andThen' HB1.out (fun i _ e=>by have:=HO.out.new i e;omega))
  have HBL1:Hid (Blk w1 w.heap.size #[.int .i64 s.co,.int .i64 s.po,.int .i64 s.pr,.int .i64 s.re,.int .i64 s.sw,.int .i64 s.fi,.int .i64 s.la,.int .i64 s.rs,.slice A n c,.map (some m),.slice (some ⟨b,0,none⟩) n n] 123):=hid ((BL0.out.but HO.out.but (fun e=>by have e':w.heap.size=w.heap.size+1:=e;omega)).but HB1.out (HO.out.ne (k:=w.heap.size) (by omega)))
  have HM1:Hid (MP w1 m K F):=hid ((HM0.out.but HO.out.but (fun e=>by have e':m=w.heap.size+1:=e;omega)).but HB1.out (HO.out.ne (k:=m) (by omega)))
  have HK1:Hid (w1.heap[D]? = some (.deferred (some []))):=hid (by
   have hlt:D<W.heap.size:=(Array.getElem?_eq_some_iff.1 HK.out).1
   exact(HB1.out.block D hlt (fun e=>by have:=row_is HO.out.own D _ e HK.out;cases this)).trans HK.out)
  have hmw:m<w1.heap.size:=Nat.lt_of_lt_of_le hml HBW1.out.size
  have hww:w.heap.size<w1.heap.size:=Nat.lt_of_lt_of_le (by have:=HBL1.out.lt;omega) (Nat.le_refl _)
  clear hv2 hrp hA2 ho2 k1
  refine wpIn_wide.2 ?_
  go_loopw [24] (fun i wr=>∃ q:Nat,i=.int .i64 (q:Int)∧q≤L∧Hid (MP wr m (K+q) (rkT F l' q)∧But (Just m) w1 wr)) (fun i _=>L-(intOf i).toNat)
  case atStart=>exact⟨0,rfl,by omega,HM1.out,But.refl _ _⟩
  case round =>
   obtain⟨q,rfl,hq,HI⟩:=hrel
   have hq0:(0:Int)≤(q:Int):=Int.natCast_nonneg q
   by_cases hqn:q<L
   ·have hqn2:(q:Int)<(L:Int):=by omega
    have b3:decide ((q:Int)<(L:Int))=true:=by simp;omega
    obtain⟨y,hy⟩:∃ y,l'[q]? = some y:=⟨_,List.getElem?_eq_getElem (by rw[HL1.out];exact hqn)⟩
    obtain⟨hyc,hyi⟩:=HMEM.out y (HP1.out.mem_iff.1 (List.mem_of_getElem? hy))
    have HSN:=hid (rkT_snoc (F:=F) hy)
    obtain⟨bR,oR,hAR,hbl,hcl⟩:=HRP.out.at1 hy
    subst hAR
    obtain⟨hown,rfl⟩:=HA2.out bR oR rfl
    have hRW:W0.heap.size≤bR:=HO.out.new bR hown
    have hnb:bR≠m:=by omega
    have hcl2:=hcl.butS HI.out.2 hbl (fun e=>hnb e)
    obtain⟨c0,c1',c2,c3,c4,c5,c6,c7,c8,c9⟩:=hcl2
    rw[Nat.zero_add] at c0 c1' c2 c3 c4 c5 c6 c7 c8 c9
    have hbw:=HBL1.out.but HI.out.2 (fun e=>by have e':w.heap.size=m:=e;omega)
    have HBW:=hid hbw
    have hszr:w1.heap.size≤wr.heap.size:=HI.out.2.size
    have hiN:inR (y.i:Int):=by unfold inR;omega
    have hcN:inR y.p.co:=by rw[hyc];exact hco
    have CSQ:Hid (∀ W,Calls Tryz.prog 64 #[ptV (spP y ((q:Int)+1))] W fun e w'=>e=.returned (keyV y.p.co (y.i:Int))∧But No W w'):=hid (fun W=>seat_any (spP y ((q:Int)+1)) W)
    have HNB:Hid (But No wr (wr.alloc (.cells (ptA (spP y ((q:Int)+1))) 130))∧Blk (wr.alloc (.cells (ptA (spP y ((q:Int)+1))) 130)) wr.heap.size (ptA (spP y ((q:Int)+1))) 130):=hid ⟨(But.refl No wr).alloc _,Blk.new wr _ _⟩
    have HST:Hid (∀ W,But No wr W→∃ W',(Instr.mapUpdate 121 (.map (some m)) (keyV y.p.co (y.i:Int)) (ptV (spP y ((q:Int)+1)))).run Tryz.prog W=.ok () W'∧MP W' m (K+(q+1)) (rkT F l' (q+1))∧But (Just m) W W'):=hid (fun W hW=>by
     obtain⟨W',h1,h2,h3⟩:=(HI.out.1.no hW).store (by unfold maxLen;omega) hcN hiN (spP y ((q:Int)+1))
     exact⟨W',h1,by rw[HSN.out];exact h2,h3⟩)
    clear hcl hy hbl hbw hyc hyi hiN hcN
    obtain⟨⟨yc,yb,yd,yp,yt⟩,yi,yk,yl,yn,yj⟩:=y
    dsimp only[spP,ptV,ptA,keyV] at c0 c1' c2 c3 c4 c5 c6 c7 c8 c9 CSQ HNB HST
    go_upto_region 11 with fail
    obtain⟨hbx,hpx⟩:=HNB.out
    generalize wr.alloc (.cells #[.int .i64 yc,.int .i64 yb,.int .i64 yd,.int .i64 ((q:Int)+1),.bool yt,.int .i64 (yi:Int),.int .i64 (yk:Int),.bool yl,.int .i64 yn,.int .i64 yj] 130)=wx at hbx hpx ⊢
    have hlyx:=HBW.out.but hbx (fun f=>f)
    have hpc:PR w.heap.size wr.heap.size m yc yb yd ((q:Int)+1) yt yi yk yl yn yj wx:=pr_of (x:=⟨⟨yc,yb,yd,(q:Int)+1,yt⟩,yi,yk,yl,yn,yj⟩) hlyx hpx
    have HPC:=hid hpc
    have HBX:=hid hbx
    have hnm1:w.heap.size≠m:=by omega
    have hnm2:wr.heap.size≠m:=by omega
    clear hbx hpx hlyx c0 c1' c2 c3 c4 c5 c6 c7 c8 c9 HNB
    go_region_held3 (fun w'=>PR w.heap.size wr.heap.size m yc yb yd ((q:Int)+1) yt yi yk yl yn yj w') (first | assumption | exact hpc) ((go_at_call 64;(with_reducible refine(CSQ.out _).mono ?_);rintro e w3 ⟨rfl,h3⟩;have hb3:But No wx w3:=(But.refl No wx).drew.trans h3;have hc3:=HPC.out.butS hb3 (fun f=>f) (fun f=>f);obtain⟨w4,hrun,hmp,hbt⟩:=HST.out w3 (HBX.out.trans hb3);have hc4:PR w.heap.size wr.heap.size m yc yb yd ((q:Int)+1) yt yi yk yl yn yj w4:=hc3.butS hbt (fun e=>hnm1 e) (fun e=>hnm2 e);have HM4:=hid hmp;have HB4:=hid ((HBX.out.trans hb3).no.trans hbt);clear h3 hb3 hmp hbt))
    go_wp2_with fail
    refine⟨⟨q+1,rfl,by omega,HM4.out,HI.out.2.trans HB4.out⟩,?_⟩
    simp only[intOf]
    omega
   ·have hqe:q=L:=by omega
    subst hqe
    have b3:decide ((q:Int)<(q:Int))=false:=by simp
    have HI2:=HI
    go_wp2_with fail
    have hne:D≠m:=by have:=HDW.out;omega
    have hbp:But (fun z=>z=D) wr (wr.putObj D (.deferred none)):=(But.refl (fun z=>z=D) wr).grown (grownBy_putObj' _ D _) (fun k e=>.inl (by cases e;rfl))
    have hbf:But (Just m) w (wr.putObj D (.deferred none)):=(HBW1.out.no.trans HI.out.2).grown (grownBy_putObj' _ D (.deferred none)) (fun k e=>.inr (by cases e;have:=HDW.out;omega))
    have hkd:wr.heap[D]? = some (.deferred (some [])):=(HI.out.2.block D (Array.getElem?_eq_some_iff.1 HK1.out).1 (fun e=>hne e)).trans HK1.out
    refine⟨by simp,.inl ⟨_,_,rfl,run_takeDeferred hkd,?_⟩⟩
    refine⟨.tuple #[],by simp[results,Tryz.results97,go_sem],⟨_,rfl⟩,⟨l',by rw[←HNT.out];exact HP1.out,HS1.out,?_⟩,hbf⟩
    rw[HL1.out]
    have hy:=HY.out
    exact⟨hy.sys,hy.but.andThen' hbf (fun j _ e=>by rw[show j=m from e];exact hy.nm),HI.out.1.but hbp (fun e=>hne e.symm),hy.whr.but hbf (fun e=>hy.ne e),hy.nm,hy.nb,hy.fin⟩
 case stop =>
  rintro D c' pre W hD hp h
  exact h.elim
end Go.Proofs.YtikcigjbhohboaaGreat.pln
end
