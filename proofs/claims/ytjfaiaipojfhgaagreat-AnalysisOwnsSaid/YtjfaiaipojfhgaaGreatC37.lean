/- Part 37 of a proof: PaG. -/
import Derived.Maps.OwnIn
import Derived.Test.YtjfaiaipojfhgaaGreatC31
import Derived.Test.YtjfaiaipojfhgaaGreatC36
section
namespace Go.Proofs.YtjfaiaipojfhgaaGreat.pln
open Go.Lib (hid)
open Go.ChangeShapes Go.WideShapes Go.ChangeAt Go.RowKit Go.Deep Go.Shelf val ter Go.Sort
attribute [local go_sem] Oper.semAt_some
def Fx (fx:List (Nat × Array Value × TypeId)) (W:World):Prop:=∀ t ∈ fx,Blk W t.1 t.2.1 t.2.2
section
variable {fx:List (Nat × Array Value × TypeId)} {W W':World}
theorem Fx.but {S:Nat→Prop} (h:Fx fx W) (hb:But S W W') (hs:∀ t ∈ fx,¬S t.1):Fx fx W':=fun t ht=>(h t ht).but hb (hs t ht)
theorem Fx.no (h:Fx fx W) (hb:But No W W'):Fx fx W':=h.but hb (fun _ _ f=>f)
theorem Fx.turn (h:Fx fx W) {row:Option Nat} (hg:W.grownBy W' row) (hr:∀ r,row=some r→∃ o:Obj,W.heap[r]? = some o∧o.isCells=false):Fx fx W':=fun t ht=>rsp.blk_turn (h t ht) hg hr
theorem Fx.set (h:Fx fx W) {a:Addr} (ha:∀ t ∈ fx,t.1≠a.block) (v:Value):Fx fx (W.setCell a v):=fun t ht=>(h t ht).other (ha t ht) v
theorem Fx.nil : Fx [] W:=fun _ h=>by cases h
theorem Fx.cons {q:Nat} {cs:Array Value} {e:TypeId} (h0:Blk W q cs e) (h:Fx fx W):Fx ((q,cs,e) :: fx) W:=fun t ht=>by
 rcases List.mem_cons.1 ht with rfl | ht
 ·exact h0
 ·exact h t ht
end
theorem row_ne_blk {w:World} {v:Value} {e e':TypeId} {sz n b:Nat} {xs:List Value} {cur:Array Value} (h:w.ownsRow 0 e sz v n xs) (hb:Blk w b cur e') (he:e'≠e):v.ownBlock≠some b:=fun f=>by
 obtain⟨_,h2⟩:=h
 rcases h2 with⟨h2,_⟩ | ⟨g,cap,cur',hv,_,hh,_⟩
 ·rw[h2] at f;simp[Value.ownBlock] at f
 ·rw[hv] at f
  have:g=b:=by simpa [Value.ownBlock] using f
  subst this
  unfold Blk at hb
  rw[hh] at hb
  cases hb
  exact he rfl
theorem Rg.turn {e:TypeId} {sz:Nat} {w wr w2:World} {v:Value} {n B:Nat} {cs:List Value} (h:Rg e sz w wr v n cs) {row:Option Nat} (hB:w.heap.size≤B) (hg:wr.grownBy w2 row) (hr:∀ r,row=some r→B≤r∧∃ o:Obj,wr.heap[r]? = some o∧o.isCells=false):Rg e sz w w2 v n cs:=by
 refine⟨h.but.grown hg (fun k e=>.inr (Nat.le_trans hB (hr k e).1)),?_,h.new⟩
 obtain⟨h1,h2⟩:=h.own
 refine⟨h1,?_⟩
 rcases h2 with h2 | ⟨g,cap,cur,hv,hg0,hh,hc⟩
 ·exact .inl h2
 ·exact .inr ⟨g,cap,cur,hv,hg0,rsp.blk_turn (show Blk wr g cur e from hh) hg (fun k e=>(hr k e).2),hc⟩
theorem row_is {w:World} {v:Value} {e:TypeId} {sz n:Nat} {xs:List Value} (h:w.ownsRow 0 e sz v n xs) (j:Nat) (o:Obj) (hv:v.ownBlock=some j) (hj:w.heap[j]? = some o):o.isCells=true:=by
 obtain⟨_,h2⟩:=h
 rcases h2 with⟨h2,_⟩ | ⟨g,cap,cur',hv',_,hh,_⟩
 ·rw[h2] at hv;simp[Value.ownBlock] at hv
 ·rw[hv'] at hv
  have:g=j:=by simpa [Value.ownBlock] using hv
  subst this
  rw[hh] at hj
  cases hj
  rfl
set_option maxRecDepth 100000 in
set_option maxHeartbeats 8000000 in
theorem append_any {w:World} {s:Sys} {A:Option Addr} {n c m b K Bs Bc:Nat} {F:Int→Int→Option Pt} (co:Int) (hco:inR co) (hn:n≤24) (hp:Blk w Bs (lyA s A n c m b) 66) (hb:Blk w Bc #[.int .i64 co] 3) (hm:MP w m K F) :
  Calls Tryz.prog 101 #[.slice none 0 0,.func (.func 67) #[] #[.pointer (some ⟨Bs,0,none⟩),.pointer (some ⟨Bc,0,none⟩)]] w fun e w'=>∃ v,e=.returned v∧Rg 73 10 w w' v (onN F co n).length ((onN F co n).flatMap ptC):=by
 have hb1:But No w (w.alloc (.cells #[.slice none 0 0] 122)):=(But.refl No w).alloc _
 have HP:=hid (hp.but hb1 (fun f=>f))
 have HC:=hid (hb.but hb1 (fun f=>f))
 have HM:=hid (hm.no hb1)
 have HV:=hid (Blk.new w #[.slice none 0 0] 122)
 have HB:=hid hb1
 have hlp:=hp.lt
 have hlc:=hb.lt
 have hlm:=hm.lt
 have HOL:=hid (onN_len (F:=F) (co:=co) n)
 obtain⟨ia,hi0,hz0,hz1,hz2⟩:=info_parts infoPt
 have IA:Hid (Tryz.prog.info? 73=some ia∧ia.zero=some (ptV pt0)∧ia.size=10∧ia.bytes=80):=⟨hi0,hz0,hz1,hz2⟩
 have hsz:(w.alloc (.cells #[.slice none 0 0] 122)).heap.size=w.heap.size+1:=by simp
 clear hp hb hm hb1 hi0 hz0 hz1 hz2
 refine(callsIn_wide (n:=8)).1 ?_
 refine callsIn_of_wp_marks Tryz.func101 rfl trivial ?_ rfl
 simp only[Tryz.ntmps101,List.size_toArray,List.length_cons,List.length_nil,Nat.reduceAdd,Nat.reduceSub,Array.replicate_succ,Array.replicate_zero,List.push_toArray,List.append_toArray,List.nil_append,List.cons_append]
 gi_wp2
 generalize w.alloc (.cells #[.slice none 0 0] 122)=W0 at HP HC HM HV HB hsz ⊢
 refine wpIn_rangeFunc_ownH rfl (by omega) (gf:=67) (lb:=#[.pointer (some ⟨Bs,0,none⟩),.pointer (some ⟨Bc,0,none⟩)]) rfl trivial (enters_of Tryz.func67 (by kernel_rfl) rfl)
  (on_stops (8-1) (by omega) Bs Bc s A n c m b F co K (fun z=>w.heap.size≤z) (by omega) (by omega) (by omega) hco hn W0 HP.out HC.out HM.out) But.trans (fun X l o o' hl ho hc _=>(But.refl _ X).grown (grownBy_putObj' _ l o') (fun z e=>by cases e;exact .inl (by omega))) (Below.refl _ _) (fun _=>rfl)
  (fun pre W=>(∃ v,Blk W w.heap.size #[v] 122∧Rg 73 10 w W v pre.length ((vl pre).flatMap ptC))∧W0.heap.size≤W.heap.size)
  (fun _ _ _=>False)
  (fun st X Y row hs hg hr=>by obtain⟨⟨v,h1,h2⟩,h3⟩:=hs;exact⟨⟨v,rsp.blk_turn h1 hg (fun k e=>(hr k e).2),h2.turn (B:=W0.heap.size) (by omega) hg hr⟩,Nat.le_trans h3 hg.size⟩)
  (fun _ _ _ _ _ hs _ _=>hs)
  ⟨⟨_,HV.out,HB.out,World.ownsRow_nil _ _ _ _,own_none⟩,Nat.le_refl _⟩
  (fun x a' W=>∃ Bx,W0.heap.size≤Bx∧Blk W Bx (ptA x.1) 73∧a' = { tmps:=#[.slice none 0 0,.func (.func 67) #[] #[.pointer (some ⟨Bs,0,none⟩),.pointer (some ⟨Bc,0,none⟩)],.pointer (some ⟨w.heap.size,0,none⟩),undef,.slice none 0 0,.pointer (some ⟨Bx,0,none⟩),.func (.func 67) #[] #[.pointer (some ⟨Bs,0,none⟩),.pointer (some ⟨Bc,0,none⟩)],ptV x.1,undef,undef,undef,undef,undef],defers:=[] })
  (fun x a' st X Y row hs hg hr=>by obtain⟨Bx,h1,h2,h3⟩:=hs;exact⟨Bx,h1,rsp.blk_turn h2 hg (fun k e=>(hr k e).2),h3⟩)
  ?assign ?body ?done ?stop
 case assign =>
  rintro lp pre x W K ⟨⟨v,h1,h2⟩,hz⟩ hK
  dsimp only[ptV,ptA]
  gi_wp2
  exact hK _ _ ((KeepsOthers.alloc _ _).from _) ((But.refl _ W).alloc _) ⟨⟨v,h1.alloc _,h2.no ((But.refl _ W).alloc _)⟩,by rw[size_alloc1];omega⟩ ⟨W.heap.size,hz,Blk.new W _ _,rfl⟩
 case body =>
  rintro lp pre x a' W hl ⟨r,hr⟩ ⟨⟨v,h1,h2⟩,hz⟩ ⟨Bx,hBx,hbx,rfl⟩ hlt
  have HSN:Hid ((vl (pre ++ [x])).flatMap ptC=(vl pre).flatMap ptC ++ ptC x.1∧(pre ++ [x]).length=pre.length+1):=hid ⟨by rw[vl_snoc,List.flatMap_append];simp,by simp⟩
  obtain⟨N,hN⟩:∃ N,pre.length=N:=⟨_,rfl⟩
  rw[hN] at h2 HSN hlt
  have hN9:N<24:=by have:=HOL.out;omega
  have k0:=h1.cell (o:=0) rfl
  have H1:=hid h1
  have H2:=hid h2
  have HZ:=hid hz
  have hsW:w.heap.size≤W.heap.size:=h2.but.size
  clear hN hlt hz h1 h2 hl hr
  obtain⟨⟨⟨x0,x1,x2,x3,x4⟩,xi,xk,xl,xd,xj⟩,hx⟩:=x
  dsimp only at HSN
  dsimp only[ptA] at hbx
  have d0:=hbx.cell (o:=0) rfl;have d1:=hbx.cell (o:=1) rfl;have d2:=hbx.cell (o:=2) rfl;have d3:=hbx.cell (o:=3) rfl;have d4:=hbx.cell (o:=4) rfl;have d5:=hbx.cell (o:=5) rfl;have d6:=hbx.cell (o:=6) rfl;have d7:=hbx.cell (o:=7) rfl;have d8:=hbx.cell (o:=8) rfl;have d9:=hbx.cell (o:=9) rfl
  clear hbx
  dsimp only[ptV]
  gi_wp2_with (gi_at_builtin;refine wpListIn_append_own_at _ rfl _ _ 122 rfl 0 73 ia _ 10 80 Tryz.underlying122 IA.out.1 IA.out.2.1 IA.out.2.2.1 IA.out.2.2.2 rfl (by omega) v N ((vl pre).flatMap ptC) rfl (owns_but H2.out.own ((But.refl No W).alloc _) (fun _ _ f=>f)) ⟨W.heap.size,0,none⟩ 1 1 (ptC ⟨⟨x0,x1,x2,x3,x4⟩,xi,xk,xl,xd,xj⟩) rfl rfl (World.news_of_block (fr:=(0,0)) (Blk.new W _ _)) (pt_one_cell _) (by unfold maxLen;omega) (by omega) (Nat.zero_le _) ?_;intro v5 w5 hown5 hgrow5 hnil5 hat5;obtain⟨A5,c5,rfl⟩:=owns_slice hown5;have HR5:=hid ((H2.out.no ((But.refl No W).alloc _)).app hown5 hgrow5 hat5);have HBX5:=hid ((H1.out.alloc (.cells #[.int .i64 x0,.int .i64 x1,.int .i64 x2,.int .i64 x3,.bool x4,.int .i64 (xi:Int),.int .i64 (xk:Int),.bool xl,.int .i64 xd,.int .i64 xj] 73)).but ((But.refl (fun k=>v.ownBlock=some k) _).grown hgrow5 (fun k e=>.inl e)) (row_ne_blk H2.out.own H1.out (by decide)));have HG5:=hid hgrow5;have e0:=HBX5.out.cell (o:=0) rfl;have e1:=HBX5.out.frozen 0;clear hgrow5 hown5 hat5 hnil5)
  have hbx6:=HBX5.out.set 0 (.slice A5 (N+1) c5)
  have hne:(Value.slice A5 (N+1) c5).ownBlock≠some w.heap.size:=row_ne_blk HR5.out.own HBX5.out (by decide)
  have hb6:But (Just w.heap.size) w5 (w5.setCell ⟨w.heap.size,0,none⟩ (.slice A5 (N+1) c5)):=(But.refl (Just w.heap.size) w5).setCell (p:=⟨w.heap.size,0,none⟩) rfl _
  have hb7:But No w (w5.setCell ⟨w.heap.size,0,none⟩ (.slice A5 (N+1) c5)):=But.andThen' HR5.out.but hb6 (fun z _ hz=>by rw[show z=w.heap.size from hz];omega)
  have hrow:=owns_but H2.out.own ((But.refl No W).alloc (.cells #[.int .i64 x0,.int .i64 x1,.int .i64 x2,.int .i64 x3,.bool x4,.int .i64 (xi:Int),.int .i64 (xk:Int),.bool xl,.int .i64 xd,.int .i64 xj] 73)) (fun _ _ f=>f)
  refine⟨(((KeepsOthers.alloc W _).trans (KeepsOthers.of_grownBy HG5.out (fun k o e h=>row_is hrow k o e h))).trans (KeepsOthers.setCell _ _ _)).from _,(((But.refl _ W).alloc _).grown HG5.out (fun k e=>.inl (H2.out.new k e))).setCell (p:=⟨w.heap.size,0,none⟩) (Nat.le_refl _) _,⟨_,hbx6,?_⟩,?_⟩
  ·rw[HSN.out.1,HSN.out.2]
   exact HR5.out.but2 hb6 hb7 (fun k e f=>hne (by rw[e,show k=w.heap.size from f]))
  ·have h1:=HG5.out.size;have h2:=HZ.out;rw[size_alloc1] at h1;simp;omega
 case done =>
  rintro D ys W hD rfl ⟨⟨v,h1,h2⟩,_⟩ hK
  rw[vl_all] at h2
  have hl:(onN F co n).attach.length=(onN F co n).length:=by simp
  have k0:=h1.cell (o:=0) rfl
  have hR:=h2.turn (B:=W0.heap.size) (by omega) (grownBy_putObj' _ D (.deferred none)) (fun r e=>by cases e;exact⟨hD,_,hK,rfl⟩)
  have HR:=hid hR
  have HK:=hid hK
  clear h1 h2 hR hK
  gi_wp2
  refine⟨by simp,.inl ⟨_,_,rfl,run_takeDeferred HK.out,?_⟩⟩
  exact⟨v,by simp[results,Tryz.results101,go_sem],v,rfl,by rw[←hl];exact HR.out⟩
 case stop =>
  rintro D c' pre W hD hp h
  exact h.elim
set_option maxRecDepth 100000 in
set_option maxHeartbeats 8000000 in
theorem collect_any {w:World} {s:Sys} {A:Option Addr} {n c m b K Bs Bc:Nat} {F:Int→Int→Option Pt} (co:Int) (hco:inR co) (hn:n≤24) (hp:Blk w Bs (lyA s A n c m b) 66) (hb:Blk w Bc #[.int .i64 co] 3) (hm:MP w m K F) :
  Calls Tryz.prog 74 #[.func (.func 67) #[] #[.pointer (some ⟨Bs,0,none⟩),.pointer (some ⟨Bc,0,none⟩)]] w fun e w'=>∃ v,e=.returned v∧Rg 73 10 w w' v (onN F co n).length ((onN F co n).flatMap ptC):=by
 have HA:=hid (append_any (s:=s) (A:=A) (c:=c) (b:=b) co hco hn hp hb hm)
 clear hp hb hm
 go_enter Tryz.func74,Tryz.ntmps74
 go_wp2_with (go_at_call 101;refine HA.out.mono ?_;rintro e w1 ⟨v,rfl,hr⟩)
 go_ret
 exact⟨v,rfl,hr⟩
end Go.Proofs.YtjfaiaipojfhgaaGreat.pln
end
