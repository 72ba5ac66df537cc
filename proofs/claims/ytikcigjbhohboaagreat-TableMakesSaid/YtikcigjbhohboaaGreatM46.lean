/- Part 46 of a proof: PeE PeF PeG. -/
import Derived.Test.YtikcigjbhohboaaGreatM21
import Derived.Test.YtikcigjbhohboaaGreatM45
section
namespace Go.Proofs.YtikcigjbhohboaaGreat.pln
open Go.Lib (hid)
set_option linter.unusedVariables false
set_option linter.unusedSimpArgs false
open Go.ChangeShapes Go.WideShapes Go.ChangeAt Go.RowKit Go.Deep val
set_option maxRecDepth 100000 in
set_option maxHeartbeats 8000000 in
theorem add_any {w W:World} {s:Sys} {A:Option Addr} {n c i K:Nat} {d:Ad} {vs:List Value} {L:List (List Pc)} {rest left ft:Int} (h:PG w s A n c d i vs L rest left ft W) (hk:PlOk K n L) (hK:K+1≤1000) (hn:n≤1000) (hi:i<n) (p:Pc) :
  Calls Tryz.prog 82 #[.pointer (some ⟨d.b,0,none⟩),pcV p] W fun e w'=>e=.returned (.tuple #[])∧∃ vs',PG w s A n c d i vs' (addP L i p) rest left ft w'∧But (Sg vs d i) W w':=by
 obtain⟨u,l,hu,hl,hlK,_,hou,kg,fg⟩:=h.row hk hi
 have hbW:But No W (W.alloc (.cells #[.int .i64 p.co,.int .i64 p.bu,.int .i64 p.de,.int .i64 p.pr,.bool p.ti] 42)):=(But.refl No W).alloc _
 have hx1:=Blk.new W #[.int .i64 p.co,.int .i64 p.bu,.int .i64 p.de,.int .i64 p.pr,.bool p.ti] 42
 have HPU:Hid (∀ (W1 w5:World) (A':Option Addr) (c':Nat),But No W W1→w5.ownsRow 0 42 5 (.slice A' (l.length+1) c') (l.length+1) (l.flatMap pcC ++ pcC p)→W1.grownBy w5 u.ownBlock→((Value.slice A' (l.length+1) c').ownBlock=u.ownBlock∨(Value.slice A' (l.length+1) c').ownBlock=some W1.heap.size)→w5.ownsRow 0 42 5 u l.length (l.flatMap pcC) →
   (w5.cell? ⟨d.g,i,none⟩=some u∧w5.frozen? ⟨d.g,i,none⟩=false)∧(∃ vs',PG w s A n c d i vs' (addP L i p) rest left ft (w5.setCell ⟨d.g,i,none⟩ (.slice A' (l.length+1) c')))∧But (Sg vs d i) W (w5.setCell ⟨d.g,i,none⟩ (.slice A' (l.length+1) c'))):=hid (fun W1 w5 A' c' hb ho hg hat hback=>by
  obtain⟨⟨q1,q2⟩,q3,q4,q5⟩:=h.push hi hu hl hb ho hg hat
  exact⟨⟨by rw[q1];exact kg,by rw[q2];exact fg⟩,⟨_,q5⟩,q4.mono (fun k _ e=>e.elim (fun e=>.inr (.inl ⟨u,hu,e⟩)) (fun e=>.inr (.inr e)))⟩)
 have OWN:Hid (∀ W',But No W W'→W'.ownsRow 0 42 5 u l.length (l.flatMap pcC)):=hid (fun W' hb=>owns_but hou hb (fun _ _ f=>f))
 have KEEP0:Hid (∀ W',But (fun k=>u.ownBlock=some k∨k=d.g) W W'→W'.cell? ⟨d.b,9,none⟩=some (.slice (some ⟨d.g,0,none⟩) n n)∧W'.cell? ⟨d.b,10,none⟩=some (.int .i64 (i:Int))):=hid (fun W' hb=>⟨(h.xb.but hb (h.pl.far hu h.xb (by decide) (by decide))).cell rfl,(h.xb.but hb (h.pl.far hu h.xb (by decide) (by decide))).cell rfl⟩)
 have kp:=h.xb.cell (o:=9) rfl
 have kt:=h.xb.cell (o:=10) rfl
 have hlm:l.length+1≤1001:=by omega
 generalize addP L i p=L2 at HPU ⊢
 obtain⟨ip,hi0,hz0,hz1,hz2⟩:=info_parts infoP
 have IP:Hid (Tryz.prog.info? 42=some ip∧ip.zero=some (.agg #[.int .i64 0,.int .i64 0,.int .i64 0,.int .i64 0,.bool false])∧ip.size=5∧ip.bytes=40):=⟨hi0,hz0,hz1,hz2⟩
 have hi2:(i:Int)<(n:Int):=by omega
 have hi0':(0:Int)≤(i:Int):=Int.natCast_nonneg i
 clear h hk hK hu hl hou hi0 hz0 hz1 hz2
 obtain⟨p0,p1,p2,p3,p4⟩:=p
 unfold pcV
 dsimp only at hbW hx1 HPU ⊢
 have h0:=hx1.cell (o:=0) rfl
 have h1:=hx1.cell (o:=1) rfl
 have h2:=hx1.cell (o:=2) rfl
 have h3:=hx1.cell (o:=3) rfl
 have h4:=hx1.cell (o:=4) rfl
 have KEEP:Hid (∀ W',But (fun k=>u.ownBlock=some k∨k=d.g) (W.alloc (.cells #[.int .i64 p0,.int .i64 p1,.int .i64 p2,.int .i64 p3,.bool p4] 42)) W'→(W'.cell? ⟨d.b,9,none⟩=some (.slice (some ⟨d.g,0,none⟩) n n)∧W'.cell? ⟨d.b,10,none⟩=some (.int .i64 (i:Int))∧W'.cell? ⟨W.heap.size,0,none⟩=some (.int .i64 p0)∧W'.cell? ⟨W.heap.size,1,none⟩=some (.int .i64 p1)∧W'.cell? ⟨W.heap.size,2,none⟩=some (.int .i64 p2)∧W'.cell? ⟨W.heap.size,3,none⟩=some (.int .i64 p3)∧W'.cell? ⟨W.heap.size,4,none⟩=some (.bool p4))):=hid (fun W' hb=>by
  obtain⟨g1,g2⟩:=KEEP0.out W' (hbW.no.trans hb)
  have hn1:¬(u.ownBlock=some W.heap.size∨W.heap.size=d.g):=fun e=>by
   rcases e with e | e
   ·have:=(World.ownsRow.lt (OWN.out W (But.refl No W)) _ e).2;omega
   ·have:=World.block_lt_of_cell? W _ kg;rw[←e] at this;exact absurd this (Nat.lt_irrefl _)
  have hx:=hx1.but hb hn1
  exact⟨g1,g2,hx.cell rfl,hx.cell rfl,hx.cell rfl,hx.cell rfl,hx.cell rfl⟩)
 obtain⟨W1,hW1⟩:∃ W1,W.alloc (.cells #[.int .i64 p0,.int .i64 p1,.int .i64 p2,.int .i64 p3,.bool p4] 42)=W1:=⟨_,rfl⟩
 have kg1:=cell_keep kg hbW
 have KG:Hid (∀ W',But No W1 W'→W'.cell? ⟨d.g,i,none⟩=some u):=hid (fun W' hb=>by rw[←hW1] at hb;exact cell_keep kg1 hb)
 rw[hW1] at hbW h0 h1 h2 h3 h4 KEEP
 have HBW:=hid hbW
 clear hbW hx1 KEEP0 kg kp kt fg kg1
 go_enter Tryz.func82,Tryz.ntmps82
 go_upto_region 1 with fail
 refine wp_region_noPanic ?_
 refine wp_region_held_drew (S:=fun W'=>(W'.cell? ⟨d.b,9,none⟩=some (.slice (some ⟨d.g,0,none⟩) n n)∧W'.cell? ⟨d.b,10,none⟩=some (.int .i64 (i:Int))∧W'.cell? ⟨W.heap.size,0,none⟩=some (.int .i64 p0)∧W'.cell? ⟨W.heap.size,1,none⟩=some (.int .i64 p1)∧W'.cell? ⟨W.heap.size,2,none⟩=some (.int .i64 p2)∧W'.cell? ⟨W.heap.size,3,none⟩=some (.int .i64 p3)∧W'.cell? ⟨W.heap.size,4,none⟩=some (.bool p4))) (by kernel_rfl) (KEEP.out _ (But.refl _ W1).drew) (fun hHeld=>?_)
 refine wpAnyH_take (i:=0) (v:=?vb1) rfl (by kernel_rfl) (by kernel_rfl) (by kernel_rfl) (fun _ _ _ h=>h) (Or.inl ⟨by rfl,?hyb1⟩) (by assumption) ?restb1
 case hyb1=>(intro w hSw;(try dsimp only at hSw);go_simp <;> with_reducible rfl)
 try simp only[Act.put,List.setIfInBounds_toArray,List.set_cons_zero,List.set_cons_succ]
 refine wpAnyH_take (i:=1) (v:=?vb2) rfl (by kernel_rfl) (by kernel_rfl) (by kernel_rfl) (fun _ _ _ h=>h) (Or.inl ⟨by rfl,?hyb2⟩) (by assumption) ?restb2
 case hyb2=>(intro w hSw;(try dsimp only at hSw);go_simp <;> with_reducible rfl)
 try simp only[Act.put,List.setIfInBounds_toArray,List.set_cons_zero,List.set_cons_succ]
 refine wpAnyH_take (i:=2) (v:=?vb3) rfl (by kernel_rfl) (by kernel_rfl) (by kernel_rfl) (fun _ _ _ h=>h) (Or.inl ⟨by rfl,?hyb3⟩) (by assumption) ?restb3
 case hyb3=>(intro w hSw;(try dsimp only at hSw);go_simp <;> with_reducible rfl)
 try simp only[Act.put,List.setIfInBounds_toArray,List.set_cons_zero,List.set_cons_succ]
 refine wpAnyH_take (i:=3) (v:=?vb4) rfl (by kernel_rfl) (by kernel_rfl) (by kernel_rfl) (fun _ _ _ h=>h) (Or.inl ⟨by rfl,?hyb4⟩) (by assumption) ?restb4
 case hyb4=>(intro w hSw;(try dsimp only at hSw);go_simp <;> with_reducible rfl)
 try simp only[Act.put,List.setIfInBounds_toArray,List.set_cons_zero,List.set_cons_succ]
 refine wpAnyH_take (i:=4) (v:=?vb5) rfl (by kernel_rfl) (by kernel_rfl) (by kernel_rfl) (fun _ _ _ h=>h) (Or.inl ⟨by rfl,?hyb5⟩) (by assumption) ?restb5
 case hyb5=>(intro w hSw;(try dsimp only at hSw);go_simp <;> with_reducible rfl)
 try simp only[Act.put,List.setIfInBounds_toArray,List.set_cons_zero,List.set_cons_succ]
 refine wpAnyH_take (i:=5) (v:=?vb6) rfl (by kernel_rfl) (by kernel_rfl) (by kernel_rfl) (fun _ _ _ h=>h) (Or.inl ⟨by rfl,?hyb6⟩) (by assumption) ?restb6
 case hyb6=>(intro w hSw;(try dsimp only at hSw);go_simp <;> with_reducible rfl)
 try simp only[Act.put,List.setIfInBounds_toArray,List.set_cons_zero,List.set_cons_succ]
 refine wpAnyH_take (i:=6) (v:=?vb7) rfl (by kernel_rfl) (by kernel_rfl) (by kernel_rfl) (fun _ _ _ h=>h) (Or.inl ⟨by rfl,?hyb7⟩) (by assumption) ?restb7
 case hyb7=>(intro w hSw;(try dsimp only at hSw);go_simp <;> with_reducible rfl)
 try simp only[Act.put,List.setIfInBounds_toArray,List.set_cons_zero,List.set_cons_succ]
 refine wpAnyH_take (i:=7) (v:=?vb8) rfl (by kernel_rfl) (by kernel_rfl) (by kernel_rfl) (fun _ _ _ h=>h) (Or.inl ⟨by rfl,?hyb8⟩) (by assumption) ?restb8
 case hyb8=>(intro w hSw;(try dsimp only at hSw);go_simp <;> with_reducible rfl)
 try simp only[Act.put,List.setIfInBounds_toArray,List.set_cons_zero,List.set_cons_succ]
 refine wpAnyH_take (i:=8) (v:=?vb9) rfl (by kernel_rfl) (by kernel_rfl) (by kernel_rfl) (fun _ _ _ h=>h) (Or.inl ⟨by rfl,?hyb9⟩) (by assumption) ?restb9
 case hyb9=>(intro w hSw;(try dsimp only at hSw);go_simp <;> with_reducible rfl)
 try simp only[Act.put,List.setIfInBounds_toArray,List.set_cons_zero,List.set_cons_succ]
 refine wpAnyH_take (i:=9) (v:=?vb10) rfl (by kernel_rfl) (by kernel_rfl) (by kernel_rfl) (fun _ _ _ h=>h) (Or.inl ⟨by rfl,?hyb10⟩) (by assumption) ?restb10
 case hyb10=>(intro w hSw;(try dsimp only at hSw);go_simp <;> with_reducible rfl)
 try simp only[Act.put,List.setIfInBounds_toArray,List.set_cons_zero,List.set_cons_succ]
 refine wpAnyH_take (i:=10) (v:=?vb11) rfl (by kernel_rfl) (by kernel_rfl) (by kernel_rfl) (fun _ _ _ h=>h) (Or.inl ⟨by rfl,?hyb11⟩) (by assumption) ?restb11
 case hyb11=>(intro w hSw;(try dsimp only at hSw);go_simp <;> with_reducible rfl)
 try simp only[Act.put,List.setIfInBounds_toArray,List.set_cons_zero,List.set_cons_succ]
 refine wpAnyH_take (i:=11) (v:=?vb12) rfl (by kernel_rfl) (by kernel_rfl) (by kernel_rfl) (fun _ _ _ h=>h) (Or.inl ⟨by rfl,?hyb12⟩) (by assumption) ?restb12
 case hyb12=>(intro w hSw;(try dsimp only at hSw);go_simp <;> with_reducible rfl)
 try simp only[Act.put,List.setIfInBounds_toArray,List.set_cons_zero,List.set_cons_succ]
 refine wpAnyH_take (i:=12) (v:=?vb13) rfl (by kernel_rfl) (by kernel_rfl) (by kernel_rfl) (fun _ _ _ h=>h) (Or.inl ⟨by rfl,?hyb13⟩) (by assumption) ?restb13
 case hyb13=>(intro w hSw;(try dsimp only at hSw);go_simp <;> with_reducible rfl)
 try simp only[Act.put,List.setIfInBounds_toArray,List.set_cons_zero,List.set_cons_succ]
 refine wpAnyH_take (i:=13) (v:=?vb14) rfl (by kernel_rfl) (by kernel_rfl) (by kernel_rfl) (fun _ _ _ h=>h) (Or.inl ⟨by rfl,?hyb14⟩) (by assumption) ?restb14
 case hyb14=>(intro w hSw;(try dsimp only at hSw);go_simp <;> with_reducible rfl)
 try simp only[Act.put,List.setIfInBounds_toArray,List.set_cons_zero,List.set_cons_succ]
 refine wpAnyH_take (i:=14) (v:=?vb15) rfl (by kernel_rfl) (by kernel_rfl) (by kernel_rfl) (fun _ _ _ h=>h) (Or.inl ⟨by rfl,?hyb15⟩) (by assumption) ?restb15
 case hyb15=>(intro w hSw;(try dsimp only at hSw);go_simp <;> with_reducible rfl)
 try simp only[Act.put,List.setIfInBounds_toArray,List.set_cons_zero,List.set_cons_succ]
 refine wpAnyH_take (i:=15) (v:=?vb16) rfl (by kernel_rfl) (by kernel_rfl) (by kernel_rfl) (fun _ _ _ h=>h) (Or.inl ⟨by rfl,?hyb16⟩) (by assumption) ?restb16
 case hyb16=>(intro w hSw;(try dsimp only at hSw);go_simp <;> with_reducible rfl)
 try simp only[Act.put,List.setIfInBounds_toArray,List.set_cons_zero,List.set_cons_succ]
 refine wpAnyH_take (i:=16) (v:=?vb17) rfl (by kernel_rfl) (by kernel_rfl) (by kernel_rfl) (fun _ _ _ h=>h) (Or.inl ⟨by rfl,?hyb17⟩) (by assumption) ?restb17
 case hyb17=>(intro w hSw;(try dsimp only at hSw);go_simp <;> with_reducible rfl)
 try simp only[Act.put,List.setIfInBounds_toArray,List.set_cons_zero,List.set_cons_succ]
 refine wpAnyH_take (i:=18) (v:=?vb18) rfl (by kernel_rfl) (by kernel_rfl) (by kernel_rfl) (fun _ _ _ h=>h) (Or.inl ⟨by rfl,?hyb18⟩) (by assumption) ?restb18
 case hyb18=>(intro w hSw;(try dsimp only at hSw);go_simp <;> with_reducible rfl)
 try simp only[Act.put,List.setIfInBounds_toArray,List.set_cons_zero,List.set_cons_succ]
 refine wpAnyH_ready (rs:=[17,19]) (by kernel_rfl) (by simp) ?_
 refine AllReadyH.cons rfl (fun K hK=>?_) ?_
 ·skip
  have e0:=KG.out _ (But.refl No W1).drew
  go_simp
  refine hK.out _ _ (KEEP.out _ (But.refl _ W1).drew) (fun hHeld=>?_)
  clear hK K
  try simp only[Act.put,List.setIfInBounds_toArray,List.set_cons_zero,List.set_cons_succ]
  clear e0
  refine wpAnyH_ready (rs:=[19]) (by kernel_rfl) (by simp) ?_
  refine AllReadyH.cons rfl (fun K hK=>?_) AllReadyH.nil
  go_simp
  refine hK.out _ _ (KEEP.out _ ((But.refl No W1).drew.alloc _).no) (fun hHeld=>?_)
  clear hK K
  try simp only[Act.put,List.setIfInBounds_toArray,List.set_cons_zero,List.set_cons_succ]
  refine wpAnyH_ready (rs:=[20]) (by kernel_rfl) (by simp) ?_
  refine AllReadyH.cons rfl (fun K hK=>?_) AllReadyH.nil
  refine step_append_bk rfl _ _ 38 rfl 42 ip _ 5 40 Tryz.underlying38 IP.out.1 IP.out.2.1 IP.out.2.2.1 IP.out.2.2.2 rfl (by omega) u l.length (l.flatMap pcC) (by simp[Act.eval]) (OWN.out _ (HBW.out.trans (((But.refl No W1).drew).alloc (.cells #[.int .i64 p0,.int .i64 p1,.int .i64 p2,.int .i64 p3,.bool p4] 42)))) ⟨W1.drew.heap.size,0,none⟩ 1 1 (pcC ⟨p0,p1,p2,p3,p4⟩) (by simp[Act.eval]) rfl (pc_one_at W1.drew ⟨p0,p1,p2,p3,p4⟩ _) (pc_one_cell _) (by unfold maxLen;omega) (by omega) ?_
  intro A6 c6 w6 hown6 hgrow6 hat6 hback6
  have HP6:=hid (HPU.out _ w6 A6 c6 (HBW.out.trans (((But.refl No W1).drew).alloc (.cells #[.int .i64 p0,.int .i64 p1,.int .i64 p2,.int .i64 p3,.bool p4] 42))) hown6.out hgrow6.out hat6.out hback6.out)
  have HC6:Hid (But (fun k=>u.ownBlock=some k∨k=d.g) W1 w6):=hid ((((But.refl No W1).drew).alloc (.cells #[.int .i64 p0,.int .i64 p1,.int .i64 p2,.int .i64 p3,.bool p4] 42)).no.trans ((But.refl _ _).grown hgrow6.out (fun k e=>.inl (.inl e))))
  have e0:=HP6.out.1.1
  have e1:=HP6.out.1.2
  clear hown6 hgrow6 hat6 hback6
  refine hK.out _ _ (KEEP.out _ HC6.out) (fun hHeld=>?_)
  clear hK K
  try simp only[Act.put,List.setIfInBounds_toArray,List.set_cons_zero,List.set_cons_succ]
  refine wpAnyH_take (i:=21) (v:=?vb19) rfl (by kernel_rfl) (by kernel_rfl) (by kernel_rfl) (fun _ _ _ h=>h) (Or.inl ⟨by rfl,?hyb19⟩) (by assumption) ?restb19
  case hyb19=>(intro w hSw;(try dsimp only at hSw);go_simp <;> with_reducible rfl)
  try simp only[Act.put,List.setIfInBounds_toArray,List.set_cons_zero,List.set_cons_succ]
  refine wpAnyH_ready (rs:=[22]) (by kernel_rfl) (by simp) ?_
  refine AllReadyH.cons rfl (fun K hK=>?_) AllReadyH.nil
  go_simp
  refine hK.out _ _ (KEEP.out _ (HC6.out.setCell (p:=⟨d.g,i,none⟩) (.inr rfl) _)) (fun hHeld=>?_)
  clear hK K
  try simp only[Act.put,List.setIfInBounds_toArray,List.set_cons_zero,List.set_cons_succ]
  refine wpAnyH_done (by kernel_rfl) ?_ _
  refine NoPanic.normal ?_
  clear e0 e1 hHeld
  go_wp2
  go_end0
  obtain⟨vs9,h9⟩:=HP6.out.2.1
  exact⟨rfl,vs9,h9,HP6.out.2.2⟩
 ·skip
  refine AllReadyH.cons rfl (fun K hK=>?_) AllReadyH.nil
  go_simp
  refine hK.out _ _ (KEEP.out _ ((But.refl No W1).drew.alloc _).no) (fun hHeld=>?_)
  clear hK K
  try simp only[Act.put,List.setIfInBounds_toArray,List.set_cons_zero,List.set_cons_succ]
  have e0:=KG.out _ ((But.refl No W1).alloc (.cells #[.int .i64 p0,.int .i64 p1,.int .i64 p2,.int .i64 p3,.bool p4] 42))
  refine wpAnyH_ready (rs:=[17]) (by kernel_rfl) (by simp) ?_
  refine AllReadyH.cons rfl (fun K hK=>?_) AllReadyH.nil
  go_simp
  refine hK.out _ _ (KEEP.out _ ((But.refl No W1).drew.alloc _).no) (fun hHeld=>?_)
  clear hK K
  try simp only[Act.put,List.setIfInBounds_toArray,List.set_cons_zero,List.set_cons_succ]
  clear e0
  refine wpAnyH_ready (rs:=[20]) (by kernel_rfl) (by simp) ?_
  refine AllReadyH.cons rfl (fun K hK=>?_) AllReadyH.nil
  refine step_append_bk rfl _ _ 38 rfl 42 ip _ 5 40 Tryz.underlying38 IP.out.1 IP.out.2.1 IP.out.2.2.1 IP.out.2.2.2 rfl (by omega) u l.length (l.flatMap pcC) (by simp[Act.eval]) (OWN.out _ (HBW.out.trans (((But.refl No W1).drew).alloc (.cells #[.int .i64 p0,.int .i64 p1,.int .i64 p2,.int .i64 p3,.bool p4] 42)))) ⟨W1.drew.heap.size,0,none⟩ 1 1 (pcC ⟨p0,p1,p2,p3,p4⟩) (by simp[Act.eval]) rfl (pc_one_at W1.drew ⟨p0,p1,p2,p3,p4⟩ _) (pc_one_cell _) (by unfold maxLen;omega) (by omega) ?_
  intro A6 c6 w6 hown6 hgrow6 hat6 hback6
  have HP6:=hid (HPU.out _ w6 A6 c6 (HBW.out.trans (((But.refl No W1).drew).alloc (.cells #[.int .i64 p0,.int .i64 p1,.int .i64 p2,.int .i64 p3,.bool p4] 42))) hown6.out hgrow6.out hat6.out hback6.out)
  have HC6:Hid (But (fun k=>u.ownBlock=some k∨k=d.g) W1 w6):=hid ((((But.refl No W1).drew).alloc (.cells #[.int .i64 p0,.int .i64 p1,.int .i64 p2,.int .i64 p3,.bool p4] 42)).no.trans ((But.refl _ _).grown hgrow6.out (fun k e=>.inl (.inl e))))
  have e0:=HP6.out.1.1
  have e1:=HP6.out.1.2
  clear hown6 hgrow6 hat6 hback6
  refine hK.out _ _ (KEEP.out _ HC6.out) (fun hHeld=>?_)
  clear hK K
  try simp only[Act.put,List.setIfInBounds_toArray,List.set_cons_zero,List.set_cons_succ]
  refine wpAnyH_take (i:=21) (v:=?vb20) rfl (by kernel_rfl) (by kernel_rfl) (by kernel_rfl) (fun _ _ _ h=>h) (Or.inl ⟨by rfl,?hyb20⟩) (by assumption) ?restb20
  case hyb20=>(intro w hSw;(try dsimp only at hSw);go_simp <;> with_reducible rfl)
  try simp only[Act.put,List.setIfInBounds_toArray,List.set_cons_zero,List.set_cons_succ]
  refine wpAnyH_ready (rs:=[22]) (by kernel_rfl) (by simp) ?_
  refine AllReadyH.cons rfl (fun K hK=>?_) AllReadyH.nil
  go_simp
  refine hK.out _ _ (KEEP.out _ (HC6.out.setCell (p:=⟨d.g,i,none⟩) (.inr rfl) _)) (fun hHeld=>?_)
  clear hK K
  try simp only[Act.put,List.setIfInBounds_toArray,List.set_cons_zero,List.set_cons_succ]
  refine wpAnyH_done (by kernel_rfl) ?_ _
  refine NoPanic.normal ?_
  clear e0 e1 hHeld
  go_wp2
  go_end0
  obtain⟨vs9,h9⟩:=HP6.out.2.1
  exact⟨rfl,vs9,h9,HP6.out.2.2⟩
end Go.Proofs.YtikcigjbhohboaaGreat.pln
end
section
namespace Go.Proofs.YtikcigjbhohboaaGreat.pln
open Go.Lib (hid)
set_option linter.unusedVariables false
set_option linter.unusedSimpArgs false
open Go.ChangeShapes Go.WideShapes Go.ChangeAt Go.RowKit Go.Deep val Go.Sort
theorem laN_stay {s:Sys} {L:List (List Pc)} {i:Nat} {bu de:Int} {m:Bool × Bool} {n c:Nat} (h:(laN s L i bu de m n).1=some c):∀ k,laN s L i bu de m (n+k)=laN s L i bu de m n
 | 0=>rfl
 | k+1=>by
  have ih:=laN_stay h k
  have e:(laN s L i bu de m (n+k)).1=some c:=by rw[ih];exact h
  rw[←Nat.add_assoc,laN]
  rw[e]
  dsimp only
  rw[ih,←h]
theorem erM_note (s:Sys) (L:List (List Pc)) (m:Bool × Bool):ntF (chkV s L).2.2 (erM m)=erM (said s L m):=(fault_note s L m).symm
def laL (L:List (List Pc)) (i:Nat) (bu de:Int) (r:Option Nat):List (List Pc):=match r with
 | some c=>addP L i (lstP c bu de)
 | none=>L
theorem Sg.new {vs:List Value} {d:Ad} {i:Nat} {w W:World} {s:Sys} {A:Option Addr} {n c:Nat} {L:List (List Pc)} {rest left ft:Int} (h:PG w s A n c d i vs L rest left ft W) {k:Nat} (hk:Sg vs d i k):k<W.heap.size:=by
 rcases hk with e | ⟨u,hu,e⟩ | e
 ·rw[e];exact h.xb.lt
 ·have hl:i<L.length:=by rw[←h.pl.len];exact(List.getElem?_eq_some_iff.1 hu).1
  exact(h.pl.own i u _ hu (List.getElem?_eq_getElem hl)).1.lt e
 ·rw[e];exact(World.ownsRow.lt h.pl.row d.g rfl).2
set_option maxRecDepth 100000 in
set_option maxHeartbeats 8000000 in
theorem end_any {s:Sys} (CK:CheckAt s) {w W:World} {A:Option Addr} {n c i K:Nat} {d:Ad} {vs:List Value} {L:List (List Pc)} {rest left:Int} {m:Bool × Bool} (h:PG w s A n c d i vs L rest left (erM m) W) (hs:RSys w A n c s) (hk:PlOk K n L) (hK:K+1≤1000) (hn:n≤1000) (hi:i<n) (hr:inR rest) (hl:inR left) (hco:s.co≤100) :
  Calls Tryz.prog 51 #[.pointer (some ⟨d.b,0,none⟩)] W fun e w'=>e=.returned (.bool (laN s L i rest left m s.co.toNat).1.isSome)∧∃ vs',PG w s A n c d i vs' (laL L i rest left (laN s L i rest left m s.co.toNat).1) rest left (erM (laN s L i rest left m s.co.toNat).2) w':=by
 have H0:=hid h
 have k0:W.cell? ⟨d.b,0,none⟩=some (.int .i64 s.co):=h.xb.cell rfl
 have CH:Hid (∀ (W1:World) (ft:Int) (c0:Int),PG w s A n c d i vs L rest left ft W1→Calls Tryz.prog 81 #[.pointer (some ⟨d.b,0,none⟩),.int .i64 c0] W1 fun e w'=>e=.returned (.bool (hasC L i c0))∧∃ q os,w'=grow (W1.drewN q) os):=hid (fun W1 ft c0 h1=>has_any h1 hk (by omega) hn hi c0)
 have CG:Hid (∀ (W1:World) (mm:Bool × Bool) (q:Nat),inR (q:Int)→PG w s A n c d i vs L rest left (erM mm) W1→Calls Tryz.prog 79 #[.agg #[.int .i64 (q:Int),.int .i64 rest,.int .i64 left,.int .i64 0,.bool false],.pointer (some ⟨d.bp,0,none⟩),.pointer (some ⟨d.bt,0,none⟩),.pointer (some ⟨d.bs,0,none⟩),.pointer (some ⟨d.bq,0,none⟩)] W1 fun e w'=>e=.returned (.bool (good s (addP L i (lstP q rest left))))∧PG w s A n c d i vs L rest left (erM (said s (addP L i (lstP q rest left)) mm)) w'∧But (Sg vs d i) W1 w'):=hid (fun W1 mm q hq h1=>by rw[←erM_note];exact good_any CK h1 hs hk hK hn hi _ ⟨hq,hr,hl,by show inR 0;unfold inR;omega⟩)
 have CA:Hid (∀ (W1:World) (ft:Int) (q:Nat),PG w s A n c d i vs L rest left ft W1→Calls Tryz.prog 82 #[.pointer (some ⟨d.b,0,none⟩),.agg #[.int .i64 (q:Int),.int .i64 rest,.int .i64 left,.int .i64 0,.bool false]] W1 fun e w'=>e=.returned (.tuple #[])∧∃ vs',PG w s A n c d i vs' (addP L i (lstP q rest left)) rest left ft w'):=hid (fun W1 ft q h1=>(add_any h1 hk hK hn hi (lstP q rest left)).mono fun e w' ⟨h2,vs',h3,_⟩=>⟨h2,vs',h3⟩)
 have HCO:=hid hco
 clear h hs hk hK
 go_enter Tryz.func51,Tryz.ntmps51
 go_wp2
 go_loopw [10] (fun x wr=>∃ q:Nat,x=.int .i64 (q:Int)∧q≤s.co.toNat∧Hid ((laN s L i rest left m q).1=none)∧Hid (PG w s A n c d i vs L rest left (erM (laN s L i rest left m q).2) wr)) (fun x _=>s.co.toNat-(intOf x).toNat)
 case atStart=>exact⟨0,rfl,by omega,rfl,H0.out⟩
 case round =>
  clear H0
  obtain⟨q,rfl,hq,HN,HP⟩:=hrel
  have hq0:(0:Int)≤(q:Int):=Int.natCast_nonneg q
  by_cases hqc:q<s.co.toNat
  ·have hqc2:(q:Int)<s.co:=by omega
   have k11:wr.cell? ⟨d.b,11,none⟩=some (.int .i64 rest):=HP.out.xb.cell rfl
   have k12:wr.cell? ⟨d.b,12,none⟩=some (.int .i64 left):=HP.out.xb.cell rfl
   have HX:Hid (laN s L i rest left m (q+1)=if hasC L i q=true then (none,(laN s L i rest left m q).2) else (if good s (addP L i (lstP q rest left))=true then some q else none,said s (addP L i (lstP q rest left)) (laN s L i rest left m q).2)):=hid (by rw[laN,HN.out])
   have HZ:Hid (∀ c,(laN s L i rest left m (q+1)).1=some c→laN s L i rest left m s.co.toNat=laN s L i rest left m (q+1)):=hid (fun c e=>by have:=laN_stay e (s.co.toNat-(q+1));rwa [show q+1+(s.co.toNat-(q+1))=s.co.toNat by omega] at this)
   go_upto_region 4 with fail
   have KEEP:Hid (∀ w',But No wr w'→(w'.cell? ⟨d.b,11,none⟩=some (.int .i64 rest)∧w'.cell? ⟨d.b,12,none⟩=some (.int .i64 left))):=hid (fun w' hb=>⟨cell_keep k11 hb,cell_keep k12 hb⟩)
   go_region_held3 (fun w'=>w'.cell? ⟨d.b,11,none⟩=some (.int .i64 rest)∧w'.cell? ⟨d.b,12,none⟩=some (.int .i64 left))
    (first | exact KEEP.out _ (But.refl No wr).drew | exact KEEP.out _ ((But.refl No wr).drew.alloc _) | exact KEEP.out _ ((((((But.refl No wr).drew.alloc _).setNew (Nat.le_refl _) _).setNew (Nat.le_refl _) _).setNew (Nat.le_refl _) _).setNew (Nat.le_refl _) _)) (fail)
   rename_i hHeld
   clear hHeld KEEP k11 k12
   have HB4:Hid (But No wr (wr.alloc (.cells #[.int .i64 (q:Int),.int .i64 rest,.int .i64 left,.int .i64 0,.bool false] 42)).drew):=hid ((But.refl No wr).alloc _).drew
   have HK4:Hid (Blk (wr.alloc (.cells #[.int .i64 (q:Int),.int .i64 rest,.int .i64 left,.int .i64 0,.bool false] 42)).drew wr.heap.size #[.int .i64 (q:Int),.int .i64 rest,.int .i64 left,.int .i64 0,.bool false] 42):=hid (Blk.new wr _ _)
   generalize (wr.alloc (.cells #[.int .i64 (q:Int),.int .i64 rest,.int .i64 left,.int .i64 0,.bool false] 42)).drew=W4 at HB4 HK4 ⊢
   have HX0:Hid (¬Sg vs d i wr.heap.size):=hid (fun e=>Nat.lt_irrefl _ (Sg.new HP.out e))
   have HP4:=hid (HP.out.no HB4.out)
   obtain⟨x,hx⟩:∃ x,wr.heap.size=x:=⟨_,rfl⟩
   rw[hx] at HK4 HX0 ⊢
   have CH4:=hid (fun W1 ft h1=>CH.out W1 ft (q:Int) h1)
   have CG4:=hid (fun W1 mm h1=>CG.out W1 mm q (by unfold inR;have:=HCO.out;omega) h1)
   have CA4:=hid (fun W1 ft h1=>CA.out W1 ft q h1)
   clear HB4 HP hx
   have KS:Hid (∀ w' ft,PG w s A n c d i vs L rest left ft w'→But (Sg vs d i) W4 w'→(w'.cell? ⟨d.b,13,none⟩=some (.func (.func 79) #[] #[.pointer (some ⟨d.bp,0,none⟩),.pointer (some ⟨d.bt,0,none⟩),.pointer (some ⟨d.bs,0,none⟩),.pointer (some ⟨d.bq,0,none⟩)])∧w'.cell? ⟨x,0,none⟩=some (.int .i64 (q:Int))∧w'.cell? ⟨x,1,none⟩=some (.int .i64 rest)∧w'.cell? ⟨x,2,none⟩=some (.int .i64 left)∧w'.cell? ⟨x,3,none⟩=some (.int .i64 0)∧w'.cell? ⟨x,4,none⟩=some (.bool false))):=hid (fun w' ft hp hb=>by
    have hk:=HK4.out.but hb HX0.out
    exact⟨hp.xb.cell rfl,hk.cell rfl,hk.cell rfl,hk.cell rfl,hk.cell rfl,hk.cell rfl⟩)
   go_upto_region 5 with fail
   cases hh:hasC L i (q:Int)with
   | true =>
    rw[hh] at CH4 HX
    have mixed:Tryz.prog.follows .mixedOrders=true:=by kernel_rfl
    go_quiet_grown (first | (go_at_call 81;refine Calls.grown_of (CH4.out _ _ (HP4.out.no (grow_but _ _ _)))))
    go_wp2
    go_roundw
    case rel=>exact⟨q+1,by first | rfl | go_num,by omega,by rw[HX.out];rfl,by rw[HX.out];exact HP4.out.no (grow_but _ _ _)⟩
    case measure=>simp[intOf];omega
   | false =>
    rw[hh] at CH4 HX
    cases hg:good s (addP L i (lstP q rest left))with
    | true =>
     rw[hg] at CG4 HX
     go_region_held3 (fun w'=>w'.cell? ⟨d.b,13,none⟩=some (.func (.func 79) #[] #[.pointer (some ⟨d.bp,0,none⟩),.pointer (some ⟨d.bt,0,none⟩),.pointer (some ⟨d.bs,0,none⟩),.pointer (some ⟨d.bq,0,none⟩)])∧w'.cell? ⟨x,0,none⟩=some (.int .i64 (q:Int))∧w'.cell? ⟨x,1,none⟩=some (.int .i64 rest)∧w'.cell? ⟨x,2,none⟩=some (.int .i64 left)∧w'.cell? ⟨x,3,none⟩=some (.int .i64 0)∧w'.cell? ⟨x,4,none⟩=some (.bool false))
      (first | exact KS.out _ _ (HP4.out.no (But.refl No W4).drew) (But.refl _ W4).drew | exact KS.out _ _ HP5.out HB5.out | exact KS.out _ _ HP6.out HB6.out)
      (first | (go_at_call 81;(with_reducible refine(CH4.out _ _ (HP4.out.no (But.refl No W4).drew)).mono ?_);rintro e w5 ⟨rfl,h5⟩;have hb5:=but_grow h5;have HP5:=hid ((HP4.out.no (But.refl No W4).drew).no hb5);have HB5:Hid (But (Sg vs d i) W4 w5):=hid ((But.refl No W4).drew.trans hb5).no;clear h5 hb5) | (go_at_call 79;(with_reducible refine(CG4.out _ _ HP5.out).mono ?_);rintro e w6 ⟨rfl,h6,b6⟩;have HP6:=hid h6;have HB6:=hid (HB5.out.trans b6);clear h6 b6))
     all_goals
      obtain⟨_,y0,y1,y2,y3,y4⟩:=KS.out _ _ HP6.out HB6.out
      have CA6:=hid (CA4.out _ _ HP6.out)
      go_wp2_with (go_at_call 82;(with_reducible refine CA6.out.mono ?_);rintro e w7 ⟨rfl,vs7,h7⟩;have H7:=hid h7;clear h7)
      go_ret
      have HE:=HZ.out q (by rw[HX.out];rfl)
      rw[HE,HX.out]
      exact⟨rfl,vs7,H7.out⟩
    | false =>
     rw[hg] at CG4 HX
     go_region_held3 (fun w'=>w'.cell? ⟨d.b,13,none⟩=some (.func (.func 79) #[] #[.pointer (some ⟨d.bp,0,none⟩),.pointer (some ⟨d.bt,0,none⟩),.pointer (some ⟨d.bs,0,none⟩),.pointer (some ⟨d.bq,0,none⟩)])∧w'.cell? ⟨x,0,none⟩=some (.int .i64 (q:Int))∧w'.cell? ⟨x,1,none⟩=some (.int .i64 rest)∧w'.cell? ⟨x,2,none⟩=some (.int .i64 left)∧w'.cell? ⟨x,3,none⟩=some (.int .i64 0)∧w'.cell? ⟨x,4,none⟩=some (.bool false))
      (first | exact KS.out _ _ (HP4.out.no (But.refl No W4).drew) (But.refl _ W4).drew | exact KS.out _ _ HP5.out HB5.out | exact KS.out _ _ HP6.out HB6.out)
      (first | (go_at_call 81;(with_reducible refine(CH4.out _ _ (HP4.out.no (But.refl No W4).drew)).mono ?_);rintro e w5 ⟨rfl,h5⟩;have hb5:=but_grow h5;have HP5:=hid ((HP4.out.no (But.refl No W4).drew).no hb5);have HB5:Hid (But (Sg vs d i) W4 w5):=hid ((But.refl No W4).drew.trans hb5).no;clear h5 hb5) | (go_at_call 79;(with_reducible refine(CG4.out _ _ HP5.out).mono ?_);rintro e w6 ⟨rfl,h6,b6⟩;have HP6:=hid h6;have HB6:=hid (HB5.out.trans b6);clear h6 b6))
     all_goals
      go_wp2
      go_roundw
     case rel=>exact⟨q+1,by first | rfl | go_num,by omega,by rw[HX.out];rfl,by rw[HX.out];exact HP6.out⟩
     case measure=>simp[intOf];omega
  ·have hqc2:¬(q:Int)<s.co:=by have:=HCO.out;omega
   have hqe:q=s.co.toNat:=by omega
   subst hqe
   go_wp2
   go_ret
   refine⟨by rw[HN.out];rfl,vs,?_⟩
   rw[HN.out]
   exact HP.out
end Go.Proofs.YtikcigjbhohboaaGreat.pln
end
section
namespace Go.Proofs.YtikcigjbhohboaaGreat.pln
open Go.Lib (hid)
set_option linter.unusedVariables false
set_option linter.unusedSimpArgs false
open Go.ChangeShapes Go.WideShapes Go.ChangeAt Go.RowKit Go.Deep val Go.Sort
theorem biN_stop {s:Sys} {L:List (List Pc)} {i:Nat} {c rest left a b:Int} {m:Bool × Bool} (h:¬a<b):∀ n,biN s L i c rest left n a b m=(a,m)
 | 0=>rfl
 | n+1=>by rw[biN,if_neg h]
theorem biN_go {s:Sys} {L:List (List Pc)} {i n:Nat} {c rest left a b:Int} {m:Bool × Bool} (h:a<b) (hc:rest≤left-(s.la-1)) :
  biN s L i c rest left (n+1) a b m=if good s (addP L i (tiP c ((a+b+1)/2)))=true then biN s L i c rest left n ((a+b+1)/2) b (said s (addP L i (tiP c ((a+b+1)/2))) m) else biN s L i c rest left n a ((a+b+1)/2-1) (said s (addP L i (tiP c ((a+b+1)/2))) m):=by
 rw[biN,if_pos h,if_neg (by omega)]
set_option maxRecDepth 100000 in
set_option maxHeartbeats 8000000 in
theorem budget_any {s:Sys} (CK:CheckAt s) {w W:World} {A:Option Addr} {n c i K:Nat} {d:Ad} {vs:List Value} {L:List (List Pc)} {rest left:Int} {m:Bool × Bool} (h:PG w s A n c d i vs L rest left (erM m) W) (hs:RSys w A n c s) (hk:PlOk K n L) (hK:K+1≤1000) (hn:n≤1000) (hi:i<n) (hr:1≤rest∧rest≤2199023255552) (hc:rest≤left-(s.la-1)) (q:Nat) (hq:q≤100) :
  Calls Tryz.prog 83 #[.pointer (some ⟨d.b,0,none⟩),.int .i64 (q:Int)] W fun e w'=>e=.returned (.int .i64 (biN s L i q rest left rest.toNat 0 (rest-1) m).1)∧PG w s A n c d i vs L rest left (erM (biN s L i q rest left rest.toNat 0 (rest-1) m).2) w'∧But (Sg vs d i) W w':=by
 have H0:=hid h
 have k11:W.cell? ⟨d.b,11,none⟩=some (.int .i64 rest):=h.xb.cell rfl
 have CT:Hid (∀ (M:Int) (W1:World),Calls Tryz.prog 84 #[.int .i64 (q:Int),.int .i64 M] W1 fun e w'=>e=.returned (.agg #[.int .i64 (q:Int),.int .i64 M,.int .i64 M,.int .i64 0,.bool true])∧But No W1 w'):=hid (fun M W1=>tight_any _ _ W1)
 have CG:Hid (∀ (W1:World) (mm:Bool × Bool) (M:Int),inR M→PG w s A n c d i vs L rest left (erM mm) W1→Calls Tryz.prog 79 #[.agg #[.int .i64 (q:Int),.int .i64 M,.int .i64 M,.int .i64 0,.bool true],.pointer (some ⟨d.bp,0,none⟩),.pointer (some ⟨d.bt,0,none⟩),.pointer (some ⟨d.bs,0,none⟩),.pointer (some ⟨d.bq,0,none⟩)] W1 fun e w'=>e=.returned (.bool (good s (addP L i (tiP q M))))∧PG w s A n c d i vs L rest left (erM (said s (addP L i (tiP q M)) mm)) w'∧But (Sg vs d i) W1 w'):=hid (fun W1 mm M hM h1=>by rw[←erM_note];exact good_any CK h1 hs hk hK hn hi _ ⟨by show inR (q:Int);unfold inR;omega,hM,hM,by show inR 0;unfold inR;omega⟩)
 have BG:Hid (∀ (k:Nat) (a b:Int) (mm:Bool × Bool),a<b→biN s L i q rest left (k+1) a b mm=if good s (addP L i (tiP q ((a+b+1)/2)))=true then biN s L i q rest left k ((a+b+1)/2) b (said s (addP L i (tiP q ((a+b+1)/2))) mm) else biN s L i q rest left k a ((a+b+1)/2-1) (said s (addP L i (tiP q ((a+b+1)/2))) mm)):=hid (fun k a b mm h=>biN_go h hc)
 have mixed:Tryz.prog.follows .mixedOrders=true:=by kernel_rfl
 clear h hs hk hK
 generalize hRB:biN s L i q rest left rest.toNat 0 (rest-1) m=RB
 have HRB:=hid hRB
 clear hRB
 go_enter Tryz.func83,Tryz.ntmps83
 go_wp2_with fail
 go_quiet (fail)
 go_wp2_with fail
 go_loopw [5,6] (fun x y wr=>∃ (a b:Int) (k:Nat) (mm:Bool × Bool),x=.int .i64 a∧y=.int .i64 b∧0≤a∧a≤rest ∧ -1≤b∧b≤rest∧b-a≤k∧Hid (biN s L i q rest left k a b mm=RB)∧Hid (PG w s A n c d i vs L rest left (erM mm) wr)∧Hid (But (Sg vs d i) W wr)) (fun x y _=>(intOf y-intOf x).toNat)
 case atStart=>exact⟨0,rest-1,rest.toNat,m,rfl,by first | rfl | go_num,by omega,by omega,by omega,by omega,by omega,HRB.out,by first | exact H0.out | exact H0.out.no (But.refl No _).drew | exact H0.out.no ((But.refl No _).drewN _),by first | exact But.refl _ _ | exact(But.refl _ _).drew | exact(But.refl _ _).drewN _⟩
 case round =>
  clear H0 k11
  obtain⟨a,b,k,mm,rfl,rfl,ha,har,hb,hbr,hk,HB,HP,HW⟩:=hrel
  by_cases hab:a<b
  ·obtain⟨k1,rfl⟩:∃ k1,k=k1+1:=⟨k-1,by omega⟩
   have HG:=hid (BG.out k1 a b mm hab)
   obtain⟨M,hM⟩:∃ M,(a+b+1)/2=M:=⟨_,rfl⟩
   have hM2:(a+b+1).tdiv 2=M:=by rw[Int.tdiv_eq_ediv_of_nonneg (by omega)];exact hM
   have hMb:a<M∧M≤b:=by omega
   rw[hM] at HG
   have k13:wr.cell? ⟨d.b,13,none⟩=some (.func (.func 79) #[] #[.pointer (some ⟨d.bp,0,none⟩),.pointer (some ⟨d.bt,0,none⟩),.pointer (some ⟨d.bs,0,none⟩),.pointer (some ⟨d.bq,0,none⟩)]):=HP.out.xb.cell rfl
   have CT4:=hid (CT.out M)
   have CG4:=hid (fun W1 h1=>CG.out W1 mm M (by unfold inR;omega) h1)
   go_upto_region 4 with fail
   have KS:Hid (∀ w' ft,PG w s A n c d i vs L rest left ft w'→w'.cell? ⟨d.b,13,none⟩=some (.func (.func 79) #[] #[.pointer (some ⟨d.bp,0,none⟩),.pointer (some ⟨d.bt,0,none⟩),.pointer (some ⟨d.bs,0,none⟩),.pointer (some ⟨d.bq,0,none⟩)])):=hid (fun w' ft hp=>hp.xb.cell rfl)
   have HP4:=hid (HP.out.no (But.refl No wr).drew)
   have HM:=hid (show (0:Int)≤M∧M≤b∧a<M from ⟨by omega,hMb.2,hMb.1⟩)
   clear k13
   cases hg:good s (addP L i (tiP q M))with
   | true =>
    rw[hg] at CG4 HG
    go_region_held3 (fun w'=>w'.cell? ⟨d.b,13,none⟩=some (.func (.func 79) #[] #[.pointer (some ⟨d.bp,0,none⟩),.pointer (some ⟨d.bt,0,none⟩),.pointer (some ⟨d.bs,0,none⟩),.pointer (some ⟨d.bq,0,none⟩)]))
     (first | exact KS.out _ _ HP4.out | exact KS.out _ _ HP5.out | exact KS.out _ _ HP6.out)
     (first | (go_at_call 84;(with_reducible refine(CT4.out _).mono ?_);rintro e w5 ⟨rfl,hb5⟩;have HP5:=hid (HP4.out.no hb5);have HB5:Hid (But (Sg vs d i) wr w5):=hid ((But.refl No wr).drew.trans hb5).no;clear hb5) | (go_at_call 79;(with_reducible refine(CG4.out _ HP5.out).mono ?_);rintro e w6 ⟨rfl,h6,b6⟩;have HP6:=hid h6;have HB6:=hid (HW.out.trans (HB5.out.trans b6));clear h6 b6))
    all_goals
     go_wp2
     go_roundw
    case rel=>exact⟨M,b,k1,_,rfl,rfl,by omega,by omega,by omega,by omega,by omega,hid (by rw[←HB.out,HG.out];simp),HP6.out,HB6.out⟩
    case measure=>simp only[intOf];omega
   | false =>
    rw[hg] at CG4 HG
    go_region_held3 (fun w'=>w'.cell? ⟨d.b,13,none⟩=some (.func (.func 79) #[] #[.pointer (some ⟨d.bp,0,none⟩),.pointer (some ⟨d.bt,0,none⟩),.pointer (some ⟨d.bs,0,none⟩),.pointer (some ⟨d.bq,0,none⟩)]))
     (first | exact KS.out _ _ HP4.out | exact KS.out _ _ HP5.out | exact KS.out _ _ HP6.out)
     (first | (go_at_call 84;(with_reducible refine(CT4.out _).mono ?_);rintro e w5 ⟨rfl,hb5⟩;have HP5:=hid (HP4.out.no hb5);have HB5:Hid (But (Sg vs d i) wr w5):=hid ((But.refl No wr).drew.trans hb5).no;clear hb5) | (go_at_call 79;(with_reducible refine(CG4.out _ HP5.out).mono ?_);rintro e w6 ⟨rfl,h6,b6⟩;have HP6:=hid h6;have HB6:=hid (HW.out.trans (HB5.out.trans b6));clear h6 b6))
    all_goals
     go_wp2
     go_roundw
    case rel=>exact⟨a,M-1,k1,_,rfl,by first | rfl | go_num,by omega,by omega,by omega,by omega,by omega,hid (by rw[←HB.out,HG.out];simp),HP6.out,HB6.out⟩
    case measure=>simp only[intOf];omega
  ·have HE:Hid (RB=(a,mm)):=hid (by rw[←HB.out,biN_stop hab])
   go_wp2
   go_ret
   rw[HE.out]
   exact⟨rfl,HP.out,HW.out⟩
end Go.Proofs.YtikcigjbhohboaaGreat.pln
end
