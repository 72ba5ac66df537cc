/- Part 39 of a proof: PaQ PaQ3 PaQ4. -/
import Derived.Lib.SmallJoins
import Derived.Test.YtikcigjbhohboaaGreatM10
import Derived.Test.YtikcigjbhohboaaGreatM21
import Derived.Test.YtikcigjbhohboaaGreatM38
section
namespace Go.Proofs.YtikcigjbhohboaaGreat.pln
open Go.Lib (hid)
set_option linter.unusedVariables false
set_option linter.unusedSimpArgs false
open Go.ChangeShapes Go.WideShapes Go.ChangeAt Go.RowKit Go.Deep Go.Shelf val ter Go.Sort
attribute [local go_sem] Oper.semAt_some
set_option maxRecDepth 100000 in
set_option maxHeartbeats 8000000 in
theorem rank_top (s:Sys) (A:Option Addr) (n c:Nat) (A':Option Addr) (N c':Nat) (L:List (List Pc)) (w:World) (hs:RSys w A n c s) (hl:RPl w A' N L) :
  Calls Tryz.prog 28 #[sysV s A n c,.slice A' N c'] w fun e w' =>
   (plR s L=false∧e=.returned (.tuple #[.slice none 0 0,.int .i64 1])∧But No w w')∨(plR s L=true∧∃ v vs,e=.returned (.tuple #[v,.int .i64 0])∧RoP w w' v vs (rkV s L)):=by
 have hw1:But No w (w.alloc (.cells (boxS s A n c) 24)):=(But.refl No w).alloc _
 have hly:=lay_any s A n c A' N c' L _ (hs.no hw1) (hl.no hw1)
 have hx0:=Blk.new w (boxS s A n c) 24
 rw[lyB_is] at hly
 have CL:=hid hly
 have HB1:=hid hw1
 have HX0:=hid hx0
 have HL:=hid hl
 have HSN:=hid hs.ts.len
 have CV:Hid (∀ W,Calls Tryz.prog 63 #[sysV s A n c,.slice A' N c'] W fun e w'=>e=.returned (.func (.func 98) #[] #[.pointer (some ⟨W.heap.size+1,0,none⟩),.pointer (some ⟨W.heap.size+1+1,0,none⟩)])∧But No W w'∧w'.heap.size=W.heap.size+3∧Blk w' (W.heap.size+1) #[.slice A' N c'] 25∧Blk w' (W.heap.size+1+1) #[.int .i64 (wrp (s.la-1))] 3):=hid (fun W=>visit_any s A n c A' N c' W)
 obtain⟨b0,b1,b2,b3,b4,b5,b6,b7,b8⟩:=sys_cells hx0
 clear hly hs hl hw1 hx0
 unfold sysV at CV ⊢
 cases hp:plR s L with
 | false =>
  rw[hp] at CL
  clear hp
  unfold sysV at CL
  unfold boxS at CL HB1 b0 b1 b2 b3 b4 b5 b6 b7 b8
  go_enter Tryz.func28,Tryz.ntmps28
  go_wp2_with (go_at_call 62;(with_reducible refine CL.out.mono ?_);rintro e w1 ⟨h1,v,rfl,h2,h3⟩;obtain rfl:=h3 rfl;unfold zeroLy;have H1:=hid h1;clear h1 h2 h3)
  go_ret2
  exact .inl ⟨trivial,rfl,HB1.out.trans (H1.out.alloc _)⟩
 | true =>
  rw[hp] at CL
  obtain⟨hr,hL,hok⟩:=plR_parts hp
  obtain⟨hcs,hla,hn24,_⟩:=right_nums hr
  obtain⟨hL24,hL8⟩:=plR_small hp
  have hn:s.ts.length=n:=HSN.out
  have hNL:=HL.out.len
  have HP:=hid hp
  have HN:Hid (L.length=N∧N≤24∧1≤N):=hid ⟨hNL,by omega,by have:=(right_parts hr).1;unfold vWhole at this;simp only[Bool.and_eq_true,wi_true] at this;omega⟩
  have hN24:N≤24:=by omega
  have HVF:Hid (∀ lt,(vis lt L).length≤192):=hid (fun lt=>vis_few hL8 hL24)
  have HVI:Hid (∀ lt,∀ x ∈ vis lt L,x.i<N∧inR x.p.co):=hid (fun lt x hx=>by
   obtain⟨i,l,k,y,h1,h2,rfl⟩:=vis_mem hx
   obtain⟨_,_,A4,c4,_,_,_,_,hpc⟩:=HL.out.at1 h1
   obtain⟨g1,_⟩:=hpc.fit y (List.mem_of_getElem? h2)
   exact⟨by show i<N;have:=(List.getElem?_eq_some_iff.1 h1).1;omega,g1⟩)
  obtain⟨i40,hi0,hz0,hz1,hz2⟩:=info_parts infoPS
  have I40:Hid (Tryz.prog.info? 38=some i40∧i40.zero=some (.slice none 0 0)∧i40.size=1∧i40.bytes=24):=⟨hi0,hz0,hz1,hz2⟩
  clear hi0 hz0 hz1 hz2
  obtain⟨ip,hi0,hz0,hz1,hz2⟩:=info_parts infoP
  have IP:Hid (Tryz.prog.info? 42=some ip∧ip.zero=some (.agg #[.int .i64 0,.int .i64 0,.int .i64 0,.int .i64 0,.bool false])∧ip.size=5∧ip.bytes=40):=⟨hi0,hz0,hz1,hz2⟩
  clear hp hr hL hok hcs hla hn24 hn hi0 hz0 hz1 hz2 hL24 hL8 hNL
  unfold sysV at CL
  unfold boxS at CL HB1 HX0 b0 b1 b2 b3 b4 b5 b6 b7 b8
  refine(callsIn_wide (n:=8)).1 ?_
  refine callsIn_of_wp_marks Tryz.func28 rfl trivial ?_ rfl
  simp only[Tryz.ntmps28,List.size_toArray,List.length_cons,List.length_nil,Nat.reduceAdd,Nat.reduceSub,Array.replicate_succ,Array.replicate_zero,List.push_toArray,List.append_toArray,List.nil_append,List.cons_append]
  refine wpIn_wide.2 ?_
  go_upto_region 2 with(go_at_call 62;(with_reducible refine CL.out.mono ?_);rintro e w1 ⟨h1,v,rfl,h2,h3⟩;obtain⟨m,b,K,rfl,h4⟩:=h2 rfl;have H1:=hid h1;have H4:=hid h4;clear h1 h2 h3 h4)
  clear b0 b1 b2 b3 b4 b5 b6 b7 b8
  obtain⟨w2,hw2⟩:∃ w2,w1.alloc (.cells #[.int .i64 s.co,.int .i64 s.po,.int .i64 s.pr,.int .i64 s.re,.int .i64 s.sw,.int .i64 s.fi,.int .i64 s.la,.int .i64 s.rs,.slice A n c,.map (some m),.slice (some ⟨b,0,none⟩) n n] 123)=w2:=⟨_,rfl⟩
  have hb2:But No w1 w2:=by rw[←hw2];exact(But.refl No w1).alloc _
  have hk2:Blk w2 w1.heap.size (lyA s A n c m b) 123:=by rw[←hw2];exact Blk.new w1 _ _
  rw[hw2]
  have HB2:=hid (H1.out.trans hb2)
  have HLY:=hid (H4.out.no hb2)
  have HK:=hid hk2
  have hmw:m<w1.heap.size:=H4.out.map.lt
  have hs2:w1.heap.size<w2.heap.size:=hk2.lt
  obtain⟨b0,b1,b2,b3,b4,b5,b6,b7,b8⟩:=sys_cells (HX0.out.but HB2.out (fun f=>f))
  clear hw2 hb2 hk2
  go_upto_region 5 with(at_make;refine wpList_make_full _ rfl _ _ 25 rfl 0 38 i40 _ 1 Tryz.underlying25 I40.out.1 I40.out.2.1 I40.out.2.2.1 .i64 .i64 _ _ N rfl rfl rfl rfl (by rw[I40.out.2.2.2];omega) (by unfold maxLen;omega) (Nat.zero_le _) ?_;intro w3 hown hgrow;have HB3:=hid ((But.refl No w2).grown hgrow (fun k e=>by cases e));have HV3:=hid (RoP.made (HB1.out.trans HB2.out) hown hgrow);clear hown hgrow)
  obtain⟨g,hg⟩:∃ g,w2.heap.size=g:=⟨_,rfl⟩
  rw[hg] at HV3 hs2 ⊢
  clear b0 b1 b2 b3 b4 b5 b6 b7 b8
  obtain⟨w4,hw4⟩:∃ w4,w3.alloc (.cells #[.slice (some ⟨g,0,none⟩) N N] 25)=w4:=⟨_,rfl⟩
  have hb4:But No w3 w4:=by rw[←hw4];exact(But.refl No w3).alloc _
  have hk4:Blk w4 w3.heap.size #[.slice (some ⟨g,0,none⟩) N N] 25:=by rw[←hw4];exact Blk.new w3 _ _
  rw[hw4]
  have hg3:g<w3.heap.size:=(World.ownsRow.lt HV3.out.row g rfl).2
  have HB4:=hid (HB2.out.trans (HB3.out.trans hb4))
  obtain⟨b0,b1,b2,b3,b4,b5,b6,b7,b8⟩:=sys_cells (HX0.out.but HB4.out (fun f=>f))
  have HK4:=hid hk4
  have HV4:=hid (HV3.out.no hb4)
  obtain⟨rb,hrb⟩:∃ rb,w3.heap.size=rb:=⟨_,rfl⟩
  rw[hrb] at HK4 hg3 ⊢
  have HB34:=hid hb4
  clear hw4 hb4 hk4
  go_wp2_with (go_at_call 63;(with_reducible refine(CV.out _).mono ?_);rintro e w5 ⟨rfl,hb5,hz5,hp5,hl5⟩)
  clear b0 b1 b2 b3 b4 b5 b6 b7 b8
  refine(wpIn_wide (n:=8)).1 ?_
  have hr4:rb<w4.heap.size:=HK4.out.lt
  have HB5:=hid hb5
  have HBW:Hid (But No w w5):=hid (HB1.out.trans (HB4.out.trans hb5))
  have HP5:=hid hp5
  have HL5:=hid hl5
  have HK5:=hid (HK4.out.but hb5 (fun f=>f))
  have HV5:=hid (HV4.out.no hb5)
  have hsz5:=hb5.size
  have HQ5:Hid (Blk w5 w1.heap.size (lyA s A n c m b) 123):=hid (HK.out.but (HB3.out.trans (HB34.out.trans hb5)) (fun f=>f))
  have HM5:Hid (MP w5 m K (lyF s L)):=hid (HLY.out.no (HB3.out.trans (HB34.out.trans hb5))).map
  obtain⟨q,hq⟩:∃ q,w1.heap.size=q:=⟨_,rfl⟩
  rw[hq] at HQ5 hmw hs2 ⊢
  obtain⟨lt,hlt⟩:∃ lt,wrp (s.la-1)=lt:=⟨_,rfl⟩
  rw[hlt] at HL5
  have CSE:Hid (∀ (x:Pt) W,Calls Tryz.prog 64 #[ptV x] W fun e w'=>e=.returned (keyV x.p.co (x.i:Int))∧But No W w'):=hid (fun x W=>seat_any x W)
  have HG5:Hid (g<w5.heap.size∧rb<w5.heap.size∧q<w5.heap.size∧m<w5.heap.size):=hid ⟨by omega,by omega,by omega,by omega⟩
  have HWG:Hid (w.heap.size≤g):=hid (HV5.out.new g rfl)
  have HRK:Hid (RkI w w5 g N (List.replicate N []) w5):=hid ⟨⟨List.replicate N (.slice none 0 0),List.length_replicate,HV5.out,fun r u k h1 h2=>by
   rw[List.getElem?_replicate] at h1
   split at h1
   ·cases h1;cases h2
   ·cases h1⟩,But.refl _ _⟩
  clear hb5 hp5 hl5 hlt hq hg hrb CV CL
  have HTR:Hid (∀ W,But No w5 W→(∀ k,TR w.heap.size g W k→k<W.heap.size)∧(∀ k,k<w.heap.size→¬TR w.heap.size g W k)∧¬TR w.heap.size g W (w4.heap.size+1)∧¬TR w.heap.size g W (w4.heap.size+1+1)):=hid (fun W hW=>tr_start HV5.out HG5.out.1 hW (by omega) (by omega) HP5.out HL5.out)
  refine wpIn_rangeFunc_ownH rfl (by omega) (gf:=98) (lb:=#[.pointer (some ⟨w4.heap.size+1,0,none⟩),.pointer (some ⟨w4.heap.size+1+1,0,none⟩)]) rfl trivial (enters_of Tryz.func98 (by kernel_rfl) rfl)
   (visit_stops (8-1) (by omega) (w4.heap.size+1) (w4.heap.size+1+1) lt A' N c' L w HL.out (TR w.heap.size g) (tr_alloc HWG.out) w5 HBW.out HTR.out HP5.out HL5.out)
   KT.trans (fun X l o o' hl ho hc _=>tr_put X l o o' HWG.out (by have:=HG5.out.1;omega) ho hc) (Below.refl _ _) (fun _=>rfl)
   (fun pre W=>RkI w w5 g N (rwS N (rkG s L) (vl pre)) W)
   (fun _ _ _=>False)
   (fun st X Y row hs hg hr=>hs.turn HG5.out.1 hg hr)
   (fun _ _ _ _ _ hs _ _=>hs)
   (by show RkI w w5 g N (rwS N (rkG s L) []) w5;rw[rwS_nil];exact HRK.out)
   (fun x a' W=>∃ Bx,w5.heap.size≤Bx∧Blk W Bx (ptA x.1) 130∧a' = { tmps:=#[.agg #[.int .i64 s.co,.int .i64 s.po,.int .i64 s.pr,.int .i64 s.re,.int .i64 s.sw,.int .i64 s.fi,.int .i64 s.la,.int .i64 s.rs,.slice A n c],.slice A' N c',.pointer (some ⟨w.heap.size,0,none⟩),undef,.slice none 0 0,.int .i64 0,.pointer (some ⟨q,0,none⟩),.bool true,.pointer (some ⟨rb,0,none⟩),.pointer (some ⟨Bx,0,none⟩),.tuple #[lyV s A n c m b,.bool true],.agg #[.int .i64 s.co,.int .i64 s.po,.int .i64 s.pr,.int .i64 s.re,.int .i64 s.sw,.int .i64 s.fi,.int .i64 s.la,.int .i64 s.rs,.slice A n c],.slice A' N c',.tuple #[lyV s A n c m b,.bool true],lyV s A n c m b,.bool true,.bool true,.bool false,.slice A' N c',.int .i64 (N:Int),.slice (some ⟨g,0,none⟩) N N,.agg #[.int .i64 s.co,.int .i64 s.po,.int .i64 s.pr,.int .i64 s.re,.int .i64 s.sw,.int .i64 s.fi,.int .i64 s.la,.int .i64 s.rs,.slice A n c],.slice A' N c',.func (.func 98) #[] #[.pointer (some ⟨w4.heap.size+1,0,none⟩),.pointer (some ⟨w4.heap.size+1+1,0,none⟩)],ptV x.1,undef,undef,undef,undef,undef,undef,undef,undef,undef,undef,undef,undef,undef,undef,undef,undef,undef,undef],defers:=[] })
   (fun x a' st X Y row hs hg hr=>by obtain⟨Bx,h1,h2,h3⟩:=hs;exact⟨Bx,h1,rsp.blk_turn h2 hg (fun k e=>(hr k e).2),h3⟩)
   ?assign ?body ?done ?stop
  case assign =>
   rintro lp pre x W K hi hK
   dsimp only[ptV,ptA]
   gi_wp2
   have hbA:=(But.refl No W).alloc (.cells (ptA x.1) 130)
   exact hK _ _ ((rsp.keeps_but hbA).from _) (tr_no hbA HWG.out) (hi.no hbA) ⟨W.heap.size,hi.but.size,Blk.new W _ _,rfl⟩
  case body =>
   rintro lp pre x a' W hl ⟨r,hr⟩ hi ⟨Bx,hBx,hbx,rfl⟩ hlt9
   obtain⟨hxi,hxc⟩:=HVI.out lt x.1 x.2
   have hlen:pre.length<192:=by have:=HVF.out lt;omega
   obtain⟨u,hcu,hou,huk,_,hpush⟩:=hi.push HG5.out.1 (rwS_at (G:=rkG s L) (l:=vl pre) hxi)
   have HFN:Hid (rwS N (rkG s L) (vl (pre ++ [x]))=(rwS N (rkG s L) (vl pre)).set x.1.i (rwN (rkG s L) (vl pre) x.1.i ++ [rkG s L x.1])):=hid (by rw[vl_snoc];exact rwS_snoc hxi)
   have hll:(rwN (rkG s L) (vl pre) x.1.i).length<192:=Nat.lt_of_le_of_lt (rwN_len _ _ _) (by rw[vl_len];exact hlen)
   have hsW:=hi.but.size
   have hiN:inR (x.1.i:Int):=by unfold inR;omega
   have KEEP0:Hid (∀ W',But (fun k=>u.ownBlock=some k∨k=g) W W'→W'.cell? ⟨rb,0,none⟩=some (.slice (some ⟨g,0,none⟩) N N)∧W'.cell? ⟨q,9,none⟩=some (.map (some m))∧Cl W' Bx 0 x.1∧(Instr.lookup 121 (.map (some m)) (keyV x.1.p.co (x.1.i:Int)) false).run Tryz.prog W'=.ok (ptV (ov (lyF s L x.1.p.co (x.1.i:Int)))) W'):=hid (fun W' hW'=>by
    obtain⟨g1,g2,g3,g4⟩:=HG5.out
    have hS:∀ k,k<w5.heap.size→k≠g→¬(u.ownBlock=some k∨k=g):=fun k hk hne e=>by
     rcases e with e | e
     ·have:=(huk k e).1;omega
     ·exact hne e
    refine⟨((HK5.out.but hi.but (fun e=>by have e':rb=g:=e;omega)).but hW' (hS rb g2 (by omega))).cell rfl,((HQ5.out.but hi.but (fun e=>by have e':q=g:=e;omega)).but hW' (hS q g3 (by omega))).cell (o:=9) rfl,Blk.cl (hbx.but hW' (fun e=>?_)),((HM5.out.but hi.but (fun e=>by have e':m=g:=e;omega)).but hW' (hS m g4 (by omega))).look1 hxc hiN⟩
    rcases e with e | e
    ·obtain⟨_,cur,hb⟩:=huk Bx e
     unfold Blk at hb hbx
     rw[hb] at hbx
     cases hbx
    ·omega)
   have FLD:Hid (∀ W',But No W W'→W'.cell? ⟨g,x.1.i,none⟩=some u):=hid (fun W' hb=>cell_keep hcu hb)
   have OWN:Hid (∀ W',But No W W'→W'.ownsRow 0 42 5 u (rwN (rkG s L) (vl pre) x.1.i).length ((rwN (rkG s L) (vl pre) x.1.i).flatMap pcC)):=hid (fun W' hb=>owns_but hou hb (fun _ _ f=>f))
   have HRG:Hid (rkG s L x.1=(ov (lyF s L x.1.p.co (x.1.i:Int))).p):=hid rfl
   generalize ov (lyF s L x.1.p.co (x.1.i:Int))=YY at KEEP0 HRG
   have AFT:Hid (∀ (W1 w6:World) (A6:Option Addr) (c6:Nat),But No W W1→w6.ownsRow 0 42 5 (.slice A6 ((rwN (rkG s L) (vl pre) x.1.i).length+1) c6) ((rwN (rkG s L) (vl pre) x.1.i).length+1) ((rwN (rkG s L) (vl pre) x.1.i).flatMap pcC ++ pcC YY.p)→W1.grownBy w6 u.ownBlock→((Value.slice A6 ((rwN (rkG s L) (vl pre) x.1.i).length+1) c6).ownBlock=u.ownBlock∨(Value.slice A6 ((rwN (rkG s L) (vl pre) x.1.i).length+1) c6).ownBlock=some W1.heap.size) →
     (w6.cell? ⟨g,x.1.i,none⟩=some u∧w6.frozen? ⟨g,x.1.i,none⟩=false)∧But (fun k=>u.ownBlock=some k∨k=g) W w6∧But (fun k=>u.ownBlock=some k∨k=g) W (w6.setCell ⟨g,x.1.i,none⟩ (.slice A6 ((rwN (rkG s L) (vl pre) x.1.i).length+1) c6))∧KeepsFrom w5.heap.size W (w6.setCell ⟨g,x.1.i,none⟩ (.slice A6 ((rwN (rkG s L) (vl pre) x.1.i).length+1) c6))∧KT (TR w.heap.size g) W (w6.setCell ⟨g,x.1.i,none⟩ (.slice A6 ((rwN (rkG s L) (vl pre) x.1.i).length+1) c6))∧RkI w w5 g N (rwS N (rkG s L) (vl (pre ++ [x]))) (w6.setCell ⟨g,x.1.i,none⟩ (.slice A6 ((rwN (rkG s L) (vl pre) x.1.i).length+1) c6))):=hid (fun W1 w6 A6 c6 hb ho hg hat=>by
    have ho2:OPc w6 (.slice A6 ((rwN (rkG s L) (vl pre) x.1.i).length+1) c6) (rwN (rkG s L) (vl pre) x.1.i ++ [rkG s L x.1]):=by
     unfold OPc
     rw[List.length_append,List.flatMap_append,HRG.out]
     simpa using ho
    obtain⟨h1,h2,h3,h4,h5⟩:=hpush W1 w6 _ _ hb hg ho2 hat
    refine⟨h1,hb.no.trans ((But.refl _ W1).grown hg (fun k e=>.inl (.inl e))),h2,h3,h4,?_⟩
    rw[HFN.out];exact h5)
   have CSX:=hid (fun W'=>CSE.out x.1 W')
   generalize rwN (rkG s L) (vl pre) x.1.i=LL at OWN AFT hll
   have hxi2:(x.1.i:Int)<(N:Int):=by omega
   have hxi0:(0:Int)≤(x.1.i:Int):=Int.natCast_nonneg _
   clear hiN hxc hi hbx hlen hlt9 HFN HRG hl hr hcu hou huk hpush
   obtain⟨⟨⟨x0,x1,x2,x3,x4⟩,xi,xk,xl,xd,xj⟩,hx⟩:=x
   obtain⟨⟨y0,y1,y2,y3,y4⟩,yi,yk,yl,yn,yj⟩:=YY
   dsimp only[ptV,ptA,keyV] at *
   have KEEP:Hid (∀ W',But (fun k=>u.ownBlock=some k∨k=g) W W'→W'.cell? ⟨rb,0,none⟩=some (.slice (some ⟨g,0,none⟩) N N)∧W'.cell? ⟨q,9,none⟩=some (.map (some m))∧(W'.cell? ⟨Bx,0,none⟩=some (.int .i64 x0)∧W'.cell? ⟨Bx,1,none⟩=some (.int .i64 x1)∧W'.cell? ⟨Bx,2,none⟩=some (.int .i64 x2)∧W'.cell? ⟨Bx,3,none⟩=some (.int .i64 x3)∧W'.cell? ⟨Bx,4,none⟩=some (.bool x4)∧W'.cell? ⟨Bx,5,none⟩=some (.int .i64 (xi:Int))∧W'.cell? ⟨Bx,6,none⟩=some (.int .i64 (xk:Int))∧W'.cell? ⟨Bx,7,none⟩=some (.bool xl)∧W'.cell? ⟨Bx,8,none⟩=some (.int .i64 xd)∧W'.cell? ⟨Bx,9,none⟩=some (.int .i64 xj))∧(Instr.lookup 121 (.map (some m)) (.agg #[.int .i64 x0,.int .i64 (xi:Int)]) false).run Tryz.prog W'=.ok (.agg #[.int .i64 y0,.int .i64 y1,.int .i64 y2,.int .i64 y3,.bool y4,.int .i64 (yi:Int),.int .i64 (yk:Int),.bool yl,.int .i64 yn,.int .i64 yj]) W'):=hid (fun W' hW'=>by
    obtain⟨h0,h1,h2,h3⟩:=KEEP0.out W' hW'
    obtain⟨c0,c1,c2,c3,c4,c5,c6,c7,c8,c9⟩:=h2
    simp only[Nat.zero_add] at c0 c1 c2 c3 c4 c5 c6 c7 c8 c9
    exact⟨h0,h1,⟨c0,c1,c2,c3,c4,c5,c6,c7,c8,c9⟩,h3⟩)
   have HFLD:Hid (∀ W',(Instr.field 130 (.agg #[.int .i64 y0,.int .i64 y1,.int .i64 y2,.int .i64 y3,.bool y4,.int .i64 (yi:Int),.int .i64 (yk:Int),.bool yl,.int .i64 yn,.int .i64 yj]) 0).run Tryz.prog W'=.ok (.agg #[.int .i64 y0,.int .i64 y1,.int .i64 y2,.int .i64 y3,.bool y4]) W'):=hid (fun W'=>by rfl)
   clear KEEP0
   gi_upto_region 7 with fail
   refine region_round_held (S:=fun W'=>W'.cell? ⟨rb,0,none⟩=some (.slice (some ⟨g,0,none⟩) N N)∧W'.cell? ⟨q,9,none⟩=some (.map (some m))∧(W'.cell? ⟨Bx,0,none⟩=some (.int .i64 x0)∧W'.cell? ⟨Bx,1,none⟩=some (.int .i64 x1)∧W'.cell? ⟨Bx,2,none⟩=some (.int .i64 x2)∧W'.cell? ⟨Bx,3,none⟩=some (.int .i64 x3)∧W'.cell? ⟨Bx,4,none⟩=some (.bool x4)∧W'.cell? ⟨Bx,5,none⟩=some (.int .i64 (xi:Int))∧W'.cell? ⟨Bx,6,none⟩=some (.int .i64 (xk:Int))∧W'.cell? ⟨Bx,7,none⟩=some (.bool xl)∧W'.cell? ⟨Bx,8,none⟩=some (.int .i64 xd)∧W'.cell? ⟨Bx,9,none⟩=some (.int .i64 xj))∧(Instr.lookup 121 (.map (some m)) (.agg #[.int .i64 x0,.int .i64 (xi:Int)]) false).run Tryz.prog W'=.ok (.agg #[.int .i64 y0,.int .i64 y1,.int .i64 y2,.int .i64 y3,.bool y4,.int .i64 (yi:Int),.int .i64 (yk:Int),.bool yl,.int .i64 yn,.int .i64 yj]) W') (by kernel_rfl) (by kernel_rfl) (KEEP.out _ (But.refl _ W).drew) (fun hHeld=>?_)
   refine wpAnyH_take (i:=0) (v:=?va1) rfl (by kernel_rfl) (by kernel_rfl) (by kernel_rfl) (fun _ _ _ h=>(by cases h.1)) (Or.inl ⟨by rfl,?hya1⟩) (by assumption) ?resta1
   case hya1=>(intro w hSw;(try dsimp only at hSw);go_simp <;> with_reducible rfl)
   try simp only[Act.put,List.setIfInBounds_toArray,List.set_cons_zero,List.set_cons_succ]
   refine wpAnyH_take (i:=1) (v:=?va2) rfl (by kernel_rfl) (by kernel_rfl) (by kernel_rfl) (fun _ _ _ h=>(by cases h.1)) (Or.inl ⟨by rfl,?hya2⟩) (by assumption) ?resta2
   case hya2=>(intro w hSw;(try dsimp only at hSw);go_simp <;> with_reducible rfl)
   try simp only[Act.put,List.setIfInBounds_toArray,List.set_cons_zero,List.set_cons_succ]
   refine wpAnyH_take (i:=2) (v:=?va3) rfl (by kernel_rfl) (by kernel_rfl) (by kernel_rfl) (fun _ _ _ h=>(by cases h.1)) (Or.inl ⟨by rfl,?hya3⟩) (by assumption) ?resta3
   case hya3=>(intro w hSw;(try dsimp only at hSw);go_simp <;> with_reducible rfl)
   try simp only[Act.put,List.setIfInBounds_toArray,List.set_cons_zero,List.set_cons_succ]
   refine wpAnyH_take (i:=3) (v:=?va4) rfl (by kernel_rfl) (by kernel_rfl) (by kernel_rfl) (fun _ _ _ h=>(by cases h.1)) (Or.inl ⟨by rfl,?hya4⟩) (by assumption) ?resta4
   case hya4=>(intro w hSw;(try dsimp only at hSw);go_simp <;> with_reducible rfl)
   try simp only[Act.put,List.setIfInBounds_toArray,List.set_cons_zero,List.set_cons_succ]
   refine wpAnyH_take (i:=4) (v:=?va5) rfl (by kernel_rfl) (by kernel_rfl) (by kernel_rfl) (fun _ _ _ h=>(by cases h.1)) (Or.inl ⟨by rfl,?hya5⟩) (by assumption) ?resta5
   case hya5=>(intro w hSw;(try dsimp only at hSw);go_simp <;> with_reducible rfl)
   try simp only[Act.put,List.setIfInBounds_toArray,List.set_cons_zero,List.set_cons_succ]
   refine wpAnyH_take (i:=5) (v:=?va6) rfl (by kernel_rfl) (by kernel_rfl) (by kernel_rfl) (fun _ _ _ h=>(by cases h.1)) (Or.inl ⟨by rfl,?hya6⟩) (by assumption) ?resta6
   case hya6=>(intro w hSw;(try dsimp only at hSw);go_simp <;> with_reducible rfl)
   try simp only[Act.put,List.setIfInBounds_toArray,List.set_cons_zero,List.set_cons_succ]
   refine wpAnyH_take (i:=6) (v:=?va7) rfl (by kernel_rfl) (by kernel_rfl) (by kernel_rfl) (fun _ _ _ h=>(by cases h.1)) (Or.inl ⟨by rfl,?hya7⟩) (by assumption) ?resta7
   case hya7=>(intro w hSw;(try dsimp only at hSw);go_simp <;> with_reducible rfl)
   try simp only[Act.put,List.setIfInBounds_toArray,List.set_cons_zero,List.set_cons_succ]
   refine wpAnyH_take (i:=8) (v:=?va8) rfl (by kernel_rfl) (by kernel_rfl) (by kernel_rfl) (fun _ _ _ h=>(by cases h.1)) (Or.inl ⟨by rfl,?hya8⟩) (by assumption) ?resta8
   case hya8=>(intro w hSw;(try dsimp only at hSw);go_simp <;> with_reducible rfl)
   try simp only[Act.put,List.setIfInBounds_toArray,List.set_cons_zero,List.set_cons_succ]
   refine wpAnyH_take (i:=9) (v:=?va9) rfl (by kernel_rfl) (by kernel_rfl) (by kernel_rfl) (fun _ _ _ h=>(by cases h.1)) (Or.inl ⟨by rfl,?hya9⟩) (by assumption) ?resta9
   case hya9=>(intro w hSw;(try dsimp only at hSw);go_simp <;> with_reducible rfl)
   try simp only[Act.put,List.setIfInBounds_toArray,List.set_cons_zero,List.set_cons_succ]
   refine wpAnyH_take (i:=10) (v:=?va10) rfl (by kernel_rfl) (by kernel_rfl) (by kernel_rfl) (fun _ _ _ h=>(by cases h.1)) (Or.inl ⟨by rfl,?hya10⟩) (by assumption) ?resta10
   case hya10=>(intro w hSw;(try dsimp only at hSw);go_simp <;> with_reducible rfl)
   try simp only[Act.put,List.setIfInBounds_toArray,List.set_cons_zero,List.set_cons_succ]
   refine wpAnyH_ready (rs:=[7,11]) (by kernel_rfl) (by simp) ?_
   refine AllReadyH.cons rfl (fun K hK=>?_) ?_
   ·skip
    have e0:=FLD.out _ (But.refl No W).drew
    go_simp
    refine hK.out _ _ (KEEP.out _ (But.refl _ W).drew) (fun hHeld=>?_)
    clear hK K
    try simp only[Act.put,List.setIfInBounds_toArray,List.set_cons_zero,List.set_cons_succ]
    clear e0
    refine wpAnyH_ready (rs:=[11]) (by kernel_rfl) (by simp) ?_
    refine AllReadyH.cons rfl (fun K hK=>?_) AllReadyH.nil
    (go_simp;go_at_call 64;(with_reducible refine(CSX.out _).mono ?_);rintro e wC ⟨rfl,hbC⟩;have HBC:Hid (But No W wC):=hid ((But.refl No W).drew.trans hbC);clear hbC)
    refine hK.out _ _ (KEEP.out _ HBC.out.no) (fun hHeld=>?_)
    clear hK K
    try simp only[Act.put,List.setIfInBounds_toArray,List.set_cons_zero,List.set_cons_succ]
    refine wpAnyH_take (i:=12) (v:=?va11) rfl (by kernel_rfl) (by kernel_rfl) (by kernel_rfl) (fun _ _ _ h=>(by cases h.1)) (Or.inl ⟨by rfl,?hya11⟩) (by assumption) ?resta11
    case hya11=>(intro w hSw;(try dsimp only at hSw);go_simp <;> with_reducible rfl)
    try simp only[Act.put,List.setIfInBounds_toArray,List.set_cons_zero,List.set_cons_succ]
    refine wpAnyH_take (i:=13) (v:=.agg #[.int .i64 y0,.int .i64 y1,.int .i64 y2,.int .i64 y3,.bool y4]) rfl (by kernel_rfl) (by kernel_rfl) (by kernel_rfl) (fun _ _ _ h=>(by cases h.1)) (Or.inl ⟨by rfl,?hya12⟩) (by assumption) ?resta12
    case hya12=>(intro w hSw;(try dsimp only at hSw);go_simp;rw[HFLD.out];rfl)
    try simp only[Act.put,List.setIfInBounds_toArray,List.set_cons_zero,List.set_cons_succ]
    refine wpAnyH_ready (rs:=[14]) (by kernel_rfl) (by simp) ?_
    refine AllReadyH.cons rfl (fun K hK=>?_) AllReadyH.nil
    go_simp
    refine hK.out _ _ (KEEP.out _ (HBC.out.alloc _).no) (fun hHeld=>?_)
    clear hK K
    try simp only[Act.put,List.setIfInBounds_toArray,List.set_cons_zero,List.set_cons_succ]
    refine wpAnyH_ready (rs:=[15]) (by kernel_rfl) (by simp) ?_
    refine AllReadyH.cons rfl (fun K hK=>?_) AllReadyH.nil
    refine step_append_sh rfl _ _ 38 rfl 42 ip _ 5 40 Tryz.underlying38 IP.out.1 IP.out.2.1 IP.out.2.2.1 IP.out.2.2.2 rfl (by omega) u LL.length (LL.flatMap pcC) (by simp[Act.eval]) (OWN.out _ (HBC.out.alloc (.cells #[.int .i64 y0,.int .i64 y1,.int .i64 y2,.int .i64 y3,.bool y4] 42))) (wC.heap.size+1) (some ⟨wC.heap.size,0,none⟩) 1 1 (pcC ⟨y0,y1,y2,y3,y4⟩) (by simp[Act.eval]) (pc_one_reads wC ⟨y0,y1,y2,y3,y4⟩ _) (pc_one_cell _) (by unfold maxLen;omega) (by omega) ?_
    intro A6 c6 w6 hown6 hgrow6 hat6
    have HP6:=hid (AFT.out _ w6 A6 c6 (HBC.out.alloc (.cells #[.int .i64 y0,.int .i64 y1,.int .i64 y2,.int .i64 y3,.bool y4] 42)) hown6.out hgrow6.out hat6.out)
    have e0:=HP6.out.1.1
    have e1:=HP6.out.1.2
    clear hown6 hgrow6 hat6
    refine hK.out _ _ (KEEP.out _ HP6.out.2.1) (fun hHeld=>?_)
    clear hK K
    try simp only[Act.put,List.setIfInBounds_toArray,List.set_cons_zero,List.set_cons_succ]
    refine wpAnyH_take (i:=16) (v:=?va13) rfl (by kernel_rfl) (by kernel_rfl) (by kernel_rfl) (fun _ _ _ h=>(by cases h.1)) (Or.inl ⟨by rfl,?hya13⟩) (by assumption) ?resta13
    case hya13=>(intro w hSw;(try dsimp only at hSw);go_simp <;> with_reducible rfl)
    try simp only[Act.put,List.setIfInBounds_toArray,List.set_cons_zero,List.set_cons_succ]
    refine wpAnyH_ready (rs:=[17]) (by kernel_rfl) (by simp) ?_
    refine AllReadyH.cons rfl (fun K hK=>?_) AllReadyH.nil
    go_simp
    refine hK.out _ _ (KEEP.out _ HP6.out.2.2.1) (fun hHeld=>?_)
    clear hK K
    try simp only[Act.put,List.setIfInBounds_toArray,List.set_cons_zero,List.set_cons_succ]
    refine wpAnyH_done (by kernel_rfl) ?_ _
    refine⟨rfl,?_⟩
    clear e0 e1 hHeld
    gi_wp2_with fail
    exact HP6.out.2.2.2
   ·skip
    refine AllReadyH.cons rfl (fun K hK=>?_) AllReadyH.nil
    (go_simp;go_at_call 64;(with_reducible refine(CSX.out _).mono ?_);rintro e wC ⟨rfl,hbC⟩;have HBC:Hid (But No W wC):=hid ((But.refl No W).drew.trans hbC);clear hbC)
    refine hK.out _ _ (KEEP.out _ HBC.out.no) (fun hHeld=>?_)
    clear hK K
    try simp only[Act.put,List.setIfInBounds_toArray,List.set_cons_zero,List.set_cons_succ]
    refine wpAnyH_take (i:=12) (v:=?va14) rfl (by kernel_rfl) (by kernel_rfl) (by kernel_rfl) (fun _ _ _ h=>(by cases h.1)) (Or.inl ⟨by rfl,?hya14⟩) (by assumption) ?resta14
    case hya14=>(intro w hSw;(try dsimp only at hSw);go_simp <;> with_reducible rfl)
    try simp only[Act.put,List.setIfInBounds_toArray,List.set_cons_zero,List.set_cons_succ]
    refine wpAnyH_take (i:=13) (v:=.agg #[.int .i64 y0,.int .i64 y1,.int .i64 y2,.int .i64 y3,.bool y4]) rfl (by kernel_rfl) (by kernel_rfl) (by kernel_rfl) (fun _ _ _ h=>(by cases h.1)) (Or.inl ⟨by rfl,?hya15⟩) (by assumption) ?resta15
    case hya15=>(intro w hSw;(try dsimp only at hSw);go_simp;rw[HFLD.out];rfl)
    try simp only[Act.put,List.setIfInBounds_toArray,List.set_cons_zero,List.set_cons_succ]
    refine wpAnyH_ready (rs:=[7,14]) (by kernel_rfl) (by simp) ?_
    refine AllReadyH.cons rfl (fun K hK=>?_) ?_
    ·skip
     have e0:=FLD.out _ HBC.out
     go_simp
     refine hK.out _ _ (KEEP.out _ HBC.out.no) (fun hHeld=>?_)
     clear hK K
     try simp only[Act.put,List.setIfInBounds_toArray,List.set_cons_zero,List.set_cons_succ]
     clear e0
     refine wpAnyH_ready (rs:=[14]) (by kernel_rfl) (by simp) ?_
     refine AllReadyH.cons rfl (fun K hK=>?_) AllReadyH.nil
     go_simp
     refine hK.out _ _ (KEEP.out _ (HBC.out.alloc _).no) (fun hHeld=>?_)
     clear hK K
     try simp only[Act.put,List.setIfInBounds_toArray,List.set_cons_zero,List.set_cons_succ]
     refine wpAnyH_ready (rs:=[15]) (by kernel_rfl) (by simp) ?_
     refine AllReadyH.cons rfl (fun K hK=>?_) AllReadyH.nil
     refine step_append_sh rfl _ _ 38 rfl 42 ip _ 5 40 Tryz.underlying38 IP.out.1 IP.out.2.1 IP.out.2.2.1 IP.out.2.2.2 rfl (by omega) u LL.length (LL.flatMap pcC) (by simp[Act.eval]) (OWN.out _ (HBC.out.alloc (.cells #[.int .i64 y0,.int .i64 y1,.int .i64 y2,.int .i64 y3,.bool y4] 42))) (wC.heap.size+1) (some ⟨wC.heap.size,0,none⟩) 1 1 (pcC ⟨y0,y1,y2,y3,y4⟩) (by simp[Act.eval]) (pc_one_reads wC ⟨y0,y1,y2,y3,y4⟩ _) (pc_one_cell _) (by unfold maxLen;omega) (by omega) ?_
     intro A6 c6 w6 hown6 hgrow6 hat6
     have HP6:=hid (AFT.out _ w6 A6 c6 (HBC.out.alloc (.cells #[.int .i64 y0,.int .i64 y1,.int .i64 y2,.int .i64 y3,.bool y4] 42)) hown6.out hgrow6.out hat6.out)
     have e0:=HP6.out.1.1
     have e1:=HP6.out.1.2
     clear hown6 hgrow6 hat6
     refine hK.out _ _ (KEEP.out _ HP6.out.2.1) (fun hHeld=>?_)
     clear hK K
     try simp only[Act.put,List.setIfInBounds_toArray,List.set_cons_zero,List.set_cons_succ]
     refine wpAnyH_take (i:=16) (v:=?va16) rfl (by kernel_rfl) (by kernel_rfl) (by kernel_rfl) (fun _ _ _ h=>(by cases h.1)) (Or.inl ⟨by rfl,?hya16⟩) (by assumption) ?resta16
     case hya16=>(intro w hSw;(try dsimp only at hSw);go_simp <;> with_reducible rfl)
     try simp only[Act.put,List.setIfInBounds_toArray,List.set_cons_zero,List.set_cons_succ]
     refine wpAnyH_ready (rs:=[17]) (by kernel_rfl) (by simp) ?_
     refine AllReadyH.cons rfl (fun K hK=>?_) AllReadyH.nil
     go_simp
     refine hK.out _ _ (KEEP.out _ HP6.out.2.2.1) (fun hHeld=>?_)
     clear hK K
     try simp only[Act.put,List.setIfInBounds_toArray,List.set_cons_zero,List.set_cons_succ]
     refine wpAnyH_done (by kernel_rfl) ?_ _
     refine⟨rfl,?_⟩
     clear e0 e1 hHeld
     gi_wp2_with fail
     exact HP6.out.2.2.2
    ·skip
     refine AllReadyH.cons rfl (fun K hK=>?_) AllReadyH.nil
     go_simp
     refine hK.out _ _ (KEEP.out _ (HBC.out.alloc _).no) (fun hHeld=>?_)
     clear hK K
     try simp only[Act.put,List.setIfInBounds_toArray,List.set_cons_zero,List.set_cons_succ]
     have e0:=FLD.out _ (HBC.out.alloc (.cells #[.int .i64 y0,.int .i64 y1,.int .i64 y2,.int .i64 y3,.bool y4] 42))
     refine wpAnyH_ready (rs:=[7]) (by kernel_rfl) (by simp) ?_
     refine AllReadyH.cons rfl (fun K hK=>?_) AllReadyH.nil
     go_simp
     refine hK.out _ _ (KEEP.out _ (HBC.out.alloc _).no) (fun hHeld=>?_)
     clear hK K
     try simp only[Act.put,List.setIfInBounds_toArray,List.set_cons_zero,List.set_cons_succ]
     clear e0
     refine wpAnyH_ready (rs:=[15]) (by kernel_rfl) (by simp) ?_
     refine AllReadyH.cons rfl (fun K hK=>?_) AllReadyH.nil
     refine step_append_sh rfl _ _ 38 rfl 42 ip _ 5 40 Tryz.underlying38 IP.out.1 IP.out.2.1 IP.out.2.2.1 IP.out.2.2.2 rfl (by omega) u LL.length (LL.flatMap pcC) (by simp[Act.eval]) (OWN.out _ (HBC.out.alloc (.cells #[.int .i64 y0,.int .i64 y1,.int .i64 y2,.int .i64 y3,.bool y4] 42))) (wC.heap.size+1) (some ⟨wC.heap.size,0,none⟩) 1 1 (pcC ⟨y0,y1,y2,y3,y4⟩) (by simp[Act.eval]) (pc_one_reads wC ⟨y0,y1,y2,y3,y4⟩ _) (pc_one_cell _) (by unfold maxLen;omega) (by omega) ?_
     intro A6 c6 w6 hown6 hgrow6 hat6
     have HP6:=hid (AFT.out _ w6 A6 c6 (HBC.out.alloc (.cells #[.int .i64 y0,.int .i64 y1,.int .i64 y2,.int .i64 y3,.bool y4] 42)) hown6.out hgrow6.out hat6.out)
     have e0:=HP6.out.1.1
     have e1:=HP6.out.1.2
     clear hown6 hgrow6 hat6
     refine hK.out _ _ (KEEP.out _ HP6.out.2.1) (fun hHeld=>?_)
     clear hK K
     try simp only[Act.put,List.setIfInBounds_toArray,List.set_cons_zero,List.set_cons_succ]
     refine wpAnyH_take (i:=16) (v:=?va17) rfl (by kernel_rfl) (by kernel_rfl) (by kernel_rfl) (fun _ _ _ h=>(by cases h.1)) (Or.inl ⟨by rfl,?hya17⟩) (by assumption) ?resta17
     case hya17=>(intro w hSw;(try dsimp only at hSw);go_simp <;> with_reducible rfl)
     try simp only[Act.put,List.setIfInBounds_toArray,List.set_cons_zero,List.set_cons_succ]
     refine wpAnyH_ready (rs:=[17]) (by kernel_rfl) (by simp) ?_
     refine AllReadyH.cons rfl (fun K hK=>?_) AllReadyH.nil
     go_simp
     refine hK.out _ _ (KEEP.out _ HP6.out.2.2.1) (fun hHeld=>?_)
     clear hK K
     try simp only[Act.put,List.setIfInBounds_toArray,List.set_cons_zero,List.set_cons_succ]
     refine wpAnyH_done (by kernel_rfl) ?_ _
     refine⟨rfl,?_⟩
     clear e0 e1 hHeld
     gi_wp2_with fail
     exact HP6.out.2.2.2
  case done =>
   rintro D ys W hD rfl hi hK
   rw[vl_all] at hi
   have hrk:rwS N (rkG s L) (vis lt L)=rkV s L:=by rw[←HN.out.1];exact rkG_all HL.out HP.out lt
   rw[hrk] at hi
   have k0:=(HK5.out.but hi.but (fun e=>by have e':rb=g:=e;omega)).cell (o:=0) rfl
   obtain⟨⟨vs,h1,h2,_⟩,_⟩:=hi.turn HG5.out.1 (grownBy_putObj' W D (.deferred none)) (fun r e=>by cases e;exact⟨hD,_,hK,rfl⟩)
   have HRES:=hid h2
   have HKD:=hid hK
   clear h1 h2 hi hrk hK
   gi_upto_region 8 with fail
   go_wp2_with fail
   refine⟨by simp,.inl ⟨_,_,rfl,run_takeDeferred HKD.out,?_⟩⟩
   exact⟨.tuple #[.slice (some ⟨g,0,none⟩) N N,.int .i64 0],by simp[results,Tryz.results28,go_sem],.inr ⟨trivial,_,vs,rfl,HRES.out⟩⟩
  case stop =>
   rintro D c' pre W hD hp h
   exact h.elim
end Go.Proofs.YtikcigjbhohboaaGreat.pln
end
section
namespace Go.Proofs.YtikcigjbhohboaaGreat.pln
set_option linter.unusedVariables false
set_option linter.unusedSimpArgs false
open Go.ChangeShapes Go.WideShapes Go.ChangeAt Go.RowKit Go.Deep val ter
theorem rk_sizes {s:Sys} {L:List (List Pc)} {w:World} {A':Option Addr} {N:Nat} (hl:RPl w A' N L) (hr:plR s L=true):(rkV s L).length=N∧(∀ m ∈ rkV s L,m.length≤8)∧∀ m ∈ rkV s L,∀ x ∈ m,inR x.co∧inR x.bu∧inR x.de∧inR x.pr:=by
 obtain⟨h1,h2⟩:=plR_small hr
 refine⟨by rw[rkV_len,hl.len],fun m hm=>?_,fun m hm x hx=>?_⟩
 ·obtain⟨i,l,h3,rfl⟩:=rkV_mem hm
  have:=h2 l (List.mem_of_getElem? h3)
  unfold rkL;rw[List.length_map];omega
 ·obtain⟨i,l,h3,rfl⟩:=rkV_mem hm
  unfold rkL at hx
  obtain⟨y,hy,rfl⟩:=List.mem_map.1 hx
  obtain⟨_,_,_,_,_,_,_,_,hp⟩:=hl.at1 h3
  have h4:=hp.fit y hy
  have h5:=rk_pr (s:=s) (i:=i) (x:=y) h1 h2
  refine⟨h4.1,h4.2.1,h4.2.2.1,?_⟩
  unfold inR;omega
theorem rank_ok {s:Sys} {A:Option Addr} {n c:Nat} {A':Option Addr} {N c':Nat} {L:List (List Pc)} {w:World} (hs:RSys w A n c s) (hl:RPl w A' N L) (hr:plR s L=true):Calls Tryz.prog 28 #[sysV s A n c,.slice A' N c'] w fun e w'=>∃ A1 c1,e=.returned (.tuple #[.slice A1 N c1,.int .i64 0])∧But No w w'∧RPl w' A1 N (rkV s L):=by
 refine(rank_top s A n c A' N c' L w hs hl).mono ?_
 rintro e w' (⟨h,_⟩ | ⟨_,v,vs,rfl,h⟩)
 ·rw[hr] at h;cases h
 obtain⟨h1,h2,h3⟩:=rk_sizes hl hr
 have h24:=(plR_small hr).1
 obtain⟨A1,c1,e1,h4⟩:=h.pl (by rw[h1,←hl.len];omega) (fun m hm=>by have:=h2 m hm;omega) h3
 rw[h1] at e1 h4
 subst e1
 exact⟨A1,c1,rfl,h.but,h4⟩
theorem rank_no {s:Sys} {A:Option Addr} {n c:Nat} {A':Option Addr} {N c':Nat} {L:List (List Pc)} {w:World} (hs:RSys w A n c s) (hl:RPl w A' N L) (hr:plR s L=false):Calls Tryz.prog 28 #[sysV s A n c,.slice A' N c'] w fun e w'=>e=.returned (.tuple #[.slice none 0 0,.int .i64 1])∧But No w w':=by
 refine(rank_top s A n c A' N c' L w hs hl).mono ?_
 rintro e w' (⟨_,h⟩ | ⟨h,_⟩)
 ·exact h
 ·rw[hr] at h;cases h
theorem ceVlen (s:Sys) (L:List (List Pc)):(ceV s L).length=s.co.toNat:=by unfold ceV;rw[List.length_map,List.length_range]
theorem ceRlen (s:Sys) (L:List (List Pc)) (c:Nat):(ceR s L c).length=s.rs.toNat:=by unfold ceR;rw[List.length_map,List.length_range]
theorem ceil_ok {s:Sys} {A:Option Addr} {n c:Nat} {A':Option Addr} {N c':Nat} {L:List (List Pc)} {w:World} (hs:RSys w A n c s) (hl:RPl w A' N L) (hr:plR s L=true):Calls Tryz.prog 45 #[sysV s A n c,.slice A' N c'] w fun e w'=>∃ AZ cZ,e=.returned (.tuple #[.slice AZ s.co.toNat cZ,.int .i64 0])∧But No w w'∧RNs w' AZ s.co.toNat (ceV s L):=by
 refine(ceil_top s A n c A' N c' L w hs hl).mono ?_
 rintro e w' (⟨h,_⟩ | ⟨_,v,vs,rfl,h⟩)
 ·rw[hr] at h;cases h
 obtain⟨hcs,hla,hn24,_⟩:=right_nums (plR_parts hr).1
 obtain⟨_,_,hrs⟩:=right_pr (plR_parts hr).1
 obtain⟨AZ,cZ,rfl,hz⟩:=h.ns (by rw[ceVlen];omega) (fun l hl=>by
  unfold ceV at hl
  obtain⟨k,_,rfl⟩:=List.mem_map.1 hl
  rw[ceRlen];omega)
 rw[ceVlen] at hz
 exact⟨AZ,cZ,by rw[ceVlen],h.but,hz⟩
end Go.Proofs.YtikcigjbhohboaaGreat.pln
end
section
namespace Go.Proofs.YtikcigjbhohboaaGreat.pln
set_option linter.unusedVariables false
set_option linter.unusedSimpArgs false
open Go.ChangeShapes Go.WideShapes Go.ChangeAt Go.RowKit Go.Deep val ter
def Lv (w:World) (b N:Nat):Prop:=∃ cur e,Blk w b cur e∧N≤cur.size
theorem Lv.cell {w:World} {b N o:Nat} (h:Lv w b N) (ho:o<N):(∃ u,w.cell? ⟨b,o,none⟩=some u)∧w.frozen? ⟨b,o,none⟩=false:=by
 obtain⟨cur,e,hb,hn⟩:=h
 exact⟨⟨cur[o]'(by omega),hb.cell (Array.getElem?_eq_getElem (by omega))⟩,hb.frozen o⟩
theorem Lv.set {w:World} {b N a o:Nat} (h:Lv w b N) (v:Value):Lv (w.setCell ⟨a,o,none⟩ v) b N:=by
 obtain⟨cur,e,hb,hn⟩:=h
 by_cases hab:b=a
 ·subst hab
  exact⟨_,e,hb.set o v,by simpa using hn⟩
 ·exact⟨cur,e,hb.other hab v,hn⟩
theorem Lv.but {S:Nat→Prop} {w w':World} {b N:Nat} (h:Lv w b N) (hb:But S w w') (hs:¬S b):Lv w' b N:=by
 obtain⟨cur,e,h1,hn⟩:=h
 exact⟨cur,e,h1.but hb hs,hn⟩
theorem owns_lv {w:World} {e:TypeId} {size n c:Nat} {A:Option Addr} {xs:List Value} (h:w.ownsRow 0 e size (.slice A n c) n xs) (hn:0<n):∃ g,A=some ⟨g,0,none⟩∧Lv w g (n*size):=by
 rcases h.2 with⟨e1,h0⟩ | ⟨g,cap,cur,hv,_,hh,hc,_,hs,_⟩
 ·omega
 ·cases hv
  exact⟨g,rfl,cur,e,hh,by rw[hs];exact Nat.mul_le_mul_right _ hc⟩
def Ud (vs:List Value) (i z:Nat):Prop:=∃ (j:Nat) (u:Value),j<i∧vs[j]? = some u∧u.ownBlock=some z
theorem Ud.more {vs:List Value} {i z:Nat} (h:Ud vs i z):Ud vs (i+1) z:=by
 obtain⟨j,u,h1,h2⟩:=h
 exact⟨j,u,by omega,h2⟩
theorem RoP.ud {w W:World} {v:Value} {vs:List Value} {Ls:List (List Pc)} (h:RoP w W v vs Ls) {i z:Nat} (hz:Ud vs i z):w.heap.size≤z∧v.ownBlock≠some z:=by
 obtain⟨j,u,_,hu,e⟩:=hz
 obtain⟨l,hl⟩:∃ l,Ls[j]? = some l:=⟨_,List.getElem?_eq_getElem (by rw[←h.len];exact(List.getElem?_eq_some_iff.1 hu).1)⟩
 exact⟨(h.own j u l hu hl).2 z e,h.nb j u z hu e⟩
theorem RoP.rows {w W:World} {v:Value} {vs:List Value} {Ls:List (List Pc)} (h:RoP w W v vs Ls) {r:Nat} {u:Value} {k:Nat} (hu:vs[r]? = some u) (hk:u.ownBlock=some k):k<W.heap.size:=by
 obtain⟨l,hl⟩:∃ l,Ls[r]? = some l:=⟨_,List.getElem?_eq_getElem (by rw[←h.len];exact(List.getElem?_eq_some_iff.1 hu).1)⟩
 exact(World.ownsRow.lt (h.own r u l hu hl).1 k hk).2
theorem ro_five {W:World} {z o:Nat} {v0 v1 v2 v3 v4:Value} {N:Nat} {S:Nat→Prop} {w:World} (hb:But S w W) (hl:Lv W z N) (hS:S z):But S w (((((W.setCell ⟨z,o,none⟩ v0).setCell ⟨z,o+1,none⟩ v1).setCell ⟨z,o+2,none⟩ v2).setCell ⟨z,o+3,none⟩ v3).setCell ⟨z,o+4,none⟩ v4)∧Lv (((((W.setCell ⟨z,o,none⟩ v0).setCell ⟨z,o+1,none⟩ v1).setCell ⟨z,o+2,none⟩ v2).setCell ⟨z,o+3,none⟩ v3).setCell ⟨z,o+4,none⟩ v4) z N :=
 ⟨((((hb.setCell (p:=⟨z,o,none⟩) hS v0).setCell (p:=⟨z,o+1,none⟩) hS v1).setCell (p:=⟨z,o+2,none⟩) hS v2).setCell (p:=⟨z,o+3,none⟩) hS v3).setCell (p:=⟨z,o+4,none⟩) hS v4,((((hl.set v0).set v1).set v2).set v3).set v4⟩
end Go.Proofs.YtikcigjbhohboaaGreat.pln
end
