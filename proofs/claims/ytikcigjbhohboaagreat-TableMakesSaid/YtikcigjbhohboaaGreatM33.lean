/- Part 33 of a proof: PaI PaJ. -/
import Derived.LoopIn
import Derived.Test.YtikcigjbhohboaaGreatM30
section
namespace Go.Proofs.YtikcigjbhohboaaGreat.pln
open Go.Lib (hid)
open Go.ChangeShapes Go.WideShapes Go.ChangeAt Go.RowKit Go.Deep Go.Shelf val ter Go.Sort
attribute [local go_sem] Oper.semAt_some
def ceX (s:Sys) (x:Pt) (f:Nat→Int):Nat→Int:=ceS (max x.p.pr 1) (s.ts.getD x.i ts0).secs f (s.ts.getD x.i ts0).secs.length
def ceF (s:Sys) (l:List Pt):Nat→Int:=l.foldl (fun f x=>ceX s x f) (fun _=>0)
theorem ceF_snoc (s:Sys) (l:List Pt) (x:Pt):ceF s (l ++ [x])=ceX s x (ceF s l):=by unfold ceF;rw[List.foldl_append];rfl
structure CQ (W0:World) (b m:Nat) (f:Nat→Int) (W:World):Prop where
 v:Vals W b 3 m (fun r=>.int .i64 (f r))
 but:But (Just b) W0 W
section
variable {W0 W W':World} {b m:Nat} {f:Nat→Int}
theorem CQ.no (h:CQ W0 b m f W) (hb:But No W W'):CQ W0 b m f W':=⟨h.v.but hb (fun f=>f),h.but.trans hb.no⟩
theorem CQ.turn (h:CQ W0 b m f W) {row:Option Nat} (hg:W.grownBy W' row) (hr:∀ r,row=some r→W0.heap.size≤r∧∃ o:Obj,W.heap[r]? = some o∧o.isCells=false):CQ W0 b m f W' :=
 ⟨rsp.blk_turn h.v hg (fun k e=>(hr k e).2),h.but.grown hg (fun k e=>.inr (hr k e).1)⟩
theorem CQ.set (h:CQ W0 b m f W) {k:Nat} {f':Nat→Int} (v:Int) (he:∀ j,j<m→f' j=if j=k then v else f j):CQ W0 b m f' (W.setCell ⟨b,k,none⟩ (.int .i64 v)) :=
 ⟨(h.v.set _).congr (fun j hj=>by rw[he j hj];split <;> rfl),h.but.setCell (p:=⟨b,k,none⟩) rfl _⟩
theorem CQ.congr {f':Nat→Int} (h:CQ W0 b m f W) (hf:∀ j,j<m→f' j=f j):CQ W0 b m f' W:=⟨h.v.congr (fun j hj=>by rw[hf j hj]),h.but⟩
end
theorem keeps_just {W W':World} {b:Nat} {cur:Array Value} {e:TypeId} (h:Blk W b cur e) (hb:But (Just b) W W'):KeepsOthers W W' :=
 ⟨hb.size,fun k o hk ho=>(hb.block k (Array.getElem?_eq_some_iff.1 hk).1 (fun f=>by rw[show k=b from f] at hk;rw[show W.heap[b]? = _ from h] at hk;cases hk;cases ho)).trans hk⟩
set_option maxRecDepth 100000 in
set_option maxHeartbeats 8000000 in
theorem ceil_any {w0 w:World} {s:Sys} {A:Option Addr} {n c m b K:Nat} {F:Int→Int→Option Pt} {f:Nat→Int} (h:LY w0 w s A n c m b K F f) (hF:Fok n F) (hs:right s=true) (hn:n≤24) (co:Int) (hco:inR co) {rs:Nat} (hrs:s.rs=(rs:Int)) (hr8:rs≤8) :
  Calls Tryz.prog 74 #[lyV s A n c m b,.int .i64 co] w fun e w'=>∃ q,e=.returned (.slice (some ⟨q,0,none⟩) rs rs)∧CE w w' q rs (ceF s (onN F co n)):=by
 have CO:Hid (∀ W,Calls Tryz.prog 102 #[lyV s A n c m b,.int .i64 co] W fun e w'=>e=.returned (.func (.func 120) #[] #[.pointer (some ⟨W.heap.size,0,none⟩),.pointer (some ⟨W.heap.size+1,0,none⟩)])∧w'=(W.alloc (.cells (lyA s A n c m b) 123)).alloc (.cells #[.int .i64 co] 3)):=hid (fun W=>on_any s A n c m b co W)
 have CS:Hid (∀ x ∈ onN F co n,∃ A4 c4,∃ t:Tsk,s.ts.getD x.i ts0=t∧t ∈ s.ts∧RSec w A4 t.secs.length t.secs∧t.secs.length≤c4∧∀ W,But No w W→Calls Tryz.prog 103 #[lyV s A n c m b,ptV x] W fun e w'=>e=.returned (.slice A4 t.secs.length c4)∧But No W w'):=hid (fun x hx=>by
  obtain⟨i,_,e⟩:=onN_mem hx
  have hlt:x.i<s.ts.length:=by rw[h.len];exact(hF.at_ _ _ _ e).2.2
  have ht:s.ts[x.i]? = some s.ts[x.i]:=List.getElem?_eq_getElem hlt
  obtain⟨A4,c4,hc,hsec,hcall⟩:=sects_any (m:=m) (b:=b) h.cur x ht
  exact⟨A4,c4,_,getT ht,List.getElem_mem hlt,hsec,hc,hcall⟩)
 have HRT:=hid hs
 have HMP:=hid h.map
 have hml:=h.map.lt
 have HRS:=hid hrs
 have HPR:Hid (∀ x ∈ onN F co n,inR x.p.pr):=hid (fun x hx=>by obtain⟨i,_,e⟩:=onN_mem hx;exact(hF.fit _ _ _ e).2.2.2)
 obtain⟨i3,hi0,hz0,hz1,hz2⟩:=info_parts info3
 have I3:Hid (Tryz.prog.info? 3=some i3∧i3.zero=some (.int .i64 0)∧i3.size=1∧i3.bytes=8):=⟨hi0,hz0,hz1,hz2⟩
 clear h hF hs hi0 hz0 hz1 hz2
 dsimp only[lyV,lyA] at CO CS ⊢
 rw[hrs] at CO CS ⊢
 clear hrs
 refine(callsIn_wide (n:=8)).1 ?_
 refine callsIn_of_wp_marks Tryz.func74 rfl trivial ?_ rfl
 simp only[Tryz.ntmps74,List.size_toArray,List.length_cons,List.length_nil,Nat.reduceAdd,Nat.reduceSub,Array.replicate_succ,Array.replicate_zero,List.push_toArray,List.append_toArray,List.nil_append,List.cons_append]
 refine wpIn_wide.2 ?_
 have hb1:But No w (w.alloc (.cells #[.int .i64 s.co,.int .i64 s.po,.int .i64 s.pr,.int .i64 s.re,.int .i64 s.sw,.int .i64 s.fi,.int .i64 s.la,.int .i64 (rs:Int),.slice A n c,.map (some m),.slice (some ⟨b,0,none⟩) n n] 123)):=(But.refl No w).alloc _
 have hk1:=Blk.new w #[.int .i64 s.co,.int .i64 s.po,.int .i64 s.pr,.int .i64 s.re,.int .i64 s.sw,.int .i64 s.fi,.int .i64 s.la,.int .i64 (rs:Int),.slice A n c,.map (some m),.slice (some ⟨b,0,none⟩) n n] 123
 have hs1:(w.alloc (.cells #[.int .i64 s.co,.int .i64 s.po,.int .i64 s.pr,.int .i64 s.re,.int .i64 s.sw,.int .i64 s.fi,.int .i64 s.la,.int .i64 (rs:Int),.slice A n c,.map (some m),.slice (some ⟨b,0,none⟩) n n] 123)).heap.size=w.heap.size+1:=by simp
 have HB1:=hid hb1
 have HK1:=hid hk1
 clear hb1 hk1
 go_upto_region 1 with fail
 generalize w.alloc (.cells #[.int .i64 s.co,.int .i64 s.po,.int .i64 s.pr,.int .i64 s.re,.int .i64 s.sw,.int .i64 s.fi,.int .i64 s.la,.int .i64 (rs:Int),.slice A n c,.map (some m),.slice (some ⟨b,0,none⟩) n n] 123 )=w1 at HB1 HK1 hs1 ⊢
 have k7:=HK1.out.cell (o:=7) rfl
 go_upto_region 2 with(at_make;refine wpList_make_full _ rfl _ _ 26 rfl 0 3 i3 _ 1 Tryz.underlying26 I3.out.1 I3.out.2.1 I3.out.2.2.1 .i64 .i64 _ _ rs rfl rfl rfl rfl (by rw[I3.out.2.2.2];omega) (by unfold maxLen;omega) (Nat.zero_le _) ?_;intro w2 hown hgrow;have hb2:=(But.refl No w1).grown hgrow (fun k e=>by cases e);have HV2:Hid (Vals w2 w1.heap.size 3 rs (fun _=>.int .i64 0)):=hid (vals_made1 rfl hown);have HB2:=hid hb2;clear hown hgrow hb2)
 have k2:=(HK1.out.but HB2.out (fun f=>f))
 have HK2:=hid k2
 have hsz2:w.heap.size+1<w2.heap.size:=by have:=HV2.out.lt;omega
 have HW:Hid (∀ W3 W4 W5:World,W3=w2.alloc (.cells #[.slice (some ⟨w.heap.size+1,0,none⟩) rs rs] 26)→W4=W3.alloc (.cells #[.int .i64 s.co,.int .i64 s.po,.int .i64 s.pr,.int .i64 s.re,.int .i64 s.sw,.int .i64 s.fi,.int .i64 s.la,.int .i64 (rs:Int),.slice A n c,.map (some m),.slice (some ⟨b,0,none⟩) n n] 123)→W5=W4.alloc (.cells #[.int .i64 co] 3)→But No w2 W5∧W5.heap.size=w2.heap.size+3∧Blk W5 w2.heap.size #[.slice (some ⟨w.heap.size+1,0,none⟩) rs rs] 26∧Blk W5 (w2.heap.size+1) #[.int .i64 s.co,.int .i64 s.po,.int .i64 s.pr,.int .i64 s.re,.int .i64 s.sw,.int .i64 s.fi,.int .i64 s.la,.int .i64 (rs:Int),.slice A n c,.map (some m),.slice (some ⟨b,0,none⟩) n n] 123∧Blk W5 (w2.heap.size+1+1) #[.int .i64 co] 3):=hid (fun W2 W3 W4 e2 e3 e4=>by
  have s2:W2.heap.size=w2.heap.size+1:=by rw[e2,size_alloc1]
  have s3:W3.heap.size=w2.heap.size+1+1:=by rw[e3,size_alloc1,s2]
  have b2:But No w2 W2:=by rw[e2];exact(But.refl No w2).alloc _
  have b3:But No W2 W3:=by rw[e3];exact(But.refl No W2).alloc _
  have b4:But No W3 W4:=by rw[e4];exact(But.refl No W3).alloc _
  have k2:Blk W2 w2.heap.size #[.slice (some ⟨w.heap.size+1,0,none⟩) rs rs] 26:=by rw[e2];exact Blk.new w2 _ _
  have k3:Blk W3 (w2.heap.size+1) #[.int .i64 s.co,.int .i64 s.po,.int .i64 s.pr,.int .i64 s.re,.int .i64 s.sw,.int .i64 s.fi,.int .i64 s.la,.int .i64 (rs:Int),.slice A n c,.map (some m),.slice (some ⟨b,0,none⟩) n n] 123:=by have:=Blk.new W2 #[.int .i64 s.co,.int .i64 s.po,.int .i64 s.pr,.int .i64 s.re,.int .i64 s.sw,.int .i64 s.fi,.int .i64 s.la,.int .i64 (rs:Int),.slice A n c,.map (some m),.slice (some ⟨b,0,none⟩) n n] 123;rw[←e3,s2] at this;exact this
  have k4:Blk W4 (w2.heap.size+1+1) #[.int .i64 co] 3:=by have:=Blk.new W3 #[.int .i64 co] 3;rw[←e4,s3] at this;exact this
  exact⟨(b2.trans b3).trans b4,by rw[e4,size_alloc1,s3],(k2.but b3 (fun f=>f)).but b4 (fun f=>f),k3.but b4 (fun f=>f),k4⟩)
 have HQL:Hid (∀ W,But No w2 W→W.cell? ⟨w.heap.size,0,none⟩=some (.int .i64 s.co)):=hid (fun W hb=>(HK2.out.but hb (fun f=>f)).cell (o:=0) rfl)
 obtain⟨⟨l0,l1,l2,l3,l4,l5,l6,l7,l8⟩,l9,l10⟩:L11 (w2.alloc (.cells #[.slice (some ⟨w.heap.size+1,0,none⟩) rs rs] 26)) w.heap.size { s with rs:=(rs:Int) } A n c m b:=ly_cells (s:={ s with rs:=(rs:Int) }) (HK2.out.but ((But.refl No w2).alloc _) (fun f=>f))
 dsimp only at l0 l1 l2 l3 l4 l5 l6 l7 l8
 clear k2 k7
 go_wp2_with (go_at_call 102;refine(CO.out _).mono ?_;rintro e w4 ⟨rfl,rfl⟩)
 clear l0 l1 l2 l3 l4 l5 l6 l7 l8 l9 l10
 refine(wpIn_wide (n:=8)).1 ?_
 obtain⟨hB0,hs0,hk2,hk3,hk4⟩:=HW.out _ _ _ rfl rfl rfl
 generalize ((w2.alloc (.cells #[.slice (some ⟨w.heap.size+1,0,none⟩) rs rs] 26)).alloc (.cells #[.int .i64 s.co,.int .i64 s.po,.int .i64 s.pr,.int .i64 s.re,.int .i64 s.sw,.int .i64 s.fi,.int .i64 s.la,.int .i64 (rs:Int),.slice A n c,.map (some m),.slice (some ⟨b,0,none⟩) n n] 123)).alloc (.cells #[.int .i64 co] 3)=W0 at hB0 hs0 hk2 hk3 hk4 ⊢
 have HBW0:Hid (But No w W0):=hid ((HB1.out.trans HB2.out).trans hB0)
 have BL0:Hid (Blk W0 w.heap.size #[.int .i64 s.co,.int .i64 s.po,.int .i64 s.pr,.int .i64 s.re,.int .i64 s.sw,.int .i64 s.fi,.int .i64 s.la,.int .i64 (rs:Int),.slice A n c,.map (some m),.slice (some ⟨b,0,none⟩) n n] 123):=hid (HK2.out.but hB0 (fun f=>f))
 have BR0:=hid hk2
 have HLB:=hid hk3
 have HCB:=hid hk4
 have HM0:Hid (MP W0 m K F):=hid (HMP.out.no HBW0.out)
 have HCQ:Hid (CQ W0 (w.heap.size+1) rs (ceF s []) W0):=hid ⟨by have:=HV2.out.but hB0 (fun f=>f);rw[hs1] at this;exact this,But.refl _ W0⟩
 clear HW HQL hB0 hk2 hk3 hk4
 have hrse:#[.int .i64 s.co,.int .i64 s.po,.int .i64 s.pr,.int .i64 s.re,.int .i64 s.sw,.int .i64 s.fi,.int .i64 s.la,.int .i64 (rs:Int),.slice A n c,.map (some m),.slice (some ⟨b,0,none⟩) n n]=lyA { s with rs:=(rs:Int) } A n c m b:=rfl
 refine wpIn_rangeFunc_ownH rfl (by omega) (gf:=120) (lb:=#[.pointer (some ⟨w2.heap.size+1,0,none⟩),.pointer (some ⟨w2.heap.size+1+1,0,none⟩)]) rfl trivial (enters_of Tryz.func120 (by kernel_rfl) rfl)
  (on_stops (8-1) (by omega) (w2.heap.size+1) (w2.heap.size+1+1) { s with rs:=(rs:Int) } A n c m b F co K (fun z=>w.heap.size≤z∧z≠w2.heap.size+1∧z≠w2.heap.size+1+1) (by omega) (by omega) (by omega) hco hn W0 HLB.out HCB.out HM0.out) But.trans (fun X l o o' hl ho hc _=>(But.refl _ X).grown (grownBy_putObj' _ l o') (fun z e=>by cases e;exact .inl ⟨by omega,by omega,by omega⟩)) (Below.refl _ _) (fun _=>rfl)
  (fun pre W=>CQ W0 (w.heap.size+1) rs (ceF s (vl pre)) W)
  (fun _ _ _=>False)
  (fun st X Y row hs hg hr=>CQ.turn hs hg hr)
  (fun _ _ _ _ _ hs _ _=>hs)
  HCQ.out
  (fun x a' W=>∃ Bx,W0.heap.size≤Bx∧Blk W Bx (ptA x.1) 130∧a' = { tmps:=#[.agg #[.int .i64 s.co,.int .i64 s.po,.int .i64 s.pr,.int .i64 s.re,.int .i64 s.sw,.int .i64 s.fi,.int .i64 s.la,.int .i64 (rs:Int),.slice A n c,.map (some m),.slice (some ⟨b,0,none⟩) n n],.int .i64 co,.pointer (some ⟨w.heap.size,0,none⟩),undef,.slice none 0 0,.pointer (some ⟨w2.heap.size,0,none⟩),.pointer (some ⟨Bx,0,none⟩),undef,undef,undef,.pointer (some ⟨w.heap.size,0,none⟩),.pointer (some ⟨w.heap.size,7,none⟩),.int .i64 (rs:Int),.slice (some ⟨w.heap.size+1,0,none⟩) rs rs,.agg #[.int .i64 s.co,.int .i64 s.po,.int .i64 s.pr,.int .i64 s.re,.int .i64 s.sw,.int .i64 s.fi,.int .i64 s.la,.int .i64 (rs:Int),.slice A n c,.map (some m),.slice (some ⟨b,0,none⟩) n n],.int .i64 co,.func (.func 120) #[] #[.pointer (some ⟨w2.heap.size+1,0,none⟩),.pointer (some ⟨w2.heap.size+1+1,0,none⟩)],ptV x.1,undef,undef,undef,undef,undef,undef,undef,undef,undef,undef,undef,undef,undef,undef,undef,undef,undef,undef,undef,undef,undef,undef,undef,undef,undef,undef,undef,undef,undef,undef,undef,undef,undef,undef],defers:=[] })
  (fun x a' st X Y row hs hg hr=>by obtain⟨Bx,h1,h2,h3⟩:=hs;exact⟨Bx,h1,rsp.blk_turn h2 hg (fun k e=>(hr k e).2),h3⟩)
  ?assign ?body ?done ?stop
 case assign =>
  rintro lp pre x W K h1 hK
  have hz:=h1.but.size
  dsimp only[ptV,ptA]
  gi_wp2
  exact hK _ _ ((KeepsOthers.alloc _ _).from _) ((But.refl _ W).alloc _) (h1.no ((But.refl _ W).alloc _)) ⟨W.heap.size,hz,Blk.new W _ _,rfl⟩
 case body =>
  rintro lp pre x a' W hl ⟨r,hr⟩ h1 ⟨Bx,hBx,hbx,rfl⟩ hlt
  obtain⟨A4,c4,t,hT,hts,hsec,hc4,hcall⟩:=CS.out x.1 x.2
  have hpr:=HPR.out x.1 x.2
  have HST:Hid (∀ W' f',CQ W0 (w.heap.size+1) rs f' W'→f'=ceS (max x.1.p.pr 1) t.secs (ceF s (vl pre)) t.secs.length→CQ W0 (w.heap.size+1) rs (ceF s (vl (pre ++ [x]))) W'):=hid (fun W' f' ho e=>by
   rw[vl_snoc,ceF_snoc]
   unfold ceX
   rw[hT,←e]
   exact ho)
  have CSX:Hid (∀ X,But No w X→Calls Tryz.prog 103 #[.agg #[.int .i64 s.co,.int .i64 s.po,.int .i64 s.pr,.int .i64 s.re,.int .i64 s.sw,.int .i64 s.fi,.int .i64 s.la,.int .i64 (rs:Int),.slice A n c,.map (some m),.slice (some ⟨b,0,none⟩) n n],ptV x.1] X fun e w'=>e=.returned (.slice A4 t.secs.length c4)∧But No X w'):=hid hcall
  generalize ceF s (vl pre)=f0 at h1 HST
  have HWW:Hid (But No w W):=hid (HBW0.out.andThen' h1.but (fun i _ e=>by rw[show i=_ from e];omega))
  have H1:=hid h1
  have HSE:=hid (hsec.no HWW.out)
  have hsecW:=hid hsec
  have HTS:=hid hts
  have HYB:=hid (BL0.out.but h1.but (fun e=>by have e':w.heap.size=w.heap.size+1:=e;omega))
  have HRB:=hid (BR0.out.but h1.but (fun e=>by have e':w2.heap.size=w.heap.size+1:=e;omega))
  clear h1 hT hts hsec hcall hlt hl hr
  obtain⟨⟨l0,l1,l2,l3,l4,l5,l6,l7,l8⟩,l9,l10⟩:L11 W w.heap.size { s with rs:=(rs:Int) } A n c m b:=ly_cells (s:={ s with rs:=(rs:Int) }) HYB.out
  dsimp only at l0 l1 l2 l3 l4 l5 l6 l7 l8
  obtain⟨⟨⟨x0,x1,x2,x3,x4⟩,xi,xk,xl,xd,xj⟩,hx⟩:=x
  dsimp only at HST hpr
  dsimp only[ptA] at hbx
  dsimp only[ptV] at CSX
  have d0:=hbx.cell (o:=0) rfl;have d1:=hbx.cell (o:=1) rfl;have d2:=hbx.cell (o:=2) rfl;have d3:=hbx.cell (o:=3) rfl;have d4:=hbx.cell (o:=4) rfl;have d5:=hbx.cell (o:=5) rfl;have d6:=hbx.cell (o:=6) rfl;have d7:=hbx.cell (o:=7) rfl;have d8:=hbx.cell (o:=8) rfl;have d9:=hbx.cell (o:=9) rfl
  clear hbx
  dsimp only[ptV]
  gi_wp2_with (refine⟨trivial,?_⟩;gi_at_call 103;refine(CallsIn.inRound lp (callsIn_wide.2 (CSX.out W HWW.out))).mono ?_;rintro e w3 ⟨rfl,h3⟩;have H3:=hid h3;clear h3)
  have HC3:=hid (H1.out.no H3.out)
  have HW3:Hid (But (Just (w.heap.size+1)) W w3):=hid H3.out.no
  obtain⟨SL,hSL⟩:∃ SL,t.secs.length=SL:=⟨_,rfl⟩
  rw[hSL] at HST HSE hc4 ⊢
  have HSL:=hid hSL
  have hSm:SL≤9223372036854775807:=HSE.out.max
  obtain⟨P,hP⟩:∃ P,max x3 1=P:=⟨_,rfl⟩
  rw[hP] at HST ⊢
  clear hP hSL l0 l1 l2 l3 l4 l5 l6 l7 l8 l9 l10 d0 d1 d2 d3 d4 d5 d6 d7 d8 d9
  gi_loopw [26] (fun i wr=>∃ q:Nat,i=.int .i64 (q:Int)∧q≤SL∧Hid (CQ W0 (w.heap.size+1) rs (ceS P t.secs f0 q) wr∧But (Just (w.heap.size+1)) W wr)) (fun i _=>SL-(intOf i).toNat)
  case atStart=>exact⟨0,rfl,by omega,HC3.out,HW3.out⟩
  case round =>
   obtain⟨q,rfl,hq,HI⟩:=hrel
   have hq0:(0:Int)≤(q:Int):=Int.natCast_nonneg q
   by_cases hqn:q<SL
   ·have hqn2:(q:Int)<(SL:Int):=by omega
    have b3:decide ((q:Int)<(SL:Int))=true:=by simp;omega
    obtain⟨y,hy⟩:∃ y,t.secs[q]? = some y:=⟨_,List.getElem?_eq_getElem (by rw[HSL.out];exact hqn)⟩
    have hWr:But No w wr:=HWW.out.andThen' HI.out.2 (fun i _ e=>by rw[show i=_ from e];omega)
    obtain⟨bS,offS,rfl,y0,y1,y2⟩:=(hsecW.out.no hWr).at1 hy
    have hyr:=(ter.right_sec HRT.out HTS.out (List.mem_of_getElem? hy)).1
    rw[HRS.out] at hyr
    obtain⟨rr,hrr⟩:∃ rr:Nat,y.2.1=(rr:Int):=⟨y.2.1.toNat,by omega⟩
    have HCS:Hid (∀ r,ceS P t.secs f0 (q+1) r=if r=rr then tp (ceS P t.secs f0 q r) P else ceS P t.secs f0 q r):=hid (fun r=>by
     rw[ceS_next hy r,hrr]
     by_cases e:r=rr
     ·subst e;rw[if_pos rfl,if_pos rfl]
     ·rw[if_neg e,if_neg (fun h=>e (by omega))])
    rw[hrr] at y1 hyr
    have hrr2:rr<rs:=by omega
    have hrr3:(rr:Int)<(rs:Int):=by omega
    have hrr0:(0:Int)≤(rr:Int):=Int.natCast_nonneg rr
    have HQR:Hid (Blk wr w2.heap.size #[.slice (some ⟨w.heap.size+1,0,none⟩) rs rs] 26):=hid (HRB.out.but HI.out.2 (fun e=>by have e':w2.heap.size=w.heap.size+1:=e;omega))
    clear hy hWr
    obtain⟨ya,yb,yc⟩:=y
    dsimp only at y0 y1 y2 hrr
    clear hrr
    have HNB:Hid (But No wr (wr.alloc (.cells #[.int .i64 ya,.int .i64 (rr:Int),.int .i64 yc] 120))∧Blk (wr.alloc (.cells #[.int .i64 ya,.int .i64 (rr:Int),.int .i64 yc] 120)) wr.heap.size #[.int .i64 ya,.int .i64 (rr:Int),.int .i64 yc] 120):=hid ⟨(But.refl No wr).alloc _,Blk.new wr _ _⟩
    gi_upto_region 8 with fail
    obtain⟨hbx,hpx⟩:=HNB.out
    generalize wr.alloc (.cells #[.int .i64 ya,.int .i64 (rr:Int),.int .i64 yc] 120)=wx at hbx hpx ⊢
    have q1:=(HQR.out.but hbx (fun f=>f)).cell (o:=0) rfl
    have q2:=hpx.cell (o:=1) rfl
    have hcx:=HI.out.1.no hbx
    have cz:=hcx.v.cell hrr2
    have fz:=hcx.v.frozen rr
    have HCX:=hid hcx
    have HBX:Hid (But (Just (w.heap.size+1)) W wx):=hid (HI.out.2.trans hbx.no)
    obtain⟨z,hz9⟩:∃ z,ceS P t.secs f0 q rr=z:=⟨_,rfl⟩
    have HZ9:=hid hz9
    rw[hz9] at cz
    clear hbx hpx hcx y0 y1 y2 hz9
    by_cases hz0:z=0
    ·have b4:(z == 0)=true:=by simp[hz0]
     subst hz0
     gi_wp2_with fail
     refine⟨⟨q+1,rfl,by omega,HCX.out.set P (fun j _=>?_),HBX.out.setCell (p:=⟨w.heap.size+1,rr,none⟩) rfl _⟩,?_⟩
     ·rw[HCS.out j]
      by_cases e:j=rr
      ·subst e;rw[if_pos rfl,if_pos rfl,HZ9.out];simp[tp]
      ·rw[if_neg e,if_neg e]
     ·simp only[intOf];omega
    ·have b4:(z == 0)=false:=by simp[hz0]
     by_cases hzp:P<z
     ·have b5:decide (P<z)=true:=by simp[hzp]
      gi_wp2_with fail
      refine⟨⟨q+1,rfl,by omega,HCX.out.set P (fun j _=>?_),HBX.out.setCell (p:=⟨w.heap.size+1,rr,none⟩) rfl _⟩,?_⟩
      ·rw[HCS.out j]
       by_cases e:j=rr
       ·subst e;rw[if_pos rfl,if_pos rfl,HZ9.out];simp[tp,hzp]
       ·rw[if_neg e,if_neg e]
      ·simp only[intOf];omega
     ·have b5:decide (P<z)=false:=by simp;omega
      gi_wp2_with fail
      refine⟨⟨q+1,rfl,by omega,HCX.out.congr (fun j _=>?_),HBX.out⟩,?_⟩
      ·rw[HCS.out j]
       by_cases e:j=rr
       ·subst e;rw[if_pos rfl,HZ9.out];simp[tp,hz0,hzp]
       ·rw[if_neg e]
      ·simp only[intOf];omega
   ·have hqe:q=SL:=by omega
    subst hqe
    have b3:decide ((q:Int)<(q:Int))=false:=by simp
    gi_wp2_with fail
    exact⟨(keeps_just H1.out.v HI.out.2).from _,HI.out.2.mono (fun z _ e=>by have e':z=w.heap.size+1:=e;omega),HST.out _ _ HI.out.1 rfl⟩
 case done =>
  rintro D ys W hD rfl h1 hK
  rw[vl_all] at h1
  have k0:=(BR0.out.but h1.but (fun e=>by have e':w2.heap.size=w.heap.size+1:=e;omega)).cell (o:=0) rfl
  have H1:=hid h1
  have HK:=hid hK
  clear h1 hK
  go_wp2_with fail
  have hne:D≠w.heap.size+1:=by omega
  have hbp:But (fun z=>z=D) W (W.putObj D (.deferred none)):=(But.refl (fun z=>z=D) W).grown (grownBy_putObj' _ D _) (fun k e=>.inl (by cases e;rfl))
  have hbf:But No w W:=HBW0.out.andThen' H1.out.but (fun i _ e=>by rw[show i=_ from e];omega)
  refine⟨by simp,.inl ⟨_,_,rfl,run_takeDeferred HK.out,?_⟩⟩
  refine⟨_,by simp[results,Tryz.results74,go_sem],w.heap.size+1,rfl,H1.out.v.but hbp (fun e=>hne e.symm),by omega,hbf.grown (grownBy_putObj' _ D (.deferred none)) (fun k e=>.inr (by cases e;omega))⟩
 case stop =>
  rintro D c' pre W hD hp h
  exact h.elim
end Go.Proofs.YtikcigjbhohboaaGreat.pln
end
section
namespace Go.Proofs.YtikcigjbhohboaaGreat.pln
open Go.Lib (hid)
set_option linter.unusedVariables false
set_option linter.unusedSimpArgs false
open Go.ChangeShapes Go.WideShapes Go.ChangeAt Go.RowKit Go.Deep Go.Shelf val ter Go.Sort
def bl1 (s:Sys) (pr m:Int) (h:Int × Int × Int):Int:=if pr≤h.2.1∧(s.pr=1∨h.2.2≤pr) then max m h.1 else m
def blN (s:Sys) (pr:Int) (l:List (Int × Int × Int)):Nat→Int
 | 0=>0
 | q+1=>bl1 s pr (blN s pr l q) (l.getD q (0,0,0))
def blH (s:Sys) (pr:Int) (l:List (Int × Int × Int)):Int:=blN s pr l l.length+2*(s.fi+s.sw)
theorem blN_next {s:Sys} {pr:Int} {l:List (Int × Int × Int)} {q:Nat} {h:Int × Int × Int} (e:l[q]? = some h):blN s pr l (q+1)=bl1 s pr (blN s pr l q) h:=by
 rw[blN];simp[List.getD,e]
theorem blN_le {s:Sys} {pr B:Int} {l:List (Int × Int × Int)} (hB:0≤B) (h:∀ x ∈ l,0≤x.1∧x.1≤B):∀ q,0≤blN s pr l q∧blN s pr l q≤B
 | 0=>⟨Int.le_refl _,hB⟩
 | q+1=>by
  have ih:=blN_le (s:=s) (pr:=pr) hB h q
  rw[blN]
  unfold bl1
  split
  ·by_cases hq:q<l.length
   ·have hm:l.getD q (0,0,0) ∈ l:=by simp[List.getD,hq]
    have:=h _ hm
    omega
   ·have:l.getD q (0,0,0)=(0,0,0):=by simp[List.getD,hq]
    rw[this];dsimp only;omega
  ·exact ih
set_option maxRecDepth 100000 in
set_option maxHeartbeats 8000000 in
theorem block_any {w0 w:World} {s:Sys} {A:Option Addr} {n c m b K:Nat} {F:Int→Int→Option Pt} {f:Nat→Int} (h:LY w0 w s A n c m b K F f) (hs:right s=true) (pr:Int) (hpr:inR pr) {AH:Option Addr} {nh ch:Nat} {l:List (Int × Int × Int)} (hl:RSec w AH nh l) (hc:nh≤ch) (hnh:nh≤1000000) (hB:∀ x ∈ l,0≤x.1∧x.1≤1152921504606846976) :
  Calls Tryz.prog 132 #[lyV s A n c m b,.int .i64 pr,.slice AH nh ch] w fun e w'=>e=.returned (.int .i64 (blH s pr l))∧But No w w':=by
 have HLN:=hid hl.len
 have HFT:=hid hl.fit
 have hb1:But No w (w.alloc (.cells (lyA s A n c m b) 123)):=(But.refl No w).alloc _
 have HK:=hid (Blk.new w (lyA s A n c m b) 123)
 have HB1:=hid hb1
 have HL:=hid (hl.no hb1)
 have HBL:=hid (blN_le (s:=s) (pr:=pr) (B:=1152921504606846976) (by omega) hB)
 obtain⟨⟨r0,r1⟩,⟨s0,s1⟩,f0,f1⟩:=right_costs hs
 have hsz:(w.alloc (.cells (lyA s A n c m b) 123)).heap.size=w.heap.size+1:=by simp
 clear h hl hb1 hB hs
 have hv:∀ x,blN s pr l nh=x→blH s pr l=x+2*(s.fi+s.sw):=fun x e=>by unfold blH;rw[HLN.out,e]
 have HV:=hid hv
 clear hv
 dsimp only[lyV,lyA] at HK HB1 HL hsz ⊢
 go_enter Tryz.func132,Tryz.ntmps132
 go_wp2_with fail
 generalize w.alloc (.cells #[.int .i64 s.co,.int .i64 s.po,.int .i64 s.pr,.int .i64 s.re,.int .i64 s.sw,.int .i64 s.fi,.int .i64 s.la,.int .i64 s.rs,.slice A n c,.map (some m),.slice (some ⟨b,0,none⟩) n n] 123)=w1 at HK HB1 HL hsz ⊢
 go_loopw [7,12] (fun u i wr=>∃ (z:Int) (q:Nat),u=.int .i64 z∧i=.int .i64 (q:Int)∧q≤nh∧Hid (z=blN s pr l q∧But No w1 wr)) (fun _ i _=>nh-(intOf i).toNat)
 case atStart=>exact⟨0,0,rfl,rfl,by omega,rfl,But.refl _ _⟩
 case round =>
  obtain⟨z,q,rfl,rfl,hq,HI⟩:=hrel
  have hq0:(0:Int)≤(q:Int):=Int.natCast_nonneg q
  have hzb:=HBL.out q
  rw[←HI.out.1] at hzb
  have hky:=HK.out.but HI.out.2 (fun f=>f)
  by_cases hqn:q<nh
  ·have hqn2:(q:Int)<(nh:Int):=by omega
   have b3:decide ((q:Int)<(nh:Int))=true:=by simp;omega
   obtain⟨y,hy⟩:∃ y,l[q]? = some y:=⟨_,List.getElem?_eq_getElem (by rw[HLN.out];exact hqn)⟩
   have hyf:=HFT.out y (List.mem_of_getElem? hy)
   have HNX:=hid (blN_next (s:=s) (pr:=pr) hy)
   obtain⟨bS,offS,rfl,y0,y1,y2⟩:=(HL.out.no HI.out.2).at1 hy
   have k2:=hky.cell (o:=2) rfl
   clear hy hky
   obtain⟨ya,yb,yc⟩:=y
   dsimp only at y0 y1 y2 hyf
   have HNB:Hid (But No wr (wr.alloc (.cells #[.int .i64 ya,.int .i64 yb,.int .i64 yc] 232))∧Blk (wr.alloc (.cells #[.int .i64 ya,.int .i64 yb,.int .i64 yc] 232)) wr.heap.size #[.int .i64 ya,.int .i64 yb,.int .i64 yc] 232):=hid ⟨(But.refl No wr).alloc _,Blk.new wr _ _⟩
   go_upto_region 5 with fail
   obtain⟨hbx,hpx⟩:=HNB.out
   generalize wr.alloc (.cells #[.int .i64 ya,.int .i64 yb,.int .i64 yc] 232)=wx at hbx hpx ⊢
   have q0:=hpx.cell (o:=0) rfl
   have q1:=hpx.cell (o:=1) rfl
   have q2:=hpx.cell (o:=2) rfl
   have k2:=cell_keep k2 hbx
   have HBX:=hid (HI.out.2.trans hbx)
   clear hbx hpx y0 y1 y2
   by_cases h1:pr≤yb
   ·have b4:decide (pr≤yb)=true:=by simp[h1]
    have b4':decide (yb ≥ pr)=true:=by simp;omega
    by_cases h2:s.pr=1
    ·have b5:(s.pr == 1)=true:=by simp[h2]
     go_wp2_with fail
     refine⟨⟨max z ya,q+1,rfl,rfl,by omega,by rw[HNX.out,←HI.out.1];simp[bl1,h1,h2],HBX.out⟩,?_⟩
     simp only[intOf];omega
    ·have b5:(s.pr == 1)=false:=by simp[h2]
     by_cases h3:yc≤pr
     ·have b6:decide (yc≤pr)=true:=by simp[h3]
      go_wp2_with fail
      refine⟨⟨max z ya,q+1,rfl,rfl,by omega,by rw[HNX.out,←HI.out.1];simp[bl1,h1,h3],HBX.out⟩,?_⟩
      simp only[intOf];omega
     ·have b6:decide (yc≤pr)=false:=by simp;omega
      go_wp2_with fail
      refine⟨⟨z,q+1,rfl,rfl,by omega,by rw[HNX.out,←HI.out.1];simp[bl1,h2,h3],HBX.out⟩,?_⟩
      simp only[intOf];omega
   ·have b4:decide (pr≤yb)=false:=by simp;omega
    have b4':decide (yb ≥ pr)=false:=by simp;omega
    go_wp2_with fail
    refine⟨⟨z,q+1,rfl,rfl,by omega,by rw[HNX.out,←HI.out.1];simp[bl1,h1],HBX.out⟩,?_⟩
    simp only[intOf];omega
  ·have hqe:q=nh:=by omega
   subst hqe
   have b3:decide ((q:Int)<(q:Int))=false:=by simp
   have k4:=hky.cell (o:=4) rfl
   have k5:=hky.cell (o:=5) rfl
   clear hky
   go_wp2_with fail
   go_ret
   exact⟨by rw[HV.out z HI.out.1.symm];rfl,HB1.out.trans HI.out.2⟩
def heN (s:Sys) (pr:Int) (l:List Pt):Nat→Int
 | 0=>0
 | q+1=>heN s pr l q+(if s.pr=2∧(pr<(l.getD q pt0).p.pr∧0<(s.ts.getD (l.getD q pt0).i ts0).secs.length) then s.fi else 0)
theorem heN_next {s:Sys} {pr:Int} {l:List Pt} {q:Nat} {x:Pt} (e:l[q]? = some x):heN s pr l (q+1)=heN s pr l q+(if s.pr=2∧(pr<x.p.pr∧0<(s.ts.getD x.i ts0).secs.length) then s.fi else 0):=by
 have e':l.getD q pt0=x:=by simp[List.getD,e]
 rw[heN,e']
theorem heN_le {s:Sys} {pr:Int} {l:List Pt} (h:0≤s.fi∧s.fi≤50):∀ q,0≤heN s pr l q∧heN s pr l q≤q*50
 | 0=>⟨Int.le_refl _,by simp[heN]⟩
 | q+1=>by
  have ih:=heN_le (s:=s) (pr:=pr) (l:=l) h q
  rw[heN]
  split <;> omega
set_option maxRecDepth 100000 in
set_option maxHeartbeats 8000000 in
theorem helped_any {w0 w:World} {s:Sys} {A:Option Addr} {n c m b K:Nat} {F:Int→Int→Option Pt} {f:Nat→Int} (h:LY w0 w s A n c m b K F f) (hs:right s=true) (p:Pt) {AH:Option Addr} {nh ch:Nat} {l:List Pt} (hl:RPt w AH nh l) (hc:nh≤ch) (hnh:nh≤24) (hi:∀ x ∈ l,x.i<n) :
  Calls Tryz.prog 136 #[lyV s A n c m b,ptV p,.slice AH nh ch] w fun e w'=>e=.returned (.int .i64 (heN s p.p.pr l l.length))∧But No w w':=by
 have CS:Hid (∀ x ∈ l,∃ A4 c4,∃ t:Tsk,s.ts.getD x.i ts0=t∧∀ W,But No w W→Calls Tryz.prog 103 #[lyV s A n c m b,ptV x] W fun e w'=>e=.returned (.slice A4 t.secs.length c4)∧But No W w'):=hid (fun x hx=>by
  have hlt:x.i<s.ts.length:=by rw[h.len];exact hi x hx
  have ht:s.ts[x.i]? = some s.ts[x.i]:=List.getElem?_eq_getElem hlt
  obtain⟨A4,c4,hc,hsec,hcall⟩:=sects_any (m:=m) (b:=b) h.cur x ht
  exact⟨A4,c4,_,getT ht,hcall⟩)
 have HLN:=hid hl.len
 have HW:Hid (∀ W1 W2:World,W1=w.alloc (.cells (lyA s A n c m b) 123)→W2=W1.alloc (.cells (ptA p) 130)→But No w W2∧Blk W2 w.heap.size (lyA s A n c m b) 123∧Blk W2 (w.heap.size+1) (ptA p) 130∧W2.heap.size=w.heap.size+2):=hid (fun W1 W2 e1 e2=>by
  have s1:W1.heap.size=w.heap.size+1:=by rw[e1,size_alloc1]
  have b1:But No w W1:=by rw[e1];exact(But.refl No w).alloc _
  have b2:But No W1 W2:=by rw[e2];exact(But.refl No W1).alloc _
  have k1:Blk W1 w.heap.size (lyA s A n c m b) 123:=by rw[e1];exact Blk.new w _ _
  have k2:Blk W2 (w.heap.size+1) (ptA p) 130:=by have:=Blk.new W1 (ptA p) 130;rw[←e2,s1] at this;exact this
  exact⟨b1.trans b2,k1.but b2 (fun f=>f),k2,by rw[e2,size_alloc1,s1]⟩)
 have HL0:=hid hl
 have hfi:=(right_costs hs).2.2
 have HBL:=hid (heN_le (s:=s) (pr:=p.p.pr) (l:=l) hfi)
 clear h hl hs hi
 obtain⟨⟨p0,p1,p2,p3,p4⟩,pi,pk,pl,pd,pj⟩:=p
 dsimp only[lyV,lyA,ptV,ptA] at HW CS ⊢
 go_enter Tryz.func136,Tryz.ntmps136
 go_wp2_with fail
 obtain⟨hb1,hk1,hk2,hsz⟩:=HW.out _ _ rfl rfl
 generalize (w.alloc (.cells #[.int .i64 s.co,.int .i64 s.po,.int .i64 s.pr,.int .i64 s.re,.int .i64 s.sw,.int .i64 s.fi,.int .i64 s.la,.int .i64 s.rs,.slice A n c,.map (some m),.slice (some ⟨b,0,none⟩) n n] 123)).alloc (.cells #[.int .i64 p0,.int .i64 p1,.int .i64 p2,.int .i64 p3,.bool p4,.int .i64 (pi:Int),.int .i64 (pk:Int),.bool pl,.int .i64 pd,.int .i64 pj] 130)=w1 at hb1 hk1 hk2 hsz ⊢
 have HB1:=hid hb1
 have HK1:=hid hk1
 have HK2:=hid hk2
 have HL:=hid (HL0.out.no hb1)
 clear hb1 hk1 hk2 HW
 go_loopw [7,12] (fun u i wr=>∃ (z:Int) (q:Nat),u=.int .i64 z∧i=.int .i64 (q:Int)∧q≤nh∧Hid (z=heN s p3 l q∧But No w1 wr)) (fun _ i _=>nh-(intOf i).toNat)
 case atStart=>exact⟨0,0,rfl,rfl,by omega,rfl,But.refl _ _⟩
 case round =>
  obtain⟨z,q,rfl,rfl,hq,HI⟩:=hrel
  have hq0:(0:Int)≤(q:Int):=Int.natCast_nonneg q
  have hzb:=HBL.out q
  rw[show heN s (Pt.mk ⟨p0,p1,p2,p3,p4⟩ pi pk pl pd pj).p.pr l q=heN s p3 l q from rfl,←HI.out.1] at hzb
  by_cases hqn:q<nh
  ·have hqn2:(q:Int)<(nh:Int):=by omega
   have b3:decide ((q:Int)<(nh:Int))=true:=by simp;omega
   obtain⟨y,hy⟩:∃ y,l[q]? = some y:=⟨_,List.getElem?_eq_getElem (by rw[HLN.out];exact hqn)⟩
   obtain⟨A4,c4,t,hT,hcall⟩:=CS.out y (List.mem_of_getElem? hy)
   have hnx:=heN_next (s:=s) (pr:=p3) hy
   rw[hT] at hnx
   have HNX:=hid hnx
   obtain⟨bR,oR,rfl,hbl,hcl⟩:=(HL.out.no HI.out.2).at1 hy
   obtain⟨c0,c1,c2,c3,c4',c5,c6,c7,c8,c9⟩:=hcl
   have CSX:Hid (∀ W,But No w1 W→Calls Tryz.prog 103 #[.agg #[.int .i64 s.co,.int .i64 s.po,.int .i64 s.pr,.int .i64 s.re,.int .i64 s.sw,.int .i64 s.fi,.int .i64 s.la,.int .i64 s.rs,.slice A n c,.map (some m),.slice (some ⟨b,0,none⟩) n n],ptV y] W fun e w'=>e=.returned (.slice A4 t.secs.length c4)∧But No W w'):=hid (fun W hW=>hcall W (HB1.out.trans hW))
   obtain⟨SL,hSL⟩:∃ SL,t.secs.length=SL:=⟨_,rfl⟩
   rw[hSL] at CSX HNX
   clear hy hT hcall hnx hbl hSL
   obtain⟨⟨ya,yb,yc,yd,ye⟩,yi,yk,yl,yn,yj⟩:=y
   dsimp only[ptV] at c0 c1 c2 c3 c4' c5 c6 c7 c8 c9 CSX HNX
   have HNB:Hid (But No wr (wr.alloc (.cells #[.int .i64 ya,.int .i64 yb,.int .i64 yc,.int .i64 yd,.bool ye,.int .i64 (yi:Int),.int .i64 (yk:Int),.bool yl,.int .i64 yn,.int .i64 yj] 130))∧Blk (wr.alloc (.cells #[.int .i64 ya,.int .i64 yb,.int .i64 yc,.int .i64 yd,.bool ye,.int .i64 (yi:Int),.int .i64 (yk:Int),.bool yl,.int .i64 yn,.int .i64 yj] 130)) wr.heap.size #[.int .i64 ya,.int .i64 yb,.int .i64 yc,.int .i64 yd,.bool ye,.int .i64 (yi:Int),.int .i64 (yk:Int),.bool yl,.int .i64 yn,.int .i64 yj] 130):=hid ⟨(But.refl No wr).alloc _,Blk.new wr _ _⟩
   go_upto_region 5 with fail
   obtain⟨hbx,hpx⟩:=HNB.out
   generalize wr.alloc (.cells #[.int .i64 ya,.int .i64 yb,.int .i64 yc,.int .i64 yd,.bool ye,.int .i64 (yi:Int),.int .i64 (yk:Int),.bool yl,.int .i64 yn,.int .i64 yj] 130)=wx at hbx hpx ⊢
   have hb2:=HI.out.2.trans hbx
   have HBX:=hid hb2
   have d0:=hpx.cell (o:=0) rfl;have d1:=hpx.cell (o:=1) rfl;have d2:=hpx.cell (o:=2) rfl;have d3:=hpx.cell (o:=3) rfl;have d4:=hpx.cell (o:=4) rfl;have d5:=hpx.cell (o:=5) rfl;have d6:=hpx.cell (o:=6) rfl;have d7:=hpx.cell (o:=7) rfl;have d8:=hpx.cell (o:=8) rfl;have d9:=hpx.cell (o:=9) rfl
   have e3:=(HK2.out.but hb2 (fun f=>f)).cell (o:=3) rfl
   obtain⟨⟨l0,l1,l2,l3,l4,l5,l6,l7,l8⟩,l9,l10⟩:=ly_cells (HK1.out.but hb2 (fun f=>f))
   have HL5:Hid (∀ w',But No wx w'→w'.cell? ⟨w.heap.size,5,none⟩=some (.int .i64 s.fi)):=hid (fun w' h'=>cell_keep l5 h')
   clear hbx hpx hb2 c0 c1 c2 c3 c4' c5 c6 c7 c8 c9 HNB
   by_cases h1:s.pr=2
   ·have b4:(s.pr == 2)=true:=by simp[h1]
    have HH1:=hid h1
    clear h1
    by_cases h2:p3<yd
    ·have b5:decide (p3<yd)=true:=by simp[h2]
     have b5':decide (yd > p3)=true:=by simp[h2]
     by_cases h3:0<SL
     ·have h3':(0:Int)<(SL:Int):=by omega
      have b6:decide ((0:Int)<(SL:Int))=true:=by simp[h3]
      go_wp2_with (go_at_call 103;(with_reducible refine(CSX.out _ HBX.out).mono ?_);rintro e w3 ⟨rfl,h9⟩;have l5:=HL5.out w3 h9;have H9:=hid (HBX.out.trans h9);clear h9)
      refine⟨⟨z+s.fi,q+1,rfl,rfl,by omega,by rw[HNX.out,←HI.out.1];simp[HH1.out,h2,h3],H9.out⟩,?_⟩
      simp only[intOf];omega
     ·have h3':¬(0:Int)<(SL:Int):=by omega
      have b6:decide ((0:Int)<(SL:Int))=false:=by simp;omega
      go_wp2_with (go_at_call 103;(with_reducible refine(CSX.out _ HBX.out).mono ?_);rintro e w3 ⟨rfl,h9⟩;have H9:=hid (HBX.out.trans h9);clear h9)
      refine⟨⟨z,q+1,rfl,rfl,by omega,by rw[HNX.out,←HI.out.1];simp[HH1.out,h2,h3],H9.out⟩,?_⟩
      simp only[intOf];omega
    ·have b5:decide (p3<yd)=false:=by simp;omega
     have b5':decide (yd > p3)=false:=by simp;omega
     go_wp2_with fail
     refine⟨⟨z,q+1,rfl,rfl,by omega,by rw[HNX.out,←HI.out.1];simp[HH1.out,h2],HBX.out⟩,?_⟩
     simp only[intOf];omega
   ·have b4:(s.pr == 2)=false:=by simp[h1]
    go_wp2_with fail
    refine⟨⟨z,q+1,rfl,rfl,by omega,by rw[HNX.out,←HI.out.1];simp[h1],HBX.out⟩,?_⟩
    simp only[intOf];omega
  ·have hqe:q=nh:=by omega
   subst hqe
   have b3:decide ((q:Int)<(q:Int))=false:=by simp
   go_wp2_with fail
   go_ret
   exact⟨by rw[HLN.out,←HI.out.1];rfl,HB1.out.trans HI.out.2⟩
end Go.Proofs.YtikcigjbhohboaaGreat.pln
end
