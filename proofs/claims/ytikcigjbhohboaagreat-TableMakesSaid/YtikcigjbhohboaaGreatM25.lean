/- Part 25 of a proof: PaF PaT. -/
import Derived.Laws.CopyOwn
import Derived.Sort.CutIn
import Derived.Test.YtikcigjbhohboaaGreatM24
section
namespace Go.Proofs.YtikcigjbhohboaaGreat.pln
open Go.Lib (hid)
open Go.ChangeShapes Go.WideShapes Go.ChangeAt Go.RowKit Go.Deep Go.Shelf val ter Go.Sort
attribute [local go_sem] Oper.semAt_some
def tiC (P:List Pt):Nat:=P.countP fun x=>x.p.ti
def shB (s:Sys) (x:Pt):Bool:=decide (0<(s.ts.getD x.i ts0).secs.length)
def shC (s:Sys) (P:List Pt):Nat:=P.countP (shB s)
def fitsV (s:Sys) (P:List Pt):Bool:=decide (tiC P=0) || (decide (tiC P=1) && decide (shC s P=0))
theorem tiC_snoc (P:List Pt) (x:Pt):tiC (P ++ [x])=tiC P+if x.p.ti=true then 1 else 0:=by unfold tiC;rw[List.countP_append,List.countP_singleton]
theorem shC_snoc (s:Sys) (P:List Pt) (x:Pt):shC s (P ++ [x])=shC s P+if shB s x=true then 1 else 0:=by unfold shC;rw[List.countP_append,List.countP_singleton]
abbrev vl {l:List Pt} (pre:List {x:Pt // x ∈ l}):List Pt:=pre.map Subtype.val
theorem vl_snoc {l:List Pt} (pre:List {x:Pt // x ∈ l}) (x : {x:Pt // x ∈ l}):vl (pre ++ [x])=vl pre ++ [x.1]:=by simp[vl]
theorem vl_all (l:List Pt):vl l.attach=l:=List.attach_map_subtype_val l
theorem vl_len {l:List Pt} (pre:List {x:Pt // x ∈ l}):(vl pre).length=pre.length:=List.length_map ..
structure IF (w:World) (s:Sys) (A:Option Addr) (n c m b:Nat) (t u:Int) (W:World):Prop where
 bl:Blk W w.heap.size (lyA s A n c m b) 123
 b1:Blk W (w.heap.size+1) #[.int .i64 t] 3
 b2:Blk W (w.heap.size+1+1) #[.int .i64 u] 3
 but:Below w.heap.size w W
theorem IF.no {w W W':World} {s:Sys} {A:Option Addr} {n c m b:Nat} {t u:Int} (h:IF w s A n c m b t u W) (hb:But No W W'):IF w s A n c m b t u W' :=
 ⟨h.bl.but hb (fun f=>f),h.b1.but hb (fun f=>f),h.b2.but hb (fun f=>f),h.but.trans (rsp.below_but hb h.but.size)⟩
theorem IF.turn {w W W':World} {s:Sys} {A:Option Addr} {n c m b:Nat} {t u:Int} {row:Option Nat} {B:Nat} (h:IF w s A n c m b t u W) (hB:w.heap.size≤B) (hg:W.grownBy W' row) (hr:∀ r,row=some r→B≤r∧∃ o:Obj,W.heap[r]? = some o∧o.isCells=false):IF w s A n c m b t u W' :=
 ⟨rsp.blk_turn h.bl hg (fun k e=>(hr k e).2),rsp.blk_turn h.b1 hg (fun k e=>(hr k e).2),rsp.blk_turn h.b2 hg (fun k e=>(hr k e).2),h.but.grown hg h.but.size (fun k e=>Nat.le_trans hB (hr k e).1)⟩
theorem IF.set1 {w W:World} {s:Sys} {A:Option Addr} {n c m b:Nat} {t u:Int} (h:IF w s A n c m b t u W) (z:Int):IF w s A n c m b z u (W.setCell ⟨w.heap.size+1,0,none⟩ (.int .i64 z)) :=
 ⟨h.bl.other (by show w.heap.size≠w.heap.size+1;omega) _,h.b1.set 0 _,h.b2.other (by show w.heap.size+1+1≠w.heap.size+1;omega) _,h.but.setCell (p:=⟨w.heap.size+1,0,none⟩) (by show w.heap.size≤w.heap.size+1;omega) _⟩
theorem IF.set2 {w W:World} {s:Sys} {A:Option Addr} {n c m b:Nat} {t u:Int} (h:IF w s A n c m b t u W) (z:Int):IF w s A n c m b t z (W.setCell ⟨w.heap.size+1+1,0,none⟩ (.int .i64 z)) :=
 ⟨h.bl.other (by show w.heap.size≠w.heap.size+1+1;omega) _,h.b1.other (by show w.heap.size+1≠w.heap.size+1+1;omega) _,h.b2.set 0 _,h.but.setCell (p:=⟨w.heap.size+1+1,0,none⟩) (by show w.heap.size≤w.heap.size+1+1;omega) _⟩
set_option maxRecDepth 100000 in
set_option maxHeartbeats 8000000 in
theorem fits_any {w0 w:World} {s:Sys} {A:Option Addr} {n c m b K:Nat} {F:Int→Int→Option Pt} {f:Nat→Int} (h:LY w0 w s A n c m b K F f) (hF:∀ a t x,F a t=some x→x.i<n) (hn:n≤24) (co:Int) (hco:inR co) :
  Calls Tryz.prog 96 #[lyV s A n c m b,.int .i64 co] w fun e w'=>e=.returned (.bool (fitsV s (onN F co n)))∧But No w w':=by
 have CO:Hid (∀ W,Calls Tryz.prog 102 #[lyV s A n c m b,.int .i64 co] W fun e w'=>e=.returned (.func (.func 120) #[] #[.pointer (some ⟨W.heap.size,0,none⟩),.pointer (some ⟨W.heap.size+1,0,none⟩)])∧w'=(W.alloc (.cells (lyA s A n c m b) 123)).alloc (.cells #[.int .i64 co] 3)):=hid (fun W=>on_any s A n c m b co W)
 have CS:Hid (∀ x:Pt,x.i<n→∃ A4 c4,∀ W,Below w.heap.size w W→Calls Tryz.prog 103 #[lyV s A n c m b,ptV x] W fun e w'=>e=.returned (.slice A4 (s.ts.getD x.i ts0).secs.length c4)∧But No W w'):=hid (fun x hx=>by
  have hlt:x.i<s.ts.length:=by rw[h.len];exact hx
  have ht:s.ts[x.i]? = some s.ts[x.i]:=List.getElem?_eq_getElem hlt
  obtain⟨A4,c4,_,_,hc⟩:=sects_any (m:=m) (b:=b) h.cur x ht
  rw[getT ht]
  exact⟨A4,c4,fun W hW=>hc W (rsp.but_below hW)⟩)
 have HI:Hid (IF w s A n c m b 0 0 (((w.alloc (.cells (lyA s A n c m b) 123)).alloc (.cells #[.int .i64 0] 3)).alloc (.cells #[.int .i64 0] 3))):=hid (by
  have h2:=blk2 (w.alloc (.cells (lyA s A n c m b) 123)) (.cells #[.int .i64 0] 3) #[.int .i64 0] 3
  rw[size_alloc1] at h2
  exact⟨((Blk.new w _ _).alloc _).alloc _,(blk2 w _ _ _).alloc _,h2,rsp.below_but ((((But.refl No w).alloc _).alloc _).alloc _) (Nat.le_refl _)⟩)
 have HMI:Hid (∀ x ∈ onN F co n,x.i<n):=hid (fun x hx=>by obtain⟨i,_,e⟩:=onN_mem hx;exact hF _ _ _ e)
 have HMP:=hid h.map
 have hml:=h.map.lt
 have HOL:=hid (onN_len (F:=F) (co:=co) n)
 clear h hF
 dsimp only[lyV,lyA] at CO CS HI ⊢
 refine(callsIn_wide (n:=8)).1 ?_
 refine callsIn_of_wp_marks Tryz.func96 rfl trivial ?_ rfl
 simp only[Tryz.ntmps96,List.size_toArray,List.length_cons,List.length_nil,Nat.reduceAdd,Nat.reduceSub,Array.replicate_succ,Array.replicate_zero,List.push_toArray,List.append_toArray,List.nil_append,List.cons_append]
 gi_wp2_with (refine⟨trivial,?_⟩;gi_at_call 102;refine(callsIn_wide.2 (CO.out _)).mono ?_;rintro e w1 ⟨rfl,rfl⟩)
 have hs3:(((w.alloc (.cells #[.int .i64 s.co,.int .i64 s.po,.int .i64 s.pr,.int .i64 s.re,.int .i64 s.sw,.int .i64 s.fi,.int .i64 s.la,.int .i64 s.rs,.slice A n c,.map (some m),.slice (some ⟨b,0,none⟩) n n] 123)).alloc (.cells #[.int .i64 0] 3)).alloc (.cells #[.int .i64 0] 3)).heap.size=w.heap.size+1+1+1:=by simp
 generalize ((w.alloc (.cells #[.int .i64 s.co,.int .i64 s.po,.int .i64 s.pr,.int .i64 s.re,.int .i64 s.sw,.int .i64 s.fi,.int .i64 s.la,.int .i64 s.rs,.slice A n c,.map (some m),.slice (some ⟨b,0,none⟩) n n] 123)).alloc (.cells #[.int .i64 0] 3)).alloc (.cells #[.int .i64 0] 3)=W4 at HI hs3 ⊢
 have HLB:Hid (Blk ((W4.alloc (.cells #[.int .i64 s.co,.int .i64 s.po,.int .i64 s.pr,.int .i64 s.re,.int .i64 s.sw,.int .i64 s.fi,.int .i64 s.la,.int .i64 s.rs,.slice A n c,.map (some m),.slice (some ⟨b,0,none⟩) n n] 123)).alloc (.cells #[.int .i64 co] 3)) (w.heap.size+1+1+1) #[.int .i64 s.co,.int .i64 s.po,.int .i64 s.pr,.int .i64 s.re,.int .i64 s.sw,.int .i64 s.fi,.int .i64 s.la,.int .i64 s.rs,.slice A n c,.map (some m),.slice (some ⟨b,0,none⟩) n n] 123):=hid (by have:=(Blk.new W4 #[.int .i64 s.co,.int .i64 s.po,.int .i64 s.pr,.int .i64 s.re,.int .i64 s.sw,.int .i64 s.fi,.int .i64 s.la,.int .i64 s.rs,.slice A n c,.map (some m),.slice (some ⟨b,0,none⟩) n n] 123).alloc (.cells #[.int .i64 co] 3);rw[hs3] at this;exact this)
 have HCB:Hid (Blk ((W4.alloc (.cells #[.int .i64 s.co,.int .i64 s.po,.int .i64 s.pr,.int .i64 s.re,.int .i64 s.sw,.int .i64 s.fi,.int .i64 s.la,.int .i64 s.rs,.slice A n c,.map (some m),.slice (some ⟨b,0,none⟩) n n] 123)).alloc (.cells #[.int .i64 co] 3)) (w.heap.size+1+1+1+1) #[.int .i64 co] 3):=hid (by have:=blk2 W4 (.cells #[.int .i64 s.co,.int .i64 s.po,.int .i64 s.pr,.int .i64 s.re,.int .i64 s.sw,.int .i64 s.fi,.int .i64 s.la,.int .i64 s.rs,.slice A n c,.map (some m),.slice (some ⟨b,0,none⟩) n n] 123) #[.int .i64 co] 3;rw[hs3] at this;exact this)
 have HI:=hid (HI.out.no (((But.refl No W4).alloc (.cells #[.int .i64 s.co,.int .i64 s.po,.int .i64 s.pr,.int .i64 s.re,.int .i64 s.sw,.int .i64 s.fi,.int .i64 s.la,.int .i64 s.rs,.slice A n c,.map (some m),.slice (some ⟨b,0,none⟩) n n] 123)).alloc (.cells #[.int .i64 co] 3)))
 have hsz:w.heap.size+5=((W4.alloc (.cells #[.int .i64 s.co,.int .i64 s.po,.int .i64 s.pr,.int .i64 s.re,.int .i64 s.sw,.int .i64 s.fi,.int .i64 s.la,.int .i64 s.rs,.slice A n c,.map (some m),.slice (some ⟨b,0,none⟩) n n] 123)).alloc (.cells #[.int .i64 co] 3)).heap.size:=by simp[hs3]
 generalize (W4.alloc (.cells #[.int .i64 s.co,.int .i64 s.po,.int .i64 s.pr,.int .i64 s.re,.int .i64 s.sw,.int .i64 s.fi,.int .i64 s.la,.int .i64 s.rs,.slice A n c,.map (some m),.slice (some ⟨b,0,none⟩) n n] 123)).alloc (.cells #[.int .i64 co] 3)=W0 at HI HLB HCB hsz ⊢
 clear hs3
 have HM0:Hid (MP W0 m K F):=hid (HMP.out.no (rsp.but_below HI.out.but))
 refine wpIn_rangeFunc_ownH rfl (by omega) (gf:=120) (lb:=#[.pointer (some ⟨w.heap.size+1+1+1,0,none⟩),.pointer (some ⟨w.heap.size+1+1+1+1,0,none⟩)]) rfl trivial (enters_of Tryz.func120 (by kernel_rfl) rfl)
  (on_stops (8-1) (by omega) (w.heap.size+1+1+1) (w.heap.size+1+1+1+1) s A n c m b F co K (fun z=>w.heap.size≤z∧z≠w.heap.size+1+1+1∧z≠w.heap.size+1+1+1+1) (by omega) (by omega) (by omega) hco hn W0 HLB.out HCB.out HM0.out) But.trans (fun X l o o' hl ho hc _=>(But.refl _ X).grown (grownBy_putObj' _ l o') (fun z e=>by cases e;exact .inl ⟨by omega,by omega,by omega⟩)) (Below.refl _ _) (fun _=>rfl)
  (fun pre W=>IF w s A n c m b (tiC (vl pre):Int) (shC s (vl pre):Int) W∧W0.heap.size≤W.heap.size∧tiC (vl pre)≤pre.length∧shC s (vl pre)≤pre.length)
  (fun _ _ _=>False)
  (fun st X Y row hs hg hr=>⟨hs.1.turn (by omega) hg hr,Nat.le_trans hs.2.1 hg.size,hs.2.2⟩)
  (fun _ _ _ _ _ hs _ _=>hs)
  ⟨HI.out,Nat.le_refl _,by simp[tiC],by simp[shC]⟩
  (fun x a' W=>∃ Bx,W0.heap.size≤Bx∧Blk W Bx (ptA x.1) 130∧a' = { tmps:=#[.agg #[.int .i64 s.co,.int .i64 s.po,.int .i64 s.pr,.int .i64 s.re,.int .i64 s.sw,.int .i64 s.fi,.int .i64 s.la,.int .i64 s.rs,.slice A n c,.map (some m),.slice (some ⟨b,0,none⟩) n n],.int .i64 co,.pointer (some ⟨w.heap.size,0,none⟩),undef,.bool false,.pointer (some ⟨w.heap.size+1,0,none⟩),.pointer (some ⟨w.heap.size+1+1,0,none⟩),.pointer (some ⟨Bx,0,none⟩),.agg #[.int .i64 s.co,.int .i64 s.po,.int .i64 s.pr,.int .i64 s.re,.int .i64 s.sw,.int .i64 s.fi,.int .i64 s.la,.int .i64 s.rs,.slice A n c,.map (some m),.slice (some ⟨b,0,none⟩) n n],.int .i64 co,.func (.func 120) #[] #[.pointer (some ⟨w.heap.size+1+1+1,0,none⟩),.pointer (some ⟨w.heap.size+1+1+1+1,0,none⟩)],ptV x.1,undef,undef,undef,undef,undef,undef,undef,undef,undef,undef,undef,undef,undef,undef,undef,undef,undef,undef,undef,undef,undef,undef],defers:=[] })
  (fun x a' st X Y row hs hg hr=>by obtain⟨Bx,h1,h2,h3⟩:=hs;exact⟨Bx,h1,rsp.blk_turn h2 hg (fun k e=>(hr k e).2),h3⟩)
  ?assign ?body ?done ?stop
 case assign =>
  rintro lp pre x W K ⟨hi,hz,hp⟩ hK
  dsimp only[ptV,ptA]
  gi_wp2
  exact hK _ _ ((KeepsOthers.alloc _ _).from _) ((But.refl _ W).alloc _) ⟨hi.no ((But.refl _ W).alloc _),by rw[size_alloc1];omega,hp⟩ ⟨W.heap.size,hz,Blk.new W _ _,rfl⟩
 case body =>
  rintro lp pre x a' W hl ⟨r,hr⟩ ⟨hi,hz,hp1,hp2⟩ ⟨Bx,hBx,hbx,rfl⟩ hlt
  have hxn:=HMI.out x.1 x.2
  obtain⟨A4,c4,hcs⟩:=CS.out x.1 hxn
  have CSX:Hid (∀ X,Below w.heap.size w X→Calls Tryz.prog 103 #[.agg #[.int .i64 s.co,.int .i64 s.po,.int .i64 s.pr,.int .i64 s.re,.int .i64 s.sw,.int .i64 s.fi,.int .i64 s.la,.int .i64 s.rs,.slice A n c,.map (some m),.slice (some ⟨b,0,none⟩) n n],ptV x.1] X fun e w'=>e=.returned (.slice A4 (s.ts.getD x.1.i ts0).secs.length c4)∧But No X w'):=hid hcs
  have HSN:Hid (tiC (vl (pre ++ [x]))=tiC (vl pre)+(if x.1.p.ti=true then 1 else 0)∧shC s (vl (pre ++ [x]))=shC s (vl pre)+(if shB s x.1=true then 1 else 0)∧(pre ++ [x]).length=pre.length+1):=hid ⟨by rw[vl_snoc,tiC_snoc],by rw[vl_snoc,shC_snoc],by simp⟩
  have hsb:shB s x.1=decide (0<(s.ts.getD x.1.i ts0).secs.length):=rfl
  obtain⟨T,hT⟩:∃ T,tiC (vl pre)=T:=⟨_,rfl⟩
  obtain⟨U,hU⟩:∃ U,shC s (vl pre)=U:=⟨_,rfl⟩
  rw[hT] at hi hp1 HSN
  rw[hU] at hi hp2 HSN
  have HU:=hid HOL.out
  have hsm:T<1000∧U<1000:=by have:=HOL.out;omega
  have HP:=hid (And.intro hp1 hp2)
  have HZ:=hid hz
  have HI2:=hid hi
  have HBX:=hid hbx
  obtain⟨LL,hLL⟩:∃ LL,(s.ts.getD x.1.i ts0).secs.length=LL:=⟨_,rfl⟩
  rw[hLL] at CSX hsb
  rw[hsb] at HSN
  clear hcs hT hU hp1 hp2 hz hsb hLL hlt hl hr hxn
  obtain⟨d0,d1,d2,d3,d4,d5,d6,d7,d8,d9⟩:=Blk.cl hbx
  obtain⟨⟨⟨x0,x1,x2,x3,x4⟩,xi,xk,xl,xd,xj⟩,hx⟩:=x
  have k0:=HI2.out.b1.cell (o:=0) rfl
  have k1:=HI2.out.b1.frozen 0
  clear hi hbx
  dsimp only[ptV,ptA] at *
  cases x4 with
  | true =>
   gi_upto_region 6 with fail
   obtain⟨W1,hW1⟩:∃ W1,W.setCell ⟨w.heap.size+1,0,none⟩ (.int .i64 ((T:Int)+1))=W1:=⟨_,rfl⟩
   rw[hW1]
   have HI3:Hid (IF w s A n c m b ((T:Int)+1) (U:Int) W1):=hid (by rw[←hW1];exact HI2.out.set1 _)
   have HBX1:Hid (Blk W1 Bx #[.int .i64 x0,.int .i64 x1,.int .i64 x2,.int .i64 x3,.bool true,.int .i64 (xi:Int),.int .i64 (xk:Int),.bool xl,.int .i64 xd,.int .i64 xj] 130):=hid (by rw[←hW1];exact HBX.out.other (by show Bx≠w.heap.size+1;omega) _)
   have HKO:Hid (KeepsOthers W W1):=hid (by rw[←hW1];exact KeepsOthers.setCell _ _ _)
   have HBS:Hid (But (fun z=>w.heap.size≤z∧z≠w.heap.size+1+1+1∧z≠w.heap.size+1+1+1+1) W W1):=hid (by rw[←hW1];exact(But.refl _ W).setCell (p:=⟨w.heap.size+1,0,none⟩) ⟨by dsimp only;omega,by dsimp only;omega,by dsimp only;omega⟩ _)
   clear hW1 d0 d1 d2 d3 d4 d5 d6 d7 d8 d9 k0 k1
   obtain⟨⟨l0,l1,l2,l3,l4,l5,l6,l7,l8⟩,l9,l10⟩:=ly_cells HI3.out.bl
   have d0:=HBX1.out.cell (o:=0) rfl
   have d1:=HBX1.out.cell (o:=1) rfl
   have d2:=HBX1.out.cell (o:=2) rfl
   have d3:=HBX1.out.cell (o:=3) rfl
   have d4:=HBX1.out.cell (o:=4) rfl
   have d5:=HBX1.out.cell (o:=5) rfl
   have d6:=HBX1.out.cell (o:=6) rfl
   have d7:=HBX1.out.cell (o:=7) rfl
   have d8:=HBX1.out.cell (o:=8) rfl
   have d9:=HBX1.out.cell (o:=9) rfl
   have HQ:Hid (∀ X,But No W1 X→X.cell? ⟨w.heap.size+1+1,0,none⟩=some (.int .i64 (U:Int))∧X.frozen? ⟨w.heap.size+1+1,0,none⟩=false):=hid (fun X hX=>⟨(HI3.out.no hX).b2.cell (o:=0) rfl,(HI3.out.no hX).b2.frozen 0⟩)
   by_cases hL:0<LL
   ·have hd:decide (0<LL)=true:=decide_eq_true hL
    have hLz:(0:Int)<(LL:Int):=by omega
    rw[hd] at HSN
    gi_wp2_with (refine⟨trivial,?_⟩;gi_at_call 103;refine(CallsIn.inRound lp (callsIn_wide.2 (CSX.out W1 HI3.out.but))).mono ?_;rintro e w2 ⟨rfl,h2⟩;obtain⟨k0,k1⟩:=HQ.out w2 h2;have H2:=hid h2;clear h2)
    have hi5:=(HI3.out.no H2.out).set2 ((U:Int)+1)
    refine⟨((HKO.out.trans (rsp.keeps_but H2.out)).trans (KeepsOthers.setCell _ _ _)).from _,(HBS.out.trans H2.out.no).setCell (p:=⟨w.heap.size+1+1,0,none⟩) ⟨by dsimp only;omega,by dsimp only;omega,by dsimp only;omega⟩ _,?_⟩
    dsimp only
    rw[HSN.out.1,HSN.out.2.1,HSN.out.2.2]
    refine⟨by simpa  using hi5,?_,?_,?_⟩
    ·have:=HKO.out.size;have:=H2.out.size;have:=HZ.out;simp;omega
    ·have:=HP.out;simp only[if_true];omega
    ·have:=HP.out;simp only[if_true];omega
   ·have hd:decide (0<LL)=false:=decide_eq_false hL
    have hLz:¬(0:Int)<(LL:Int):=by omega
    rw[hd] at HSN
    gi_wp2_with (refine⟨trivial,?_⟩;gi_at_call 103;refine(CallsIn.inRound lp (callsIn_wide.2 (CSX.out W1 HI3.out.but))).mono ?_;rintro e w2 ⟨rfl,h2⟩;have H2:=hid h2;clear h2)
    have hi5:=HI3.out.no H2.out
    refine⟨(HKO.out.trans (rsp.keeps_but H2.out)).from _,HBS.out.trans H2.out.no,?_⟩
    dsimp only
    rw[HSN.out.1,HSN.out.2.1,HSN.out.2.2]
    refine⟨by simpa  using hi5,?_,?_,?_⟩
    ·have:=HKO.out.size;have:=H2.out.size;have:=HZ.out;omega
    ·have:=HP.out;simp only[if_true];omega
    ·have:=HP.out;simp;omega
  | false =>
   have HI3:Hid (IF w s A n c m b (T:Int) (U:Int) W):=HI2
   have HBX1:Hid (Blk W Bx #[.int .i64 x0,.int .i64 x1,.int .i64 x2,.int .i64 x3,.bool false,.int .i64 (xi:Int),.int .i64 (xk:Int),.bool xl,.int .i64 xd,.int .i64 xj] 130):=HBX
   have HKO:Hid (KeepsOthers W W):=hid (KeepsOthers.refl _)
   have HBS:Hid (But (fun z=>w.heap.size≤z∧z≠w.heap.size+1+1+1∧z≠w.heap.size+1+1+1+1) W W):=hid (But.refl _ W)
   gi_upto_region 6 with fail
   clear d0 d1 d2 d3 d4 d5 d6 d7 d8 d9 k0 k1
   obtain⟨⟨l0,l1,l2,l3,l4,l5,l6,l7,l8⟩,l9,l10⟩:=ly_cells HI3.out.bl
   have d0:=HBX1.out.cell (o:=0) rfl
   have d1:=HBX1.out.cell (o:=1) rfl
   have d2:=HBX1.out.cell (o:=2) rfl
   have d3:=HBX1.out.cell (o:=3) rfl
   have d4:=HBX1.out.cell (o:=4) rfl
   have d5:=HBX1.out.cell (o:=5) rfl
   have d6:=HBX1.out.cell (o:=6) rfl
   have d7:=HBX1.out.cell (o:=7) rfl
   have d8:=HBX1.out.cell (o:=8) rfl
   have d9:=HBX1.out.cell (o:=9) rfl
   have HQ:Hid (∀ X,But No W X→X.cell? ⟨w.heap.size+1+1,0,none⟩=some (.int .i64 (U:Int))∧X.frozen? ⟨w.heap.size+1+1,0,none⟩=false):=hid (fun X hX=>⟨(HI3.out.no hX).b2.cell (o:=0) rfl,(HI3.out.no hX).b2.frozen 0⟩)
   by_cases hL:0<LL
   ·have hd:decide (0<LL)=true:=decide_eq_true hL
    have hLz:(0:Int)<(LL:Int):=by omega
    rw[hd] at HSN
    gi_wp2_with (refine⟨trivial,?_⟩;gi_at_call 103;refine(CallsIn.inRound lp (callsIn_wide.2 (CSX.out W HI3.out.but))).mono ?_;rintro e w2 ⟨rfl,h2⟩;obtain⟨k0,k1⟩:=HQ.out w2 h2;have H2:=hid h2;clear h2)
    have hi5:=(HI3.out.no H2.out).set2 ((U:Int)+1)
    refine⟨((HKO.out.trans (rsp.keeps_but H2.out)).trans (KeepsOthers.setCell _ _ _)).from _,(HBS.out.trans H2.out.no).setCell (p:=⟨w.heap.size+1+1,0,none⟩) ⟨by dsimp only;omega,by dsimp only;omega,by dsimp only;omega⟩ _,?_⟩
    dsimp only
    rw[HSN.out.1,HSN.out.2.1,HSN.out.2.2]
    refine⟨by simpa  using hi5,?_,?_,?_⟩
    ·have:=HKO.out.size;have:=H2.out.size;have:=HZ.out;simp;omega
    ·have:=HP.out;simp;omega
    ·have:=HP.out;simp only[if_true];omega
   ·have hd:decide (0<LL)=false:=decide_eq_false hL
    have hLz:¬(0:Int)<(LL:Int):=by omega
    rw[hd] at HSN
    gi_wp2_with (refine⟨trivial,?_⟩;gi_at_call 103;refine(CallsIn.inRound lp (callsIn_wide.2 (CSX.out W HI3.out.but))).mono ?_;rintro e w2 ⟨rfl,h2⟩;have H2:=hid h2;clear h2)
    have hi5:=HI3.out.no H2.out
    refine⟨(HKO.out.trans (rsp.keeps_but H2.out)).from _,HBS.out.trans H2.out.no,?_⟩
    dsimp only
    rw[HSN.out.1,HSN.out.2.1,HSN.out.2.2]
    refine⟨by simpa  using hi5,?_,?_,?_⟩
    ·have:=HKO.out.size;have:=H2.out.size;have:=HZ.out;omega
    ·have:=HP.out;simp;omega
    ·have:=HP.out;simp;omega
 case done =>
  rintro D ys W hD rfl ⟨hi,_,_,_⟩ hK
  rw[vl_all] at hi
  have HV:Hid (fitsV s (onN F co n)=(decide (tiC (onN F co n)=0) || (decide (tiC (onN F co n)=1) && decide (shC s (onN F co n)=0)))):=hid rfl
  generalize tiC (onN F co n)=T at hi HV
  generalize shC s (onN F co n)=U at hi HV
  have k0:=hi.b1.cell (o:=0) rfl
  have k1:=hi.b2.cell (o:=0) rfl
  have hB:=rsp.but_below (hi.turn (B:=W0.heap.size) (by omega) (grownBy_putObj' _ D (.deferred none)) (fun r e=>by cases e;exact⟨hD,_,hK,rfl⟩)).but
  have HB:=hid hB
  have HK:=hid hK
  clear hi hB hK
  by_cases h0:T=0
  ·have q0:((T:Int) == 0)=true:=by simp[h0]
   have hv:true=fitsV s (onN F co n):=by rw[HV.out];simp[h0]
   have HVV:=hid hv
   clear hv HV h0
   gi_wp2
   refine⟨by simp,.inl ⟨_,_,rfl,run_takeDeferred HK.out,?_⟩⟩
   exact⟨.bool true,by simp[results,Tryz.results96,go_sem],ret_bool HVV.out,HB.out⟩
  ·have q0:((T:Int) == 0)=false:=by rw[beq_eq_false_iff_ne];omega
   by_cases h1:T=1
   ·have q1:((T:Int) == 1)=true:=by simp[h1]
    by_cases h2:U=0
    ·have q2:((U:Int) == 0)=true:=by simp[h2]
     have hv:true=fitsV s (onN F co n):=by rw[HV.out];simp[h1,h2]
     have HVV:=hid hv
     clear hv HV h0 h1 h2
     gi_wp2
     refine⟨by simp,.inl ⟨_,_,rfl,run_takeDeferred HK.out,?_⟩⟩
     exact⟨.bool true,by simp[results,Tryz.results96,go_sem],ret_bool HVV.out,HB.out⟩
    ·have q2:((U:Int) == 0)=false:=by rw[beq_eq_false_iff_ne];omega
     have hv:false=fitsV s (onN F co n):=by rw[HV.out];simp[h1,h2]
     have HVV:=hid hv
     clear hv HV h0 h1 h2
     gi_wp2
     refine⟨by simp,.inl ⟨_,_,rfl,run_takeDeferred HK.out,?_⟩⟩
     exact⟨.bool false,by simp[results,Tryz.results96,go_sem],ret_bool HVV.out,HB.out⟩
   ·have q1:((T:Int) == 1)=false:=by rw[beq_eq_false_iff_ne];omega
    have hv:false=fitsV s (onN F co n):=by rw[HV.out];simp[h0,h1]
    have HVV:=hid hv
    clear hv HV h0 h1
    gi_wp2
    refine⟨by simp,.inl ⟨_,_,rfl,run_takeDeferred HK.out,?_⟩⟩
    exact⟨.bool false,by simp[results,Tryz.results96,go_sem],ret_bool HVV.out,HB.out⟩
 case stop =>
  rintro D c' pre W hD hp h
  exact h.elim
end Go.Proofs.YtikcigjbhohboaaGreat.pln
end
section
namespace Go.Proofs.YtikcigjbhohboaaGreat.pln
open Go.Lib (hid)
open Go.ChangeShapes Go.WideShapes Go.ChangeAt Go.RowKit Go.Deep val
set_option maxRecDepth 100000 in
set_option maxHeartbeats 4000000 in
theorem mul64_1 {n:Nat} (hn:n≤24) (w:World):Calls Tryz.prog 142 #[.int .u64 1,.int .u64 (n:Int)] w fun e w'=>e=.returned (.tuple #[.int .u64 0,.int .u64 (n:Int)])∧w'=w:=by
 have h:n=0∨n=1∨n=2∨n=3∨n=4∨n=5∨n=6∨n=7∨n=8∨n=9∨n=10∨n=11∨n=12∨n=13∨n=14∨n=15∨n=16∨n=17∨n=18∨n=19∨n=20∨n=21∨n=22∨n=23∨n=24:=by omega
 clear hn
 rcases h with rfl | rfl | rfl | rfl | rfl | rfl | rfl | rfl | rfl | rfl | rfl | rfl | rfl | rfl | rfl | rfl | rfl | rfl | rfl | rfl | rfl | rfl | rfl | rfl | rfl
 all_goals
  go_enter Tryz.func142,Tryz.ntmps142
  go_wp2
  go_ret2
  exact⟨rfl,rfl⟩
set_option maxRecDepth 100000 in
set_option maxHeartbeats 4000000 in
theorem mul_1 {n:Nat} (hn:n≤24) (w:World):Calls Tryz.prog 112 #[.int .u64 1,.int .u64 (n:Int)] w fun e w'=>e=.returned (.tuple #[.int .u64 0,.int .u64 (n:Int)])∧w'=w:=by
 have CM:Hid (∀ W,Calls Tryz.prog 142 #[.int .u64 1,.int .u64 (n:Int)] W fun e w'=>e=.returned (.tuple #[.int .u64 0,.int .u64 (n:Int)])∧w'=W):=hid (fun W=>mul64_1 hn W)
 have hn0:(0:Int)≤(n:Int):=Int.natCast_nonneg n
 have hn1:(n:Int)≤24:=by omega
 go_enter Tryz.func112,Tryz.ntmps112
 go_wp2_with (go_at_call 142;(with_reducible refine(CM.out _).mono ?_);rintro e w1 ⟨rfl,rfl⟩)
 go_ret2
 exact⟨rfl,rfl⟩
theorem _root_.Go.Proofs.YtikcigjbhohboaaGreat.But.setRow {S:Nat→Prop} {a b:World} (h:But S a b) {q:Nat} (hq:S q) (cs:Array Value):But S a (b.setRow q cs) :=
 h.trans ⟨rfl,rfl,rfl,by simp[World.setRow],fun k _ hs=>setRow_other b q k cs (fun e=>hs (e▸hq))⟩
theorem fill_row {n q m:Nat} (x y:Value) (hf:q+m≤n):(((List.range n).map (fun j=>if j<q then x else y)).take q ++ List.replicate m x ++ ((List.range n).map (fun j=>if j<q then x else y)).drop (q+m))=(List.range n).map (fun j=>if j<q+m then x else y):=by
 apply List.ext_getElem?
 intro k
 simp only[List.getElem?_append,List.length_append,List.length_take,List.length_map,List.length_range,List.length_replicate,List.getElem?_take,List.getElem?_drop,List.getElem?_map]
 have e1:min q n=q:=by omega
 rw[e1]
 by_cases hk:k<n
 ·by_cases k1:k<q
  ·rw[if_pos (by omega),if_pos k1,if_pos k1,List.getElem?_range hk]
   simp[k1,show k<q+m by omega]
  ·by_cases k2:k<q+m
   ·rw[if_pos k2,if_neg k1,List.getElem?_range hk,List.getElem?_replicate,if_pos (by omega)]
    simp[k2]
   ·rw[if_neg k2,show q+m+(k-(q+m))=k by omega,List.getElem?_range hk]
    simp[k1,k2]
 ·rw[if_neg (by omega),List.getElem?_eq_none (l:=List.range n) (by simp;omega),List.getElem?_eq_none (l:=List.range n) (by simp;omega)]
  rfl
theorem step_copy_fill {P:Program} {ops:Array Oper} {o:Oper} {a:Act} {w:World} {K:Act→World→Prop} {Q:Exit→Act→World→Prop} {E:Prop} (hgd:o.guard=none) (d s:Operand) (dT sT:TypeId)
  (ho:o.op=.call { callee:=.builtin .copy,args:=#[d,s],argTypes:=#[dT,sT] }) (elem:TypeId) (hu:P.underlying dT=some (.slice elem)) (hsz:(P.info? elem).map (·.size)=some 1)
  (b q dLen dCap sLen sCap:Nat) (hd:a.eval d=.slice (some ⟨b,q,none⟩) dLen dCap) (hs:a.eval s=.slice (some ⟨b,0,none⟩) sLen sCap)
  (n:Nat) (x y:Value) (hx:x.oneCell'=true) (hv:Vals w b 3 n (fun j=>if j<q then x else y)) (m:Nat) (hm:Nat.min sLen dLen=m) (hq:m≤q) (hfit:q+m≤n)
  (h:∀ w',Hid (Vals w' b 3 n (fun j=>if j<q+m then x else y))→Hid (But (Just b) w w')→K (a.put o.dst (goInt m)) w') :
  if Region.wanted o (yielded ops a.tmps)=true then Oper.wp P o a w K Q else E:=by
 have hw:Region.wanted o (yielded ops a.tmps)=true:=by simp[Region.wanted,hgd]
 rw[if_pos hw]
 have hrun:=run_copy_row (P:=P) w dT sT o.type elem b q dLen dCap ⟨b,0,none⟩ sLen sCap ((List.range n).map (fun j=>if j<q then x else y)).toArray 3 (List.replicate m x) hu hsz hv (by rw[List.length_replicate,hm]) (fun j v hj=>by
  have hjm:j<m:=by have:=(List.getElem?_eq_some_iff.1 hj).1;simpa using this
  rw[List.getElem?_replicate,if_pos hjm] at hj
  cases hj
  have:=hv.cell (k:=j) (by omega)
  rw[if_pos (by omega)] at this
  have e:(⟨b,0,none⟩:Addr).add j=⟨b,j,none⟩:=by unfold Addr.add;split <;> simp_all
  rw[e];exact this) (by simpa using hfit) (fun v hv=>by rw[List.eq_of_mem_replicate hv];exact hx)
 unfold Oper.wp
 rw[List.length_replicate] at hrun
 simp[execOp,ho,resolve,invoke,builtin,hd,hs,hrun,Result.andThen]
 refine h _ ?_ ((But.refl _ w).setRow (just b) _)
 have:=setRow_heap w b ((List.range n).map (fun j=>if j<q then x else y)).toArray (((List.range n).map (fun j=>if j<q then x else y)).toArray.toList.take q ++ List.replicate m x ++ ((List.range n).map (fun j=>if j<q then x else y)).toArray.toList.drop (q+m)).toArray 3 (0,0) hv
 show Blk _ _ _ _
 unfold Blk
 rw[←fill_row x y hfit]
 simpa using this
theorem wpList_copy_first {P:Program} {w:World} {ops:Array Oper} {rest:List Oper} {o:Oper} {a:Act} {Q:Exit→Act→World→Prop} (hgd:o.guard=none) (d s:Operand) (dT sT:TypeId)
  (ho:o.op=.call { callee:=.builtin .copy,args:=#[d,s],argTypes:=#[dT,sT] }) (elem:TypeId) (hu:P.underlying dT=some (.slice elem)) (hsz:(P.info? elem).map (·.size)=some 1)
  (b ax n:Nat) (hd:a.eval d=.slice (some ⟨b,0,none⟩) n n) (hs:a.eval s=.slice (some ⟨ax,0,none⟩) 1 1) (x y:Value) (hx:x.oneCell'=true) (hv:Vals w b 3 n (fun _=>y)) (hn:1≤n) (hax:w.cell? ⟨ax,0,none⟩=some x)
  (h:∀ w',Hid (Vals w' b 3 n (fun j=>if j<1 then x else y))→Hid (But (Just b) w w')→wpList P ops Q rest (a.put o.dst (goInt 1)) w'):wpList P ops Q (o :: rest) a w:=by
 refine wpList_copy_own hgd d s dT sT ho elem hu hsz b 0 n n ⟨ax,0,none⟩ 1 1 hd hs ((List.range n).map (fun _=>y)).toArray 3 hv [x] (by show 1=min 1 n;omega) (fun j v hj=>?_) (by simp;omega) (by simpa using hx) ?_
 ·have hj0:j=0:=by have:=(List.getElem?_eq_some_iff.1 hj).1;simp at this;exact this
  subst hj0
  simp at hj;subst hj
  have e:(⟨ax,0,none⟩:Addr).add 0=⟨ax,0,none⟩:=by unfold Addr.add;split <;> simp_all
  rw[e];exact hax
 ·refine h _ ?_ ((But.refl _ w).setRow (just b) _)
  have hf:=fill_row (n:=n) (q:=0) (m:=1) x y (by omega)
  simp only[Nat.not_lt_zero,if_false,Nat.zero_add] at hf
  have:=setRow_heap w b ((List.range n).map (fun _=>y)).toArray ((((List.range n).map (fun _=>y)).toArray.toList.take 0 ++ ([x] ++ ((List.range n).map (fun _=>y)).toArray.toList.drop (0 + [x].length))).toArray) 3 (0,0) hv
  show Blk _ _ _ _
  unfold Blk
  rw[←hf]
  simpa using this
set_option maxRecDepth 100000 in
set_option maxHeartbeats 4000000 in
theorem repeat_any {n:Nat} (h1:1≤n) (hn:n≤24) (w:World) (ax:Nat) (hx:w.cell? ⟨ax,0,none⟩=some (.int .i64 (-1))) :
  Calls Tryz.prog 93 #[.slice (some ⟨ax,0,none⟩) 1 1,.int .i64 (n:Int)] w fun e w'=>∃ b,e=.returned (.slice (some ⟨b,0,none⟩) n n)∧CE w w' b n (fun _=>-1):=by
 have CM:Hid (∀ W,Calls Tryz.prog 112 #[.int .u64 1,.int .u64 (n:Int)] W fun e w'=>e=.returned (.tuple #[.int .u64 0,.int .u64 (n:Int)])∧w'=W):=hid (fun W=>mul_1 hn W)
 obtain⟨i3,hi0,hz0,hz1,hz2⟩:=info_parts info3
 have I3:Hid (Tryz.prog.info? 3=some i3∧i3.zero=some (.int .i64 0)∧i3.size=1∧i3.bytes=8):=⟨hi0,hz0,hz1,hz2⟩
 clear hi0 hz0 hz1 hz2
 have hn0:(0:Int)≤(n:Int):=Int.natCast_nonneg n
 have hn1:(n:Int)≤24:=by omega
 have hn2:(1:Int)≤(n:Int):=by omega
 go_enter Tryz.func93,Tryz.ntmps93
 go_upto_region 7 with(first
  | (go_at_call 112;(with_reducible refine(CM.out _).mono ?_);rintro e w1 ⟨rfl,rfl⟩)
  | (at_make;refine wpList_make_full _ rfl _ _ 26 rfl 0 3 i3 _ 1 Tryz.underlying26 I3.out.1 I3.out.2.1 I3.out.2.2.1 .i64 .i64 _ _ n rfl rfl rfl rfl (by rw[I3.out.2.2.2];omega) (by unfold maxLen;omega) (Nat.zero_le _) ?_;intro w2 hown hgrow;have hb2:=(But.refl No w1).grown hgrow (fun k e=>by cases e);have HV2:Hid (Vals w2 w1.heap.size 3 n (fun _=>.int .i64 0)):=hid (vals_made1 rfl hown);have HB2:=hid hb2;have hax:=cell_keep hx hb2;clear hown hgrow hb2))
 obtain⟨b,hb⟩:∃ b,w1.heap.size=b:=⟨_,rfl⟩
 have HBN:Hid (w1.heap.size≤b):=by show _≤_;omega
 rw[hb] at HV2 ⊢
 have hsz3:(Tryz.prog.info? 3).map (·.size)=some 1:=by rw[I3.out.1];simp[I3.out.2.2.1]
 have HSZ:=hid hsz3
 clear hsz3 hb
 have HN:=hid h1
 clear h1
 go_upto_region 8 with(with_reducible refine wpList_copy_first (o:=⟨some 33,_,_,_,_,_⟩) rfl (.tmp 31) (.tmp 32) 26 26 rfl 3 Tryz.underlying26 HSZ.out b ax n rfl rfl (.int .i64 (-1)) (.int .i64 0) rfl HV2.out HN.out hax ?_;intro w3 hv3 hb3)
 have H3:Hid (But No w1 w3):=hid (HB2.out.andThen' hb3.out (fun k _ e=>by cases e;exact HBN.out))
 clear hb3 hax hx HV2 HB2 I3
 have hd1:decide ((n:Int)<0)=false:=by simp
 have hd2:decide ((9223372036854775807:Int)<(n:Int))=false:=by simp;omega
 simp only[hd1,hd2]
 clear hd1 hd2
 go_loopw [8] (fun i wr=>∃ q:Nat,i=.int .i64 (q:Int)∧1≤q∧q≤n∧Hid (Vals wr b 3 n (fun j=>if j<q then .int .i64 (-1) else .int .i64 0))∧Hid (But No w1 wr)) (fun i _=>n-(intOf i).toNat)
 case atStart=>exact⟨1,rfl,Nat.le_refl _,HN.out,hv3,H3⟩
 case round =>
  obtain⟨q,rfl,hq1,hqn,HV,HB⟩:=hrel
  have hq0:(0:Int)≤(q:Int):=Int.natCast_nonneg q
  by_cases hlt:q<n
  ·have b1:decide ((q:Int)<(n:Int))=true:=by simp;omega
   have b2:(q:Int)≤(n:Int):=by omega
   have b3:¬n=q:=by omega
   have HVD:Hid (Vals wr.drew b 3 n (fun j=>if j<q then .int .i64 (-1) else .int .i64 0)):=HV
   obtain⟨m,hm⟩:∃ m,Nat.min q (n-q)=m:=⟨_,rfl⟩
   obtain⟨z,hz⟩:∃ z,z=q+m:=⟨_,rfl⟩
   have hmle:m≤q∧q+m≤n∧1≤m:=by have:m=min q (n-q):=hm.symm;omega
   have hw:IntKind.i64.wrap ((q:Int)+(m:Int))=(z:Int):=by rw[IntKind.wrap_i64];omega
   have HM:=hid (And.intro hm (And.intro hmle hz))
   clear hm hmle hz
   go_wp2_with fail
   go_region_law (refine step_copy_fill rfl (.tmp 41) (.tmp 44) 26 26 rfl 3 Tryz.underlying26 HSZ.out b q (n-q) (n-q) q n (by simp[Act.eval,Act.put]) (by simp[Act.eval,Act.put]) n (.int .i64 (-1)) (.int .i64 0) rfl HVD.out m HM.out.1 HM.out.2.1.1 HM.out.2.1.2.1 ?_;intro w4 hv4 hb4)
   have H4:Hid (But No w1 w4):=hid (HB.out.drew.andThen' hb4.out (fun k _ e=>by cases e;exact HBN.out))
   have HV4:Hid (Vals w4 b 3 n (fun j=>if j<z then .int .i64 (-1) else .int .i64 0)):=hid (by rw[HM.out.2.2];exact hv4.out)
   clear hv4 hb4 HV HB HVD
   go_simp
   go_roundw
   case rel=>exact⟨_,_,_,_,_,_,_,_,_,_,_,_,_,_,⟨z,rfl,by have:=HM.out;omega,by have:=HM.out;omega,HV4,H4⟩,rfl⟩
   case measure=>have hzz:=HM.out;simp[intOf];omega
  ·have b1:decide ((q:Int)<(n:Int))=false:=by simp;omega
   have HV9:Hid (Vals wr b 3 n (fun _=>.int .i64 (-1))):=hid (HV.out.congr (fun j hj=>by rw[if_pos (by omega)]))
   clear hv3
   go_wp2
   go_ret
   exact⟨b,rfl,HV9.out,HBN.out,HB.out⟩
end Go.Proofs.YtikcigjbhohboaaGreat.pln
end
