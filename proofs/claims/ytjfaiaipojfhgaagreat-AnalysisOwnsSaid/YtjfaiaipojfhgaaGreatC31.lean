/- Part 31 of a proof: PaL2 PaF. -/
import Derived.Sort.CutIn
import Derived.Test.YtjfaiaipojfhgaaGreatC30
section
namespace Go.Proofs.YtjfaiaipojfhgaaGreat.pln
open Go.Lib (hid)
open Go.ChangeShapes Go.WideShapes Go.ChangeAt Go.RowKit Go.Deep val Go.Sort
def zpP (x:Pt):Pt:=⟨zp x.p,x.i,x.k,x.la,x.dn,x.ji⟩
set_option maxRecDepth 100000 in
theorem MP.store {w:World} {m K:Nat} {F:Int→Int→Option Pt} (h:MP w m K F) (hK:K<maxLen) {c t:Int} (hc:inR c) (ht:inR t) (x:Pt) :
  ∃ w',(Instr.mapUpdate 64 (.map (some m)) (keyV c t) (ptV x)).run Tryz.prog w=.ok () w'∧MP w' m (K+1) (upF F c t x)∧But (Just m) w w':=by
 obtain⟨D,h1,h2⟩:=h
 obtain⟨w',hr,ho,hm⟩:=h1.store keyedK Tryz.underlying64 hK (kl_is hc ht) (partR_mk x)
 have hD:Maps.IsMap D:=by obtain⟨es,clock,_,_,_,e⟩:=h1;rw[e];exact⟨_,rfl⟩
 exact⟨w',hr,⟨_,ho,h2.put hD hc ht x⟩,(But.refl _ w).turnedP hm (just m)⟩
abbrev PC (q m:Nat) (co bu de:Int) (ti:Bool) (i k:Nat) (la:Bool) (dn ji:Int) (W:World):Prop:=W.cell? ⟨q,9,none⟩=some (.map (some m))∧W.cell? ⟨q+1,0,none⟩=some (.int .i64 co)∧W.cell? ⟨q+1,1,none⟩=some (.int .i64 bu)∧W.cell? ⟨q+1,2,none⟩=some (.int .i64 de)∧W.cell? ⟨q+1,3,none⟩=some (.int .i64 0)∧W.cell? ⟨q+1,4,none⟩=some (.bool ti)∧W.cell? ⟨q+1,5,none⟩=some (.int .i64 (i:Int))∧W.cell? ⟨q+1,6,none⟩=some (.int .i64 (k:Int))∧W.cell? ⟨q+1,7,none⟩=some (.bool la)∧W.cell? ⟨q+1,8,none⟩=some (.int .i64 dn)∧W.cell? ⟨q+1,9,none⟩=some (.int .i64 ji)
theorem PC.butS {q m:Nat} {co bu de:Int} {ti:Bool} {i k:Nat} {la:Bool} {dn ji:Int} {W W':World} {S:Nat→Prop} (h:PC q m co bu de ti i k la dn ji W) (hb:But S W W') (hq:¬S q) (hr:¬S (q+1)):PC q m co bu de ti i k la dn ji W' :=
 ⟨cell_butS h.1 hb hq,cell_butS h.2.1 hb hr,cell_butS h.2.2.1 hb hr,cell_butS h.2.2.2.1 hb hr,cell_butS h.2.2.2.2.1 hb hr,cell_butS h.2.2.2.2.2.1 hb hr,cell_butS h.2.2.2.2.2.2.1 hb hr,cell_butS h.2.2.2.2.2.2.2.1 hb hr,cell_butS h.2.2.2.2.2.2.2.2.1 hb hr,cell_butS h.2.2.2.2.2.2.2.2.2.1 hb hr,cell_butS h.2.2.2.2.2.2.2.2.2.2 hb hr⟩
set_option maxRecDepth 100000 in
set_option maxHeartbeats 4000000 in
theorem put_any {w0 w:World} {s:Sys} {A:Option Addr} {n c m b K:Nat} {F:Int→Int→Option Pt} {f:Nat→Int} (h:LY w0 w s A n c m b K F f) (hK:K≤1000) (x:Pt) (hc:inR x.p.co) (hi:x.i<n) (hn:n≤24) :
  Calls Tryz.prog 47 #[lyV s A n c m b,ptV x] w fun e w'=>(∃ v,e=.returned v)∧LY w0 w' s A n c m b (K+1) (upF F x.p.co (x.i:Int) (zpP x)) (fun j=>if whB x=true∧j=x.i then x.p.co else f j)∧But (fun k=>k=m∨k=b) w w':=by
 have CS:Hid (∀ W,Calls Tryz.prog 30 #[ptV (zpP x)] W fun e w'=>e=.returned (keyV x.p.co (x.i:Int))∧But No W w'):=hid (fun W=>seat_any (zpP x) W)
 have CW:Hid (∀ W,Calls Tryz.prog 53 #[ptV (zpP x)] W fun e w'=>e=.returned (.bool (whB x))∧But No W w'):=hid (fun W=>whole_any (zpP x) W)
 have hiN:inR (x.i:Int):=by unfold inR;omega
 obtain⟨W0,hW0⟩:∃ W0,(w.alloc (.cells (lyA s A n c m b) 66)).alloc (.cells (ptA (zpP x)) 73)=W0:=⟨_,rfl⟩
 have hb0:But No w W0:=by rw[←hW0];exact((But.refl No w).alloc _).alloc _
 have hl0:Blk W0 w.heap.size (lyA s A n c m b) 66:=by rw[←hW0];exact(Blk.new w _ _).alloc _
 have hp0:Blk W0 (w.heap.size+1) (ptA (zpP x)) 73:=by rw[←hW0];exact blk2 w _ _ _
 have HL0:=hid hl0
 have HP0:=hid hp0
 have HB0:=hid hb0
 have HW0:=hid hW0
 have HY:=hid (h.no hb0)
 have HST:Hid (∀ W,But No W0 W→∃ W',(Instr.mapUpdate 64 (.map (some m)) (keyV x.p.co (x.i:Int)) (ptV (zpP x))).run Tryz.prog W=.ok () W'∧MP W' m (K+1) (upF F x.p.co (x.i:Int) (zpP x))∧But (Just m) W W'):=hid (fun W hW=>(HY.out.no hW).map.store (by unfold maxLen;omega) hc hiN (zpP x))
 have hltm:m<W0.heap.size:=HY.out.map.lt
 have hltb:b<W0.heap.size:=HY.out.whr.lt
 have hnm:m≠w.heap.size∧m≠w.heap.size+1:=by have:=h.map.lt;omega
 obtain⟨hq0,hq9,hq10⟩:=ly_cells hl0
 obtain⟨p0,p1,p2,p3,p4,p5,p6,p7,p8,p9⟩:=Blk.cl hp0
 clear hq0 hl0 hp0 hb0 h
 unfold zpP zp at CS CW HST HW0 HP0
 obtain⟨⟨co,bu,de,pr,ti⟩,i,k,la,dn,ji⟩:=x
 dsimp only[zpP,zp,ptV,ptA,lyV,lyA,keyV] at *
 go_enter Tryz.func47,Tryz.ntmps47
 go_wp2_with fail
 have hpc:PC w.heap.size m co bu de ti i k la dn ji W0:=⟨hq9,p0,p1,p2,p3,p4,p5,p6,p7,p8,p9⟩
 have HPC:=hid hpc
 clear hq9 hq10 p0 p1 p2 p3 p4 p5 p6 p7 p8 p9 hW0
 go_region_held3 (fun w'=>PC w.heap.size m co bu de ti i k la dn ji w') (first | assumption | exact hpc) ((go_at_call 30;(with_reducible refine(CS.out _).mono ?_);rintro e w1 ⟨rfl,h1⟩;have hb1:But No W0 w1:=(But.refl No W0).drew.trans h1;have hc1:=HPC.out.butS hb1 (fun f=>f) (fun f=>f);obtain⟨w2,hrun,hmp,hbt⟩:=HST.out w1 hb1;have hc2:PC w.heap.size m co bu de ti i k la dn ji w2:=hc1.butS hbt (fun e=>hnm.1 e.symm) (fun e=>hnm.2 e.symm);have HM:=hid hmp;have HB1:=hid hb1;have HB2:=hid hbt;clear h1 hb1 hmp hbt))
 have hbw2:But (Just m) W0 w2:=HB1.out.no.trans HB2.out
 have HLY2:Hid (LY w0 w2 s A n c m b (K+1) (upF F co (i:Int) ⟨⟨co,bu,de,0,ti⟩,i,k,la,dn,ji⟩) f):=hid (by
  have h1:=HY.out.no HB1.out
  exact⟨h1.sys,h1.but.andThen' HB2.out (fun j _ e=>by cases e;exact h1.nm),HM.out,h1.whr.but HB2.out (fun e=>h1.ne e),h1.nm,h1.nb,h1.fin⟩)
 have hL2:=HL0.out.but hbw2 (fun e=>hnm.1 e.symm)
 have HL2:=hid hL2
 have HBW:Hid (But (fun k=>k=m∨k=b) w w2):=hid (HB0.out.no.trans (hbw2.mono (fun k _ e=>.inl e)))
 clear hc1 hrun hpc hbw2 hL2 HST HPC
 obtain⟨p9,p0,p1,p2,p3,p4,p5,p6,p7,p8,p10⟩:=hc2
 cases hw:whB ⟨⟨co,bu,de,pr,ti⟩,i,k,la,dn,ji⟩ with
 | false =>
  rw[hw] at CW
  have HWB:=hid hw
  clear hw
  go_wp2_with (go_at_call 53;(with_reducible refine(CW.out _).mono ?_);rintro e w3 ⟨rfl,h3⟩;have H3:=hid h3;clear h3)
  go_end0
  have hy:=HLY2.out.no H3.out
  exact⟨⟨_,rfl⟩,⟨hy.sys,hy.but,hy.map,hy.whr.congr (fun j _=>by simp[HWB.out]),hy.nm,hy.nb,fun j=>by simpa [HWB.out] using hy.fin j⟩,HBW.out.trans H3.out.no⟩
 | true =>
  rw[hw] at CW
  have HWB:=hid hw
  clear hw
  have hin:(i:Int)<(n:Int):=by omega
  have hi0:(0:Int)≤(i:Int):=Int.natCast_nonneg i
  have HQ:Hid (∀ w3,But No w2 w3→w3.cell? ⟨w.heap.size,10,none⟩=some (.slice (some ⟨b,0,none⟩) n n)∧(w3.cell? ⟨w.heap.size+1,5,none⟩=some (.int .i64 (i:Int))∧w3.cell? ⟨w.heap.size+1,0,none⟩=some (.int .i64 co))∧w3.cell? ⟨b,i,none⟩=some (.int .i64 (f i))∧w3.frozen? ⟨b,i,none⟩=false):=hid (fun w3 h3=>⟨(HL2.out.but h3 (fun f=>f)).cell (o:=10) rfl,⟨cell_keep p5 h3,cell_keep p0 h3⟩,(HLY2.out.no h3).whr.cell hi,(HLY2.out.no h3).whr.frozen i⟩)
  go_wp2_with (go_at_call 53;(with_reducible refine(CW.out _).mono ?_);rintro e w3 ⟨rfl,h3⟩;obtain⟨r0,⟨r1,r2⟩,r3,r4⟩:=HQ.out w3 h3;have H3:=hid h3;clear h3)
  go_end0
  have hy:=HLY2.out.no H3.out
  have hset:But (fun k=>k=m∨k=b) w3 (w3.setCell ⟨b,i,none⟩ (.int .i64 co)):=(But.refl _ w3).setCell (p:=⟨b,i,none⟩) (.inr rfl) _
  refine⟨⟨_,rfl⟩,⟨hy.sys,hy.but.andThen' hset (fun j _ e=>by rcases e with e | e <;> rw[e];exact hy.nm;exact hy.nb),hy.map.but ((But.refl (Just b) w3).setCell (p:=⟨b,i,none⟩) rfl _) (fun e=>hy.ne e.symm),?_,hy.nm,hy.nb,fun j=>?_⟩,(HBW.out.trans H3.out.no).trans hset⟩
  ·exact(hy.whr.set (k:=i) (.int .i64 co)).congr (fun j _=>by by_cases e:j=i <;> simp[HWB.out,e])
  ·by_cases e:j=i
   ·simp[HWB.out,e];exact hc
   ·simp[e];exact hy.fin j
end Go.Proofs.YtjfaiaipojfhgaaGreat.pln
end
section
namespace Go.Proofs.YtjfaiaipojfhgaaGreat.pln
open Go.Lib (hid)
open Go.ChangeShapes Go.WideShapes Go.ChangeAt Go.RowKit Go.Deep Go.Shelf val ter Go.Sort
attribute [local go_sem] Oper.semAt_some
def tiC (P:List Pt):Nat:=P.countP fun x=>x.p.ti
def shB (s:Sys) (x:Pt):Bool:=decide (0<(s.ts.getD x.i ts0).secs.length)
def shC (s:Sys) (P:List Pt):Nat:=P.countP (shB s)
def fitsV (s:Sys) (P:List Pt):Bool:=decide (tiC P=0) || (decide (tiC P=1) && decide (shC s P=0))
theorem tiC_snoc (P:List Pt) (x:Pt):tiC (P ++ [x])=tiC P+if x.p.ti=true then 1 else 0:=by unfold tiC;rw[List.countP_append,List.countP_singleton]
theorem shC_snoc (s:Sys) (P:List Pt) (x:Pt):shC s (P ++ [x])=shC s P+if shB s x=true then 1 else 0:=by unfold shC;rw[List.countP_append,List.countP_singleton]
abbrev vl {l:List Pt} (pre:List {x:Pt // x ∈ l}):List Pt:=pre.map Subtype.val
theorem vl_snoc {l:List Pt} (pre:List {x:Pt // x ∈ l}) (x : {x:Pt // x ∈ l}):vl (pre ++ [x])=vl pre ++ [x.1]:=by simp[vl]
theorem vl_all (l:List Pt):vl l.attach=l:=List.attach_map_subtype_val l
theorem vl_len {l:List Pt} (pre:List {x:Pt // x ∈ l}):(vl pre).length=pre.length:=List.length_map ..
structure IF (w:World) (s:Sys) (A:Option Addr) (n c m b:Nat) (t u:Int) (W:World):Prop where
 bl:Blk W w.heap.size (lyA s A n c m b) 66
 b1:Blk W (w.heap.size+1) #[.int .i64 t] 3
 b2:Blk W (w.heap.size+1+1) #[.int .i64 u] 3
 but:Below w.heap.size w W
theorem IF.no {w W W':World} {s:Sys} {A:Option Addr} {n c m b:Nat} {t u:Int} (h:IF w s A n c m b t u W) (hb:But No W W'):IF w s A n c m b t u W' :=
 ⟨h.bl.but hb (fun f=>f),h.b1.but hb (fun f=>f),h.b2.but hb (fun f=>f),h.but.trans (rsp.below_but hb h.but.size)⟩
theorem IF.turn {w W W':World} {s:Sys} {A:Option Addr} {n c m b:Nat} {t u:Int} {row:Option Nat} {B:Nat} (h:IF w s A n c m b t u W) (hB:w.heap.size≤B) (hg:W.grownBy W' row) (hr:∀ r,row=some r→B≤r∧∃ o:Obj,W.heap[r]? = some o∧o.isCells=false):IF w s A n c m b t u W' :=
 ⟨rsp.blk_turn h.bl hg (fun k e=>(hr k e).2),rsp.blk_turn h.b1 hg (fun k e=>(hr k e).2),rsp.blk_turn h.b2 hg (fun k e=>(hr k e).2),h.but.grown hg h.but.size (fun k e=>Nat.le_trans hB (hr k e).1)⟩
theorem IF.set1 {w W:World} {s:Sys} {A:Option Addr} {n c m b:Nat} {t u:Int} (h:IF w s A n c m b t u W) (z:Int):IF w s A n c m b z u (W.setCell ⟨w.heap.size+1,0,none⟩ (.int .i64 z)) :=
 ⟨h.bl.other (by show w.heap.size≠w.heap.size+1;omega) _,h.b1.set 0 _,h.b2.other (by show w.heap.size+1+1≠w.heap.size+1;omega) _,h.but.setCell (p:=⟨w.heap.size+1,0,none⟩) (by show w.heap.size≤w.heap.size+1;omega) _⟩
theorem IF.set2 {w W:World} {s:Sys} {A:Option Addr} {n c m b:Nat} {t u:Int} (h:IF w s A n c m b t u W) (z:Int):IF w s A n c m b t z (W.setCell ⟨w.heap.size+1+1,0,none⟩ (.int .i64 z)) :=
 ⟨h.bl.other (by show w.heap.size≠w.heap.size+1+1;omega) _,h.b1.other (by show w.heap.size+1≠w.heap.size+1+1;omega) _,h.b2.set 0 _,h.but.setCell (p:=⟨w.heap.size+1+1,0,none⟩) (by show w.heap.size≤w.heap.size+1+1;omega) _⟩
set_option maxRecDepth 100000 in
set_option maxHeartbeats 8000000 in
theorem fits_any {w0 w:World} {s:Sys} {A:Option Addr} {n c m b K:Nat} {F:Int→Int→Option Pt} {f:Nat→Int} (h:LY w0 w s A n c m b K F f) (hF:∀ a t x,F a t=some x→x.i<n) (hn:n≤24) (co:Int) (hco:inR co) :
  Calls Tryz.prog 48 #[lyV s A n c m b,.int .i64 co] w fun e w'=>e=.returned (.bool (fitsV s (onN F co n)))∧But No w w':=by
 have CO:Hid (∀ W,Calls Tryz.prog 51 #[lyV s A n c m b,.int .i64 co] W fun e w'=>e=.returned (.func (.func 67) #[] #[.pointer (some ⟨W.heap.size,0,none⟩),.pointer (some ⟨W.heap.size+1,0,none⟩)])∧w'=(W.alloc (.cells (lyA s A n c m b) 66)).alloc (.cells #[.int .i64 co] 3)):=hid (fun W=>on_any s A n c m b co W)
 have CS:Hid (∀ x:Pt,x.i<n→∃ A4 c4,∀ W,Below w.heap.size w W→Calls Tryz.prog 52 #[lyV s A n c m b,ptV x] W fun e w'=>e=.returned (.slice A4 (s.ts.getD x.i ts0).secs.length c4)∧But No W w'):=hid (fun x hx=>by
  have hlt:x.i<s.ts.length:=by rw[h.len];exact hx
  have ht:s.ts[x.i]? = some s.ts[x.i]:=List.getElem?_eq_getElem hlt
  obtain⟨A4,c4,_,_,hc⟩:=sects_any (m:=m) (b:=b) h.cur x ht
  rw[getT ht]
  exact⟨A4,c4,fun W hW=>hc W (rsp.but_below hW)⟩)
 have HI:Hid (IF w s A n c m b 0 0 (((w.alloc (.cells (lyA s A n c m b) 66)).alloc (.cells #[.int .i64 0] 3)).alloc (.cells #[.int .i64 0] 3))):=hid (by
  have h2:=blk2 (w.alloc (.cells (lyA s A n c m b) 66)) (.cells #[.int .i64 0] 3) #[.int .i64 0] 3
  rw[size_alloc1] at h2
  exact⟨((Blk.new w _ _).alloc _).alloc _,(blk2 w _ _ _).alloc _,h2,rsp.below_but ((((But.refl No w).alloc _).alloc _).alloc _) (Nat.le_refl _)⟩)
 have HMI:Hid (∀ x ∈ onN F co n,x.i<n):=hid (fun x hx=>by obtain⟨i,_,e⟩:=onN_mem hx;exact hF _ _ _ e)
 have HMP:=hid h.map
 have hml:=h.map.lt
 have HOL:=hid (onN_len (F:=F) (co:=co) n)
 clear h hF
 dsimp only[lyV,lyA] at CO CS HI ⊢
 refine(callsIn_wide (n:=8)).1 ?_
 refine callsIn_of_wp_marks Tryz.func48 rfl trivial ?_ rfl
 simp only[Tryz.ntmps48,List.size_toArray,List.length_cons,List.length_nil,Nat.reduceAdd,Nat.reduceSub,Array.replicate_succ,Array.replicate_zero,List.push_toArray,List.append_toArray,List.nil_append,List.cons_append]
 gi_wp2_with (refine⟨trivial,?_⟩;gi_at_call 51;refine(callsIn_wide.2 (CO.out _)).mono ?_;rintro e w1 ⟨rfl,rfl⟩)
 have hs3:(((w.alloc (.cells #[.int .i64 s.co,.int .i64 s.po,.int .i64 s.pr,.int .i64 s.re,.int .i64 s.sw,.int .i64 s.fi,.int .i64 s.la,.int .i64 s.rs,.slice A n c,.map (some m),.slice (some ⟨b,0,none⟩) n n] 66)).alloc (.cells #[.int .i64 0] 3)).alloc (.cells #[.int .i64 0] 3)).heap.size=w.heap.size+1+1+1:=by simp
 generalize ((w.alloc (.cells #[.int .i64 s.co,.int .i64 s.po,.int .i64 s.pr,.int .i64 s.re,.int .i64 s.sw,.int .i64 s.fi,.int .i64 s.la,.int .i64 s.rs,.slice A n c,.map (some m),.slice (some ⟨b,0,none⟩) n n] 66)).alloc (.cells #[.int .i64 0] 3)).alloc (.cells #[.int .i64 0] 3)=W4 at HI hs3 ⊢
 have HLB:Hid (Blk ((W4.alloc (.cells #[.int .i64 s.co,.int .i64 s.po,.int .i64 s.pr,.int .i64 s.re,.int .i64 s.sw,.int .i64 s.fi,.int .i64 s.la,.int .i64 s.rs,.slice A n c,.map (some m),.slice (some ⟨b,0,none⟩) n n] 66)).alloc (.cells #[.int .i64 co] 3)) (w.heap.size+1+1+1) #[.int .i64 s.co,.int .i64 s.po,.int .i64 s.pr,.int .i64 s.re,.int .i64 s.sw,.int .i64 s.fi,.int .i64 s.la,.int .i64 s.rs,.slice A n c,.map (some m),.slice (some ⟨b,0,none⟩) n n] 66):=hid (by have:=(Blk.new W4 #[.int .i64 s.co,.int .i64 s.po,.int .i64 s.pr,.int .i64 s.re,.int .i64 s.sw,.int .i64 s.fi,.int .i64 s.la,.int .i64 s.rs,.slice A n c,.map (some m),.slice (some ⟨b,0,none⟩) n n] 66).alloc (.cells #[.int .i64 co] 3);rw[hs3] at this;exact this)
 have HCB:Hid (Blk ((W4.alloc (.cells #[.int .i64 s.co,.int .i64 s.po,.int .i64 s.pr,.int .i64 s.re,.int .i64 s.sw,.int .i64 s.fi,.int .i64 s.la,.int .i64 s.rs,.slice A n c,.map (some m),.slice (some ⟨b,0,none⟩) n n] 66)).alloc (.cells #[.int .i64 co] 3)) (w.heap.size+1+1+1+1) #[.int .i64 co] 3):=hid (by have:=blk2 W4 (.cells #[.int .i64 s.co,.int .i64 s.po,.int .i64 s.pr,.int .i64 s.re,.int .i64 s.sw,.int .i64 s.fi,.int .i64 s.la,.int .i64 s.rs,.slice A n c,.map (some m),.slice (some ⟨b,0,none⟩) n n] 66) #[.int .i64 co] 3;rw[hs3] at this;exact this)
 have HI:=hid (HI.out.no (((But.refl No W4).alloc (.cells #[.int .i64 s.co,.int .i64 s.po,.int .i64 s.pr,.int .i64 s.re,.int .i64 s.sw,.int .i64 s.fi,.int .i64 s.la,.int .i64 s.rs,.slice A n c,.map (some m),.slice (some ⟨b,0,none⟩) n n] 66)).alloc (.cells #[.int .i64 co] 3)))
 have hsz:w.heap.size+5=((W4.alloc (.cells #[.int .i64 s.co,.int .i64 s.po,.int .i64 s.pr,.int .i64 s.re,.int .i64 s.sw,.int .i64 s.fi,.int .i64 s.la,.int .i64 s.rs,.slice A n c,.map (some m),.slice (some ⟨b,0,none⟩) n n] 66)).alloc (.cells #[.int .i64 co] 3)).heap.size:=by simp[hs3]
 generalize (W4.alloc (.cells #[.int .i64 s.co,.int .i64 s.po,.int .i64 s.pr,.int .i64 s.re,.int .i64 s.sw,.int .i64 s.fi,.int .i64 s.la,.int .i64 s.rs,.slice A n c,.map (some m),.slice (some ⟨b,0,none⟩) n n] 66)).alloc (.cells #[.int .i64 co] 3)=W0 at HI HLB HCB hsz ⊢
 clear hs3
 have HM0:Hid (MP W0 m K F):=hid (HMP.out.no (rsp.but_below HI.out.but))
 refine wpIn_rangeFunc_ownH rfl (by omega) (gf:=67) (lb:=#[.pointer (some ⟨w.heap.size+1+1+1,0,none⟩),.pointer (some ⟨w.heap.size+1+1+1+1,0,none⟩)]) rfl trivial (enters_of Tryz.func67 (by kernel_rfl) rfl)
  (on_stops (8-1) (by omega) (w.heap.size+1+1+1) (w.heap.size+1+1+1+1) s A n c m b F co K (fun z=>w.heap.size≤z∧z≠w.heap.size+1+1+1∧z≠w.heap.size+1+1+1+1) (by omega) (by omega) (by omega) hco hn W0 HLB.out HCB.out HM0.out) But.trans (fun X l o o' hl ho hc _=>(But.refl _ X).grown (grownBy_putObj' _ l o') (fun z e=>by cases e;exact .inl ⟨by omega,by omega,by omega⟩)) (Below.refl _ _) (fun _=>rfl)
  (fun pre W=>IF w s A n c m b (tiC (vl pre):Int) (shC s (vl pre):Int) W∧W0.heap.size≤W.heap.size∧tiC (vl pre)≤pre.length∧shC s (vl pre)≤pre.length)
  (fun _ _ _=>False)
  (fun st X Y row hs hg hr=>⟨hs.1.turn (by omega) hg hr,Nat.le_trans hs.2.1 hg.size,hs.2.2⟩)
  (fun _ _ _ _ _ hs _ _=>hs)
  ⟨HI.out,Nat.le_refl _,by simp[tiC],by simp[shC]⟩
  (fun x a' W=>∃ Bx,W0.heap.size≤Bx∧Blk W Bx (ptA x.1) 73∧a' = { tmps:=#[.agg #[.int .i64 s.co,.int .i64 s.po,.int .i64 s.pr,.int .i64 s.re,.int .i64 s.sw,.int .i64 s.fi,.int .i64 s.la,.int .i64 s.rs,.slice A n c,.map (some m),.slice (some ⟨b,0,none⟩) n n],.int .i64 co,.pointer (some ⟨w.heap.size,0,none⟩),undef,.bool false,.pointer (some ⟨w.heap.size+1,0,none⟩),.pointer (some ⟨w.heap.size+1+1,0,none⟩),.pointer (some ⟨Bx,0,none⟩),.agg #[.int .i64 s.co,.int .i64 s.po,.int .i64 s.pr,.int .i64 s.re,.int .i64 s.sw,.int .i64 s.fi,.int .i64 s.la,.int .i64 s.rs,.slice A n c,.map (some m),.slice (some ⟨b,0,none⟩) n n],.int .i64 co,.func (.func 67) #[] #[.pointer (some ⟨w.heap.size+1+1+1,0,none⟩),.pointer (some ⟨w.heap.size+1+1+1+1,0,none⟩)],ptV x.1,undef,undef,undef,undef,undef,undef,undef,undef,undef,undef,undef,undef,undef,undef,undef,undef,undef,undef,undef,undef,undef,undef],defers:=[] })
  (fun x a' st X Y row hs hg hr=>by obtain⟨Bx,h1,h2,h3⟩:=hs;exact⟨Bx,h1,rsp.blk_turn h2 hg (fun k e=>(hr k e).2),h3⟩)
  ?assign ?body ?done ?stop
 case assign =>
  rintro lp pre x W K ⟨hi,hz,hp⟩ hK
  dsimp only[ptV,ptA]
  gi_wp2
  exact hK _ _ ((KeepsOthers.alloc _ _).from _) ((But.refl _ W).alloc _) ⟨hi.no ((But.refl _ W).alloc _),by rw[size_alloc1];omega,hp⟩ ⟨W.heap.size,hz,Blk.new W _ _,rfl⟩
 case body =>
  rintro lp pre x a' W hl ⟨r,hr⟩ ⟨hi,hz,hp1,hp2⟩ ⟨Bx,hBx,hbx,rfl⟩ hlt
  have hxn:=HMI.out x.1 x.2
  obtain⟨A4,c4,hcs⟩:=CS.out x.1 hxn
  have CSX:Hid (∀ X,Below w.heap.size w X→Calls Tryz.prog 52 #[.agg #[.int .i64 s.co,.int .i64 s.po,.int .i64 s.pr,.int .i64 s.re,.int .i64 s.sw,.int .i64 s.fi,.int .i64 s.la,.int .i64 s.rs,.slice A n c,.map (some m),.slice (some ⟨b,0,none⟩) n n],ptV x.1] X fun e w'=>e=.returned (.slice A4 (s.ts.getD x.1.i ts0).secs.length c4)∧But No X w'):=hid hcs
  have HSN:Hid (tiC (vl (pre ++ [x]))=tiC (vl pre)+(if x.1.p.ti=true then 1 else 0)∧shC s (vl (pre ++ [x]))=shC s (vl pre)+(if shB s x.1=true then 1 else 0)∧(pre ++ [x]).length=pre.length+1):=hid ⟨by rw[vl_snoc,tiC_snoc],by rw[vl_snoc,shC_snoc],by simp⟩
  have hsb:shB s x.1=decide (0<(s.ts.getD x.1.i ts0).secs.length):=rfl
  obtain⟨T,hT⟩:∃ T,tiC (vl pre)=T:=⟨_,rfl⟩
  obtain⟨U,hU⟩:∃ U,shC s (vl pre)=U:=⟨_,rfl⟩
  rw[hT] at hi hp1 HSN
  rw[hU] at hi hp2 HSN
  have HU:=hid HOL.out
  have hsm:T<1000∧U<1000:=by have:=HOL.out;omega
  have HP:=hid (And.intro hp1 hp2)
  have HZ:=hid hz
  have HI2:=hid hi
  have HBX:=hid hbx
  obtain⟨LL,hLL⟩:∃ LL,(s.ts.getD x.1.i ts0).secs.length=LL:=⟨_,rfl⟩
  rw[hLL] at CSX hsb
  rw[hsb] at HSN
  clear hcs hT hU hp1 hp2 hz hsb hLL hlt hl hr hxn
  obtain⟨d0,d1,d2,d3,d4,d5,d6,d7,d8,d9⟩:=Blk.cl hbx
  obtain⟨⟨⟨x0,x1,x2,x3,x4⟩,xi,xk,xl,xd,xj⟩,hx⟩:=x
  have k0:=HI2.out.b1.cell (o:=0) rfl
  have k1:=HI2.out.b1.frozen 0
  clear hi hbx
  dsimp only[ptV,ptA] at *
  cases x4 with
  | true =>
   gi_upto_region 6 with fail
   obtain⟨W1,hW1⟩:∃ W1,W.setCell ⟨w.heap.size+1,0,none⟩ (.int .i64 ((T:Int)+1))=W1:=⟨_,rfl⟩
   rw[hW1]
   have HI3:Hid (IF w s A n c m b ((T:Int)+1) (U:Int) W1):=hid (by rw[←hW1];exact HI2.out.set1 _)
   have HBX1:Hid (Blk W1 Bx #[.int .i64 x0,.int .i64 x1,.int .i64 x2,.int .i64 x3,.bool true,.int .i64 (xi:Int),.int .i64 (xk:Int),.bool xl,.int .i64 xd,.int .i64 xj] 73):=hid (by rw[←hW1];exact HBX.out.other (by show Bx≠w.heap.size+1;omega) _)
   have HKO:Hid (KeepsOthers W W1):=hid (by rw[←hW1];exact KeepsOthers.setCell _ _ _)
   have HBS:Hid (But (fun z=>w.heap.size≤z∧z≠w.heap.size+1+1+1∧z≠w.heap.size+1+1+1+1) W W1):=hid (by rw[←hW1];exact(But.refl _ W).setCell (p:=⟨w.heap.size+1,0,none⟩) ⟨by dsimp only;omega,by dsimp only;omega,by dsimp only;omega⟩ _)
   clear hW1 d0 d1 d2 d3 d4 d5 d6 d7 d8 d9 k0 k1
   obtain⟨⟨l0,l1,l2,l3,l4,l5,l6,l7,l8⟩,l9,l10⟩:=ly_cells HI3.out.bl
   have d0:=HBX1.out.cell (o:=0) rfl
   have d1:=HBX1.out.cell (o:=1) rfl
   have d2:=HBX1.out.cell (o:=2) rfl
   have d3:=HBX1.out.cell (o:=3) rfl
   have d4:=HBX1.out.cell (o:=4) rfl
   have d5:=HBX1.out.cell (o:=5) rfl
   have d6:=HBX1.out.cell (o:=6) rfl
   have d7:=HBX1.out.cell (o:=7) rfl
   have d8:=HBX1.out.cell (o:=8) rfl
   have d9:=HBX1.out.cell (o:=9) rfl
   have HQ:Hid (∀ X,But No W1 X→X.cell? ⟨w.heap.size+1+1,0,none⟩=some (.int .i64 (U:Int))∧X.frozen? ⟨w.heap.size+1+1,0,none⟩=false):=hid (fun X hX=>⟨(HI3.out.no hX).b2.cell (o:=0) rfl,(HI3.out.no hX).b2.frozen 0⟩)
   by_cases hL:0<LL
   ·have hd:decide (0<LL)=true:=decide_eq_true hL
    have hLz:(0:Int)<(LL:Int):=by omega
    rw[hd] at HSN
    gi_wp2_with (refine⟨trivial,?_⟩;gi_at_call 52;refine(CallsIn.inRound lp (callsIn_wide.2 (CSX.out W1 HI3.out.but))).mono ?_;rintro e w2 ⟨rfl,h2⟩;obtain⟨k0,k1⟩:=HQ.out w2 h2;have H2:=hid h2;clear h2)
    have hi5:=(HI3.out.no H2.out).set2 ((U:Int)+1)
    refine⟨((HKO.out.trans (rsp.keeps_but H2.out)).trans (KeepsOthers.setCell _ _ _)).from _,(HBS.out.trans H2.out.no).setCell (p:=⟨w.heap.size+1+1,0,none⟩) ⟨by dsimp only;omega,by dsimp only;omega,by dsimp only;omega⟩ _,?_⟩
    dsimp only
    rw[HSN.out.1,HSN.out.2.1,HSN.out.2.2]
    refine⟨by simpa  using hi5,?_,?_,?_⟩
    ·have:=HKO.out.size;have:=H2.out.size;have:=HZ.out;simp;omega
    ·have:=HP.out;simp only[if_true];omega
    ·have:=HP.out;simp only[if_true];omega
   ·have hd:decide (0<LL)=false:=decide_eq_false hL
    have hLz:¬(0:Int)<(LL:Int):=by omega
    rw[hd] at HSN
    gi_wp2_with (refine⟨trivial,?_⟩;gi_at_call 52;refine(CallsIn.inRound lp (callsIn_wide.2 (CSX.out W1 HI3.out.but))).mono ?_;rintro e w2 ⟨rfl,h2⟩;have H2:=hid h2;clear h2)
    have hi5:=HI3.out.no H2.out
    refine⟨(HKO.out.trans (rsp.keeps_but H2.out)).from _,HBS.out.trans H2.out.no,?_⟩
    dsimp only
    rw[HSN.out.1,HSN.out.2.1,HSN.out.2.2]
    refine⟨by simpa  using hi5,?_,?_,?_⟩
    ·have:=HKO.out.size;have:=H2.out.size;have:=HZ.out;omega
    ·have:=HP.out;simp only[if_true];omega
    ·have:=HP.out;simp;omega
  | false =>
   have HI3:Hid (IF w s A n c m b (T:Int) (U:Int) W):=HI2
   have HBX1:Hid (Blk W Bx #[.int .i64 x0,.int .i64 x1,.int .i64 x2,.int .i64 x3,.bool false,.int .i64 (xi:Int),.int .i64 (xk:Int),.bool xl,.int .i64 xd,.int .i64 xj] 73):=HBX
   have HKO:Hid (KeepsOthers W W):=hid (KeepsOthers.refl _)
   have HBS:Hid (But (fun z=>w.heap.size≤z∧z≠w.heap.size+1+1+1∧z≠w.heap.size+1+1+1+1) W W):=hid (But.refl _ W)
   gi_upto_region 6 with fail
   clear d0 d1 d2 d3 d4 d5 d6 d7 d8 d9 k0 k1
   obtain⟨⟨l0,l1,l2,l3,l4,l5,l6,l7,l8⟩,l9,l10⟩:=ly_cells HI3.out.bl
   have d0:=HBX1.out.cell (o:=0) rfl
   have d1:=HBX1.out.cell (o:=1) rfl
   have d2:=HBX1.out.cell (o:=2) rfl
   have d3:=HBX1.out.cell (o:=3) rfl
   have d4:=HBX1.out.cell (o:=4) rfl
   have d5:=HBX1.out.cell (o:=5) rfl
   have d6:=HBX1.out.cell (o:=6) rfl
   have d7:=HBX1.out.cell (o:=7) rfl
   have d8:=HBX1.out.cell (o:=8) rfl
   have d9:=HBX1.out.cell (o:=9) rfl
   have HQ:Hid (∀ X,But No W X→X.cell? ⟨w.heap.size+1+1,0,none⟩=some (.int .i64 (U:Int))∧X.frozen? ⟨w.heap.size+1+1,0,none⟩=false):=hid (fun X hX=>⟨(HI3.out.no hX).b2.cell (o:=0) rfl,(HI3.out.no hX).b2.frozen 0⟩)
   by_cases hL:0<LL
   ·have hd:decide (0<LL)=true:=decide_eq_true hL
    have hLz:(0:Int)<(LL:Int):=by omega
    rw[hd] at HSN
    gi_wp2_with (refine⟨trivial,?_⟩;gi_at_call 52;refine(CallsIn.inRound lp (callsIn_wide.2 (CSX.out W HI3.out.but))).mono ?_;rintro e w2 ⟨rfl,h2⟩;obtain⟨k0,k1⟩:=HQ.out w2 h2;have H2:=hid h2;clear h2)
    have hi5:=(HI3.out.no H2.out).set2 ((U:Int)+1)
    refine⟨((HKO.out.trans (rsp.keeps_but H2.out)).trans (KeepsOthers.setCell _ _ _)).from _,(HBS.out.trans H2.out.no).setCell (p:=⟨w.heap.size+1+1,0,none⟩) ⟨by dsimp only;omega,by dsimp only;omega,by dsimp only;omega⟩ _,?_⟩
    dsimp only
    rw[HSN.out.1,HSN.out.2.1,HSN.out.2.2]
    refine⟨by simpa  using hi5,?_,?_,?_⟩
    ·have:=HKO.out.size;have:=H2.out.size;have:=HZ.out;simp;omega
    ·have:=HP.out;simp;omega
    ·have:=HP.out;simp only[if_true];omega
   ·have hd:decide (0<LL)=false:=decide_eq_false hL
    have hLz:¬(0:Int)<(LL:Int):=by omega
    rw[hd] at HSN
    gi_wp2_with (refine⟨trivial,?_⟩;gi_at_call 52;refine(CallsIn.inRound lp (callsIn_wide.2 (CSX.out W HI3.out.but))).mono ?_;rintro e w2 ⟨rfl,h2⟩;have H2:=hid h2;clear h2)
    have hi5:=HI3.out.no H2.out
    refine⟨(HKO.out.trans (rsp.keeps_but H2.out)).from _,HBS.out.trans H2.out.no,?_⟩
    dsimp only
    rw[HSN.out.1,HSN.out.2.1,HSN.out.2.2]
    refine⟨by simpa  using hi5,?_,?_,?_⟩
    ·have:=HKO.out.size;have:=H2.out.size;have:=HZ.out;omega
    ·have:=HP.out;simp;omega
    ·have:=HP.out;simp;omega
 case done =>
  rintro D ys W hD rfl ⟨hi,_,_,_⟩ hK
  rw[vl_all] at hi
  have HV:Hid (fitsV s (onN F co n)=(decide (tiC (onN F co n)=0) || (decide (tiC (onN F co n)=1) && decide (shC s (onN F co n)=0)))):=hid rfl
  generalize tiC (onN F co n)=T at hi HV
  generalize shC s (onN F co n)=U at hi HV
  have k0:=hi.b1.cell (o:=0) rfl
  have k1:=hi.b2.cell (o:=0) rfl
  have hB:=rsp.but_below (hi.turn (B:=W0.heap.size) (by omega) (grownBy_putObj' _ D (.deferred none)) (fun r e=>by cases e;exact⟨hD,_,hK,rfl⟩)).but
  have HB:=hid hB
  have HK:=hid hK
  clear hi hB hK
  by_cases h0:T=0
  ·have q0:((T:Int) == 0)=true:=by simp[h0]
   have hv:true=fitsV s (onN F co n):=by rw[HV.out];simp[h0]
   have HVV:=hid hv
   clear hv HV h0
   gi_wp2
   refine⟨by simp,.inl ⟨_,_,rfl,run_takeDeferred HK.out,?_⟩⟩
   exact⟨.bool true,by simp[results,Tryz.results48,go_sem],ret_bool HVV.out,HB.out⟩
  ·have q0:((T:Int) == 0)=false:=by rw[beq_eq_false_iff_ne];omega
   by_cases h1:T=1
   ·have q1:((T:Int) == 1)=true:=by simp[h1]
    by_cases h2:U=0
    ·have q2:((U:Int) == 0)=true:=by simp[h2]
     have hv:true=fitsV s (onN F co n):=by rw[HV.out];simp[h1,h2]
     have HVV:=hid hv
     clear hv HV h0 h1 h2
     gi_wp2
     refine⟨by simp,.inl ⟨_,_,rfl,run_takeDeferred HK.out,?_⟩⟩
     exact⟨.bool true,by simp[results,Tryz.results48,go_sem],ret_bool HVV.out,HB.out⟩
    ·have q2:((U:Int) == 0)=false:=by rw[beq_eq_false_iff_ne];omega
     have hv:false=fitsV s (onN F co n):=by rw[HV.out];simp[h1,h2]
     have HVV:=hid hv
     clear hv HV h0 h1 h2
     gi_wp2
     refine⟨by simp,.inl ⟨_,_,rfl,run_takeDeferred HK.out,?_⟩⟩
     exact⟨.bool false,by simp[results,Tryz.results48,go_sem],ret_bool HVV.out,HB.out⟩
   ·have q1:((T:Int) == 1)=false:=by rw[beq_eq_false_iff_ne];omega
    have hv:false=fitsV s (onN F co n):=by rw[HV.out];simp[h0,h1]
    have HVV:=hid hv
    clear hv HV h0 h1
    gi_wp2
    refine⟨by simp,.inl ⟨_,_,rfl,run_takeDeferred HK.out,?_⟩⟩
    exact⟨.bool false,by simp[results,Tryz.results48,go_sem],ret_bool HVV.out,HB.out⟩
 case stop =>
  rintro D c' pre W hD hp h
  exact h.elim
end Go.Proofs.YtjfaiaipojfhgaaGreat.pln
end
