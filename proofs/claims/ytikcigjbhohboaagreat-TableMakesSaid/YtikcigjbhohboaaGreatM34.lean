/- Part 34 of a proof: PaK. -/
import Derived.Test.YtikcigjbhohboaaGreatM20
import Derived.Test.YtikcigjbhohboaaGreatM33
section
namespace Go.Proofs.YtikcigjbhohboaaGreat.pln
open Go.Lib (hid)
set_option linter.unusedVariables false
set_option linter.unusedSimpArgs false
open Go.ChangeShapes Go.WideShapes Go.ChangeAt Go.RowKit Go.Deep Go.Shelf val ter Go.Sort
theorem infoLp : (Tryz.prog.info? 211).map (fun i=>(i.zero,i.size,i.bytes))=some (some (.agg #[.int .i64 0,.int .i64 0,.int .i64 0]),3,24):=by kernel_rfl
def ldP (s:Sys) (wh:List Int) (x:Pt):rsp.Ld:=⟨ownP s wh x,(s.ts.getD x.i ts0).p,x.ji⟩
theorem ldP_snoc {s:Sys} {wh:List Int} {l:List Pt} {q:Nat} {x:Pt} (h:l[q]? = some x):((l.take (q+1)).map (ldP s wh)).flatMap rsp.ldC=((l.take q).map (ldP s wh)).flatMap rsp.ldC ++ rsp.ldC (ldP s wh x):=by
 rw[List.take_add_one,h]
 simp
set_option maxRecDepth 100000 in
set_option maxHeartbeats 8000000 in
theorem loads_any {w0 w:World} {s:Sys} {A:Option Addr} {n c m b K:Nat} {F:Int→Int→Option Pt} {f:Nat→Int} (h:LY w0 w s A n c m b K F f) (hs:right s=true) (hn:n≤24) {AH:Option Addr} {nh ch:Nat} {l:List Pt} (hl:RPt w AH nh l) (hc:nh≤ch) (hnh:nh≤24) (hi:∀ x ∈ l,x.i<n∧(0≤x.p.bu∧x.p.bu≤1099511627776)) :
  Calls Tryz.prog 135 #[lyV s A n c m b,.slice AH nh ch] w fun e w'=>∃ v,e=.returned v∧Rg 211 3 w w' v l.length ((l.map (ldP s ((List.range n).map f))).flatMap rsp.ldC):=by
 have CO:Hid (∀ x ∈ l,∀ W,But No w W→Calls Tryz.prog 130 #[lyV s A n c m b,ptV x] W fun e w'=>e=.returned (.int .i64 (ownP s ((List.range n).map f) x))∧But No W w'):=hid (fun x hx W hb=>lown_any (h.no hb) hs hn x (hi x hx).2)
 have HLN:=hid hl.len
 have HI2:Hid (∀ x ∈ l,x.i<n):=hid (fun x hx=>(hi x hx).1)
 have hb1:But No w (w.alloc (.cells (lyA s A n c m b) 123)):=(But.refl No w).alloc _
 have HK:=hid (Blk.new w (lyA s A n c m b) 123)
 have HB1:=hid hb1
 have HL:=hid (hl.no hb1)
 have HSX:=hid (h.cur.ts.no hb1)
 have HTN:=hid h.len
 have hsz:(w.alloc (.cells (lyA s A n c m b) 123)).heap.size=w.heap.size+1:=by simp
 obtain⟨il,hi0,hz0,hz1,hz2⟩:=info_parts infoLp
 have IL:Hid (Tryz.prog.info? 211=some il∧il.zero=some (.agg #[.int .i64 0,.int .i64 0,.int .i64 0])∧il.size=3∧il.bytes=24):=⟨hi0,hz0,hz1,hz2⟩
 clear h hl hb1 hi hi0 hz0 hz1 hz2
 generalize (List.range n).map f=wh at CO ⊢
 dsimp only[lyV,lyA] at HK HB1 HL HSX hsz CO ⊢
 go_enter Tryz.func135,Tryz.ntmps135
 go_wp2_with fail
 generalize w.alloc (.cells #[.int .i64 s.co,.int .i64 s.po,.int .i64 s.pr,.int .i64 s.re,.int .i64 s.sw,.int .i64 s.fi,.int .i64 s.la,.int .i64 s.rs,.slice A n c,.map (some m),.slice (some ⟨b,0,none⟩) n n] 123)=w1 at HK HB1 HL HSX hsz ⊢
 go_loopw [5,10] (fun u i wr=>∃ (v:Value) (q:Nat),u=v∧i=.int .i64 (q:Int)∧q≤nh∧Hid (Rg 211 3 w1 wr v q (((l.take q).map (ldP s wh)).flatMap rsp.ldC))) (fun _ i _=>nh-(intOf i).toNat)
 case atStart=>exact⟨_,0,rfl,rfl,by omega,Rg.start _ _ w1⟩
 case round =>
  obtain⟨v,q,hu,rfl,hq,HRG⟩:=hrel
  have h':=hu.symm
  subst h'
  have hq0:(0:Int)≤(q:Int):=Int.natCast_nonneg q
  by_cases hqn:q<nh
  ·have hqn2:(q:Int)<(nh:Int):=by omega
   have b3:decide ((q:Int)<(nh:Int))=true:=by simp;omega
   obtain⟨y,hy⟩:∃ y,l[q]? = some y:=⟨_,List.getElem?_eq_getElem (by rw[HLN.out];exact hqn)⟩
   have hyl:=List.mem_of_getElem? hy
   have hyi:=HI2.out y hyl
   have HSN:=hid (ldP_snoc (s:=s) (wh:=wh) hy)
   obtain⟨bL,offL,hAL,_,c0,c1,c2,c3,c4',c5,c6,c7,c8,c9⟩:=(HL.out.no HRG.out.but).at1 hy
   subst hAL
   obtain⟨t,ht⟩:∃ t,s.ts[y.i]? = some t:=⟨_,List.getElem?_eq_getElem (by rw[HTN.out];exact hyi)⟩
   have hit:((y.i:Nat):Int)<(n:Int):=by omega
   have hyi0:(0:Int)≤((y.i:Nat):Int):=Int.natCast_nonneg _
   obtain⟨bt,offt,AS,cS,hAn,ct,_⟩:=HSX.out.at1 ht
   have hbt:=World.block_lt_of_cell? w1 _ ct
   dsimp only at hbt
   subst hAn
   have HLD:Hid (ldP s wh y=⟨ownP s wh y,t.p,y.ji⟩):=hid (by unfold ldP;rw[getT ht])
   have CO2:Hid (∀ W,But No w1 W→Calls Tryz.prog 130 #[.agg #[.int .i64 s.co,.int .i64 s.po,.int .i64 s.pr,.int .i64 s.re,.int .i64 s.sw,.int .i64 s.fi,.int .i64 s.la,.int .i64 s.rs,.slice (some ⟨bt,offt,none⟩) n c,.map (some m),.slice (some ⟨b,0,none⟩) n n],ptV y] W fun e w'=>e=.returned (.int .i64 (ownP s wh y))∧But No W w'):=hid (fun W hb=>CO.out y hyl W (HB1.out.trans hb))
   have hk:=ly_cells (HK.out.but HRG.out.but (fun f=>f))
   have hct:=cell_keep ct HRG.out.but
   have hv1:∀ k,v.ownBlock=some k→k<wr.heap.size:=fun k e=>(World.ownsRow.lt HRG.out.own k e).2
   have hv2:=HRG.out.new
   have HBW:=hid HRG.out.but
   clear hy hyl hyi ht ct
   obtain⟨⟨ya,yb,yc,yd,ye⟩,yi,yk,yl,yn,yj⟩:=y
   dsimp only[ptV,ptA] at c0 c1 c2 c3 c4' c5 c6 c7 c8 c9 CO2 HSN HLD hit hyi0 hct
   generalize ownP s wh ⟨⟨ya,yb,yc,yd,ye⟩,yi,yk,yl,yn,yj⟩=O at CO2 HLD
   generalize t.p=tp' at hct HLD
   have hbx:But No wr (wr.alloc (.cells #[.int .i64 ya,.int .i64 yb,.int .i64 yc,.int .i64 yd,.bool ye,.int .i64 (yi:Int),.int .i64 (yk:Int),.bool yl,.int .i64 yn,.int .i64 yj] 130)):=(But.refl No wr).alloc _
   have HBX:=hid hbx
   have hpx:Cl (wr.alloc (.cells #[.int .i64 ya,.int .i64 yb,.int .i64 yc,.int .i64 yd,.bool ye,.int .i64 (yi:Int),.int .i64 (yk:Int),.bool yl,.int .i64 yn,.int .i64 yj] 130)) wr.heap.size 0 ⟨⟨ya,yb,yc,yd,ye⟩,yi,yk,yl,yn,yj⟩:=Blk.cl (Blk.new wr (ptA ⟨⟨ya,yb,yc,yd,ye⟩,yi,yk,yl,yn,yj⟩) 130)
   have HOWN:Hid ((wr.alloc (.cells #[.int .i64 ya,.int .i64 yb,.int .i64 yc,.int .i64 yd,.bool ye,.int .i64 (yi:Int),.int .i64 (yk:Int),.bool yl,.int .i64 yn,.int .i64 yj] 130)).ownsRow 0 211 3 v q (((l.take q).map (ldP s wh)).flatMap rsp.ldC)):=hid (owns_but HRG.out.own hbx (fun _ _ f=>f))
   have KEEP:Hid (∀ w',But (fun z=>v.ownBlock=some z) (wr.alloc (.cells #[.int .i64 ya,.int .i64 yb,.int .i64 yc,.int .i64 yd,.bool ye,.int .i64 (yi:Int),.int .i64 (yk:Int),.bool yl,.int .i64 yn,.int .i64 yj] 130)) w'→PR w.heap.size wr.heap.size m ya yb yc yd ye yi yk yl yn yj w'∧L11 w' w.heap.size s (some ⟨bt,offt,none⟩) n c m b∧w'.cell? ⟨bt,offt+yi*4,none⟩=some (.int .i64 tp')∧But (fun z=>v.ownBlock=some z) (wr.alloc (.cells #[.int .i64 ya,.int .i64 yb,.int .i64 yc,.int .i64 yd,.bool ye,.int .i64 (yi:Int),.int .i64 (yk:Int),.bool yl,.int .i64 yn,.int .i64 yj] 130)) w'):=hid (fun w' hb=>by
    have n1:¬v.ownBlock=some w.heap.size:=fun e=>by have:=hv2 _ e;omega
    have n2:¬v.ownBlock=some wr.heap.size:=fun e=>by have:=hv1 _ e;omega
    have n3:¬v.ownBlock=some bt:=fun e=>by have:=hv2 _ e;omega
    obtain⟨⟨k0,k1,k2,k3,k4,k5,k6,k7,k8⟩,k9,k10⟩:=hk
    obtain⟨g0,g1,g2,g3,g4,g5,g6,g7,g8,g9⟩:=hpx
    exact⟨⟨cell_butS (cell_keep k9 hbx) hb n1,cell_butS g0 hb n2,cell_butS g1 hb n2,cell_butS g2 hb n2,cell_butS g3 hb n2,cell_butS g4 hb n2,cell_butS g5 hb n2,cell_butS g6 hb n2,cell_butS g7 hb n2,cell_butS g8 hb n2,cell_butS g9 hb n2⟩,⟨⟨cell_butS (cell_keep k0 hbx) hb n1,cell_butS (cell_keep k1 hbx) hb n1,cell_butS (cell_keep k2 hbx) hb n1,cell_butS (cell_keep k3 hbx) hb n1,cell_butS (cell_keep k4 hbx) hb n1,cell_butS (cell_keep k5 hbx) hb n1,cell_butS (cell_keep k6 hbx) hb n1,cell_butS (cell_keep k7 hbx) hb n1,cell_butS (cell_keep k8 hbx) hb n1⟩,cell_butS (cell_keep k9 hbx) hb n1,cell_butS (cell_keep k10 hbx) hb n1⟩,cell_butS (cell_keep hct hbx) hb n3,hb⟩)
   clear hk hct hpx hbx hbt
   go_upto_region 5 with fail
   generalize hwx:wr.alloc (.cells #[.int .i64 ya,.int .i64 yb,.int .i64 yc,.int .i64 yd,.bool ye,.int .i64 (yi:Int),.int .i64 (yk:Int),.bool yl,.int .i64 yn,.int .i64 yj] 130)=wx at KEEP HOWN HBX ⊢
   clear hwx c0 c1 c2 c3 c4' c5 c6 c7 c8 c9
   go_region_held3 (fun w'=>PR w.heap.size wr.heap.size m ya yb yc yd ye yi yk yl yn yj w'∧L11 w' w.heap.size s (some ⟨bt,offt,none⟩) n c m b∧w'.cell? ⟨bt,offt+yi*4,none⟩=some (.int .i64 tp')∧But (fun z=>v.ownBlock=some z) wx w')
    (first | exact KEEP.out _ (But.refl _ wx) | exact KEEP.out _ (But.refl _ wx).drew | exact KEEP.out _ HBC.out.no | exact KEEP.out _ (HBC.out.alloc _).no | exact KEEP.out _ HB5.out)
    (first | (go_at_call 130;(with_reducible refine(CO2.out _ (HBW.out.trans (HBX.out.trans (But.refl No wx).drew))).mono ?_);rintro e wC ⟨rfl,hbC⟩;have HBC:Hid (But No wx wC):=hid ((But.refl No wx).drew.trans hbC);clear hbC) | (refine step_append_sh rfl _ _ 206 rfl 211 il _ 3 24 Tryz.underlying206 IL.out.1 IL.out.2.1 IL.out.2.2.1 IL.out.2.2.2 rfl (by omega) v q (((l.take q).map (ldP s wh)).flatMap rsp.ldC) (by simp[Act.eval]) (owns_but HOWN.out (HBC.out.alloc (.cells #[.int .i64 O,.int .i64 tp',.int .i64 yj] 211)) (fun _ _ f=>f)) (wC.heap.size+1) (some ⟨wC.heap.size,0,none⟩) 1 1 (rsp.ldC ⟨O,tp',yj⟩) (by simp[Act.eval]) (ld_one_reads wC ⟨O,tp',yj⟩ _) (ld_one_cell _) (by unfold maxLen;omega) (by omega) ?_;intro A5 c5' w5 hown5 hgrow5 hat5;have HB5:Hid (But (fun z=>v.ownBlock=some z) wx w5):=hid (((HBC.out.alloc (.cells #[.int .i64 O,.int .i64 tp',.int .i64 yj] 211)).no).grown hgrow5.out (fun k e=>.inl e))))
   have HR5:Hid (Rg 211 3 w1 w5 (.slice A5 (q+1) c5') (q+1) (((l.take (q+1)).map (ldP s wh)).flatMap rsp.ldC)):=hid (by
    rw[HSN.out,HLD.out]
    have h1:Rg 211 3 w1 (wC.alloc (.cells #[.int .i64 O,.int .i64 tp',.int .i64 yj] 211)) v q (((l.take q).map (ldP s wh)).flatMap rsp.ldC):=HRG.out.no ((HBX.out.trans HBC.out).alloc _)
    exact h1.app hown5.out hgrow5.out hat5.out)
   rename_i hHeld
   clear hHeld hown5 hgrow5 hat5 HB5 HBC KEEP HOWN CO2
   go_wp2_with fail
   go_roundw
   case rel=>exact⟨_,q+1,rfl,by go_num,by omega,HR5.out⟩
   case measure=>simp[intOf];omega
  ·have hqe:q=nh:=by omega
   subst hqe
   have b3:decide ((q:Int)<(q:Int))=false:=by simp
   go_wp2_with fail
   go_ret
   have h1:=HRG.out
   rw[←HLN.out,List.take_length] at h1
   exact⟨_,rfl,HB1.out.trans h1.but,h1.own,fun k e=>by have:=h1.new k e;omega⟩
def abN (pr:Int) (l:List Pt) (ls:List rsp.Ld):Nat→List rsp.Ld
 | 0=>[]
 | q+1=>abN pr l ls q ++ (if (l.getD q pt0).p.pr<pr then [ls.getD q rsp.ld0] else [])
theorem abN_next {pr:Int} {l:List Pt} {ls:List rsp.Ld} {q:Nat} {x:Pt} {y:rsp.Ld} (e:l[q]? = some x) (e2:ls[q]? = some y):abN pr l ls (q+1)=abN pr l ls q ++ (if x.p.pr<pr then [y] else []):=by
 have h1:l.getD q pt0=x:=by simp[List.getD,e]
 have h2:ls.getD q rsp.ld0=y:=by simp[List.getD,e2]
 rw[abN,h1,h2]
theorem abN_len {pr:Int} {l:List Pt} {ls:List rsp.Ld}:∀ q,(abN pr l ls q).length≤q
 | 0=>Nat.le_refl _
 | q+1=>by
  have:=abN_len (pr:=pr) (l:=l) (ls:=ls) q
  rw[abN,List.length_append]
  split <;> simp <;> omega
set_option maxRecDepth 100000 in
set_option maxHeartbeats 8000000 in
theorem above_any {w:World} (p:Pt) {AH AL:Option Addr} {nh ch cl:Nat} {l:List Pt} {ls:List rsp.Ld} (hl:RPt w AH nh l) (hls:rsp.RLd w AL nh ls) (hc:nh≤ch) (hcl:nh≤cl) (hnh:nh≤24) :
  Calls Tryz.prog 138 #[ptV p,.slice AH nh ch,.slice AL nh cl] w fun e w'=>∃ v,e=.returned v∧Rg 211 3 w w' v (abN p.p.pr l ls nh).length ((abN p.p.pr l ls nh).flatMap rsp.ldC):=by
 have HLN:=hid hl.len
 have HLN2:=hid hls.len
 have hb1:But No w (w.alloc (.cells (ptA p) 130)):=(But.refl No w).alloc _
 have HK:=hid (Blk.new w (ptA p) 130)
 have HB1:=hid hb1
 have HL:=hid (hl.no hb1)
 have HLS:=hid (hls.no hb1)
 have hsz:(w.alloc (.cells (ptA p) 130)).heap.size=w.heap.size+1:=by simp
 obtain⟨il,hi0,hz0,hz1,hz2⟩:=info_parts infoLp
 have IL:Hid (Tryz.prog.info? 211=some il∧il.zero=some (.agg #[.int .i64 0,.int .i64 0,.int .i64 0])∧il.size=3∧il.bytes=24):=⟨hi0,hz0,hz1,hz2⟩
 clear hl hls hb1 hi0 hz0 hz1 hz2
 obtain⟨⟨p0,p1,p2,p3,p4⟩,pi,pk,pl,pd,pj⟩:=p
 dsimp only[ptV,ptA] at HK HB1 HL HLS hsz ⊢
 go_enter Tryz.func138,Tryz.ntmps138
 go_wp2_with fail
 generalize w.alloc (.cells #[.int .i64 p0,.int .i64 p1,.int .i64 p2,.int .i64 p3,.bool p4,.int .i64 (pi:Int),.int .i64 (pk:Int),.bool pl,.int .i64 pd,.int .i64 pj] 130)=w1 at HK HB1 HL HLS hsz ⊢
 go_loopw [7,12] (fun u i wr=>∃ (v:Value) (q:Nat),u=v∧i=.int .i64 (q:Int)∧q≤nh∧Hid (Rg 211 3 w1 wr v (abN p3 l ls q).length ((abN p3 l ls q).flatMap rsp.ldC))) (fun _ i _=>nh-(intOf i).toNat)
 case atStart=>exact⟨_,0,rfl,rfl,by omega,Rg.start _ _ w1⟩
 case round =>
  obtain⟨v,q,hu,rfl,hq,HRG⟩:=hrel
  have h':=hu.symm
  subst h'
  have hq0:(0:Int)≤(q:Int):=Int.natCast_nonneg q
  by_cases hqn:q<nh
  ·have hqn2:(q:Int)<(nh:Int):=by omega
   have b3:decide ((q:Int)<(nh:Int))=true:=by simp;omega
   obtain⟨y,hy⟩:∃ y,l[q]? = some y:=⟨_,List.getElem?_eq_getElem (by rw[HLN.out];exact hqn)⟩
   obtain⟨z,hz⟩:∃ z,ls[q]? = some z:=⟨_,List.getElem?_eq_getElem (by rw[HLN2.out];exact hqn)⟩
   have HSN:=hid (abN_next (pr:=p3) hy hz)
   obtain⟨bL,offL,rfl,_,c0,c1,c2,c3,c4',c5,c6,c7,c8,c9⟩:=(HL.out.no HRG.out.but).at1 hy
   obtain⟨bZ,offZ,rfl,_,z0,z1,z2⟩:=(HLS.out.no HRG.out.but).at1 hz
   have e3:=(HK.out.but HRG.out.but (fun f=>f)).cell (o:=3) rfl
   have hcn:=abN_len (pr:=p3) (l:=l) (ls:=ls) q
   obtain⟨zw,zp,zj⟩:=z
   obtain⟨⟨ya,yb,yc,yd,ye⟩,yi,yk,yl,yn,yj⟩:=y
   dsimp only at c0 c1 c2 c3 c4' c5 c6 c7 c8 c9 z0 z1 z2 HSN
   have hbx:But No wr (wr.alloc (.cells #[.int .i64 ya,.int .i64 yb,.int .i64 yc,.int .i64 yd,.bool ye,.int .i64 (yi:Int),.int .i64 (yk:Int),.bool yl,.int .i64 yn,.int .i64 yj] 130)):=(But.refl No wr).alloc _
   have HNB:Hid (Blk (wr.alloc (.cells #[.int .i64 ya,.int .i64 yb,.int .i64 yc,.int .i64 yd,.bool ye,.int .i64 (yi:Int),.int .i64 (yk:Int),.bool yl,.int .i64 yn,.int .i64 yj] 130)) wr.heap.size #[.int .i64 ya,.int .i64 yb,.int .i64 yc,.int .i64 yd,.bool ye,.int .i64 (yi:Int),.int .i64 (yk:Int),.bool yl,.int .i64 yn,.int .i64 yj] 130):=hid (Blk.new wr _ _)
   have HBX:=hid hbx
   clear hy hz hbx
   go_upto_region 5 with fail
   have hpx:=HNB.out
   generalize wr.alloc (.cells #[.int .i64 ya,.int .i64 yb,.int .i64 yc,.int .i64 yd,.bool ye,.int .i64 (yi:Int),.int .i64 (yk:Int),.bool yl,.int .i64 yn,.int .i64 yj] 130)=wx at HBX hpx ⊢
   have d3:=hpx.cell (o:=3) rfl
   have e3:=cell_keep e3 HBX.out
   have z0:=cell_keep z0 HBX.out
   have z1:=cell_keep z1 HBX.out
   have z2:=cell_keep z2 HBX.out
   have HRX:=hid (HRG.out.no HBX.out)
   generalize (abN p3 l ls q)=ab at HRX HSN hcn
   clear hpx c0 c1 c2 c3 c4' c5 c6 c7 c8 c9 HNB
   by_cases h1:yd<p3
   ·have b4:decide (yd<p3)=true:=by simp[h1]
    rw[if_pos h1] at HSN
    go_wp2_with (at_builtin;refine wpList_append_sh _ rfl _ _ 206 rfl 211 il _ 3 24 Tryz.underlying206 IL.out.1 IL.out.2.1 IL.out.2.2.1 IL.out.2.2.2 rfl (by omega) v ab.length (ab.flatMap rsp.ldC) rfl (HRX.out.no ((But.refl No wx).alloc (.cells #[.int .i64 zw,.int .i64 zp,.int .i64 zj] 211))).own (wx.heap.size+1) (some ⟨wx.heap.size,0,none⟩) 1 1 (rsp.ldC ⟨zw,zp,zj⟩) (by simp[Act.eval]) (ld_one_reads wx ⟨zw,zp,zj⟩ _) (ld_one_cell _) (by unfold maxLen;omega) (by omega) ?_;intro A5 c5' w5 hown5 hgrow5 hat5;have HR5:=hid ((HRX.out.no ((But.refl No wx).alloc (.cells #[.int .i64 zw,.int .i64 zp,.int .i64 zj] 211))).app hown5 hgrow5 hat5);clear hown5 hgrow5 hat5)
    go_roundw
    case rel=>exact⟨_,q+1,rfl,by go_num,by omega,hid (by rw[HSN.out,List.flatMap_append,List.length_append];simpa using HR5.out)⟩
    case measure=>simp[intOf];omega
   ·have b4:decide (yd<p3)=false:=by simp;omega
    rw[if_neg h1,List.append_nil] at HSN
    go_wp2_with fail
    go_roundw
    case rel=>exact⟨_,q+1,rfl,by go_num,by omega,hid (by rw[HSN.out];exact HRX.out)⟩
    case measure=>simp[intOf];omega
  ·have hqe:q=nh:=by omega
   subst hqe
   have b3:decide ((q:Int)<(q:Int))=false:=by simp
   go_wp2_with fail
   go_ret
   have h1:=HRG.out
   exact⟨_,rfl,HB1.out.trans h1.but,h1.own,fun k e=>by have:=h1.new k e;omega⟩
end Go.Proofs.YtikcigjbhohboaaGreat.pln
end
