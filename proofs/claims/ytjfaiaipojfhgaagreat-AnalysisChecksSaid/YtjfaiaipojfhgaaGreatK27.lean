/- Part 27 of a proof: PlR11. -/
import Derived.Test.YtjfaiaipojfhgaaGreatK09
import Derived.Test.YtjfaiaipojfhgaaGreatK26
section
namespace Go.Proofs.YtjfaiaipojfhgaaGreat.pln
open Go.Lib (hid)
open Go.ChangeShapes Go.WideShapes Go.ChangeAt Go.RowKit Go.Deep val ter
structure T2 (e:TypeId) (sz:Nat) (w wr:World) (va vb:Value) (na nb:Nat) (ca cb:List Value):Prop where
 a:Rg e sz w wr va na ca
 b:Rg e sz w wr vb nb cb
 ne:∀ k,va.ownBlock=some k→vb.ownBlock≠some k
theorem T2.no {e:TypeId} {sz:Nat} {w wr w2:World} {va vb:Value} {na nb:Nat} {ca cb:List Value} (h:T2 e sz w wr va vb na nb ca cb) (hb:But No wr w2):T2 e sz w w2 va vb na nb ca cb:=⟨h.a.no hb,h.b.no hb,h.ne⟩
theorem T2.start (e:TypeId) (sz:Nat) (w:World):T2 e sz w w (.slice none 0 0) (.slice none 0 0) 0 0 [] []:=⟨Rg.start e sz w,Rg.start e sz w,fun k e=>by simp[Value.ownBlock] at e⟩
theorem T2.appB {e:TypeId} {sz:Nat} {w wr w2:World} {va vb:Value} {na nb m:Nat} {ca cb ds:List Value} {A:Option Addr} {c:Nat} (h:T2 e sz w wr va vb na nb ca cb) (ho:w2.ownsRow 0 e sz (.slice A m c) m (cb ++ ds)) (hg:wr.grownBy w2 vb.ownBlock)
  (hat:(Value.slice A m c).ownBlock=vb.ownBlock∨(Value.slice A m c).ownBlock=some wr.heap.size):T2 e sz w w2 va (.slice A m c) na m ca (cb ++ ds):=by
 have h1:=h.b.app ho hg hat
 refine⟨h.a.but2 (S:=fun z=>vb.ownBlock=some z) ((But.refl _ wr).grown hg (fun k e=>.inl e)) h1.but (fun k e=>h.ne k e),h1,fun k e1 e2=>?_⟩
 rcases hat with g | g
 ·rw[g] at e2;exact h.ne k e1 e2
 ·rw[g] at e2
  have:=(World.ownsRow.lt h.a.own k e1).2
  cases e2
  omega
theorem T2.flip {e:TypeId} {sz:Nat} {w wr:World} {va vb:Value} {na nb:Nat} {ca cb:List Value} (h:T2 e sz w wr va vb na nb ca cb):T2 e sz w wr vb va nb na cb ca:=⟨h.b,h.a,fun k e1 e2=>h.ne k e2 e1⟩
def ldOf (s:Sys) (R:List (List Pc)) (y:Ap):rsp.Ld:=⟨ownV s R y.i y.p,(s.ts.getD y.i ts0).p,(y.k:Int)*(s.la-1)⟩
def abv (pr:Int) (l:List Ap):List Ap:=l.filter fun y=>decide (y.p.pr<pr)
def fixV (s:Sys) (R:List (List Pc)) (Z:List (List Int)) (l:List Ap) (c:Nat) (x:Ap):Int × Int:=rsp.bnP (ownV s R x.i x.p) (blkV s R Z c x.p.pr) s.re ((abv x.p.pr l).map (ldOf s R)) (l.map (ldOf s R)) x.p.de
theorem infoL : (Tryz.prog.info? 111).map (fun i=>(i.zero,i.size,i.bytes))=some (some (.agg #[.int .i64 0,.int .i64 0,.int .i64 0]),3,24):=by kernel_rfl
theorem ld_one_reads (w:World) (x:rsp.Ld) (t:TypeId):Reads (w.alloc (.cells #[.int .i64 x.w,.int .i64 x.p,.int .i64 x.j] t)) (w.heap.size+1) 3 (some ⟨w.heap.size,0,none⟩) 1 (rsp.ldC x) :=
 ⟨rfl,fun _=>⟨⟨w.heap.size,0,none⟩,rfl,by simp,World.news_of_block (cs:=#[.int .i64 x.w,.int .i64 x.p,.int .i64 x.j]) (t:=t) (fr:=(0,0)) (Blk.new w _ _)⟩⟩
theorem ld_one_cell (x:rsp.Ld):∀ u ∈ rsp.ldC x,u.oneCell'=true:=by simp[rsp.ldC,Value.oneCell']
theorem ld_snoc {s:Sys} {R:List (List Pc)} {l:List Ap} {q:Nat} {y:Ap} (h:l[q]? = some y):((l.take (q+1)).map (ldOf s R)).flatMap rsp.ldC=((l.take q).map (ldOf s R)).flatMap rsp.ldC ++ rsp.ldC (ldOf s R y):=by
 rw[List.take_add_one,h,List.map_append,List.flatMap_append];simp
theorem abv_snoc {pr:Int} {l:List Ap} {q:Nat} {y:Ap} (h:l[q]? = some y):abv pr (l.take (q+1))=abv pr (l.take q) ++ if y.p.pr<pr then [y] else []:=by
 unfold abv
 rw[List.take_add_one,h,List.filter_append]
 congr 1
 by_cases e:y.p.pr<pr
 ·simp[e]
 ·simp[e]
set_option maxRecDepth 100000 in
set_option maxHeartbeats 8000000 in
theorem rfixed_any (s:Sys) (A:Option Addr) (n c:Nat) (A':Option Addr) (N c':Nat) (R:List (List Pc)) (AZ:Option Addr) (NZ cZ:Nat) (Z:List (List Int)) (AL:Option Addr) (nl cl:Nat) (l:List Ap) (x:Ap) (co:Nat) (w:World) (hs:RSys w A n c s) (hl:RPl w A' N R) (hz:RNs w AZ NZ Z) (hL:RAp w AL nl l) (hr:right s=true) (hN:N=s.ts.length) (row:List Int) (hZ:Z[co]? = some row) (hrow:row.length=s.rs.toNat) (hP:InP R l) (hK:∀ y ∈ l,y.k≤8) (hx:x ∈ l) (hco:x.p.co=(co:Int)) (hnl:nl≤200) :
  Calls Tryz.prog 39 #[sysV s A n c,.slice A' N c',.slice AZ NZ cZ,.slice AL nl cl,apV x] w fun e w'=>e=.returned (.tuple #[.int .i64 (fixV s R Z l co x).1,.int .i64 (fixV s R Z l co x).2])∧But No w w':=by
 have hN24:N≤24:=by have:=(right_len hr).2.2.2.1;omega
 have HLA:=hid (right_nums hr).2.1
 have HLN:=hid hL.len
 have HRN:=hid hl.len
 have HTN:Hid (s.ts.length=N):=hid hN.symm
 have HR:=hid hr
 have HP:=hid hP
 have HK:=hid hK
 obtain⟨⟨lx,hlx,hlkx⟩,hbux,hdex⟩:=hP x hx
 have HEV:Hid (rsp.bnP (ownV s R x.i x.p) (blkV s R Z co x.p.pr) s.re ((abv x.p.pr l).map (ldOf s R)) (l.map (ldOf s R)) x.p.de=fixV s R Z l co x):=hid rfl
 generalize fixV s R Z l co x=V at HEV ⊢
 have hb0:But No w ((w.alloc (.cells (boxS s A n c) 24)).alloc (.cells #[.int .i64 x.p.co,.int .i64 x.p.bu,.int .i64 x.p.de,.int .i64 x.p.pr,.bool x.p.ti,.int .i64 (x.i:Int),.int .i64 (x.k:Int)] 86)):=((But.refl No w).alloc _).alloc _
 have HB0:=hid hb0
 have BS:=hid ((Blk.new w (boxS s A n c) 24).alloc (.cells #[.int .i64 x.p.co,.int .i64 x.p.bu,.int .i64 x.p.de,.int .i64 x.p.pr,.bool x.p.ti,.int .i64 (x.i:Int),.int .i64 (x.k:Int)] 86))
 have BX:=hid (blk2 w (.cells (boxS s A n c) 24) #[.int .i64 x.p.co,.int .i64 x.p.bu,.int .i64 x.p.de,.int .i64 x.p.pr,.bool x.p.ti,.int .i64 (x.i:Int),.int .i64 (x.k:Int)] 86)
 have CO:Hid (∀ W i k ls x,But No w W→R[i]? = some ls→ls[k]? = some x→(0≤x.bu∧x.bu≤1099511627776)→Calls Tryz.prog 33 #[sysV s A n c,.slice A' N c',.int .i64 ((i:Nat):Int),.int .i64 ((k:Nat):Int)] W fun e w'=>e=.returned (.int .i64 (ownV s R i x))∧But No W w'):=hid (fun W i k ls x hb h1 h2 h3=>rown_any s A n c A' N c' R i k ls x W (hs.no hb) (hl.no hb) hr hN24 h1 h2 h3)
 have CB:Hid (∀ W,But No w W→Calls Tryz.prog 59 #[sysV s A n c,.slice A' N c',.slice AZ NZ cZ,.int .i64 x.p.co,.int .i64 x.p.pr] W fun e w'=>e=.returned (.int .i64 (blkV s R Z co x.p.pr))∧But No W w'):=hid (fun W hb=>by rw[hco];exact rblock_any s A n c A' N c' R AZ NZ cZ Z co x.p.pr W (hs.no hb) (hl.no hb) (hz.no hb) hr hN row hZ hrow)
 have COX:=hid (fun W hb=>CO.out W x.i x.k lx x.p hb hlx hlkx hbux)
 have HSX:=hid (hs.ts.no hb0)
 have HL:=hid (hL.no hb0)
 obtain⟨il,hi0,hz0,hz1,hz2⟩:=info_parts infoL
 have IL:Hid (Tryz.prog.info? 111=some il∧il.zero=some (.agg #[.int .i64 0,.int .i64 0,.int .i64 0])∧il.size=3∧il.bytes=24):=⟨hi0,hz0,hz1,hz2⟩
 have hsz:((w.alloc (.cells (boxS s A n c) 24)).alloc (.cells #[.int .i64 x.p.co,.int .i64 x.p.bu,.int .i64 x.p.de,.int .i64 x.p.pr,.bool x.p.ti,.int .i64 (x.i:Int),.int .i64 (x.k:Int)] 86)).heap.size=w.heap.size+1+1:=by simp
 clear hs hl hz hL hr hb0 hZ hrow hP hN hi0 hz0 hz1 hz2 hlx hlkx hbux hK hx hco
 unfold sysV at CO CB COX ⊢
 unfold apV
 unfold boxS at BS BX HB0 HSX HL hsz
 go_enter Tryz.func39,Tryz.ntmps39
 go_wp2_with fail
 generalize (w.alloc (.cells #[.int .i64 s.co,.int .i64 s.po,.int .i64 s.pr,.int .i64 s.re,.int .i64 s.sw,.int .i64 s.fi,.int .i64 s.la,.int .i64 s.rs,.slice A n c] 24)).alloc (.cells #[.int .i64 x.p.co,.int .i64 x.p.bu,.int .i64 x.p.de,.int .i64 x.p.pr,.bool x.p.ti,.int .i64 (x.i:Int),.int .i64 (x.k:Int)] 86)=w0 at HB0 BS BX HSX HL hsz ⊢
 go_loopw [12,13,14] (fun a b i wr=>∃ (va vb:Value) (q:Nat),a=va∧b=vb∧i=.int .i64 (q:Int)∧q≤nl∧Hid (T2 111 3 w0 wr va vb (abv x.p.pr (l.take q)).length q (((abv x.p.pr (l.take q)).map (ldOf s R)).flatMap rsp.ldC) (((l.take q).map (ldOf s R)).flatMap rsp.ldC))) (fun _ _ i _=>nl-(intOf i).toNat)
 case atStart=>exact⟨_,_,0,rfl,rfl,rfl,by omega,T2.start _ _ w0⟩
 case round =>
  obtain⟨va,vb,q,hua,hub,rfl,hq,HT⟩:=hrel
  have h':=hua.symm
  subst h'
  have h':=hub.symm
  subst h'
  have hq0:(0:Int)≤(q:Int):=Int.natCast_nonneg q
  by_cases hqn:q<nl
  ·have hqn2:(q:Int)<(nl:Int):=by omega
   have b3:decide ((q:Int)<(nl:Int))=true:=by simp;omega
   obtain⟨y,hy⟩:∃ y,l[q]? = some y:=⟨_,List.getElem?_eq_getElem (by rw[HLN.out];exact hqn)⟩
   obtain⟨⟨ls,hls,hlk⟩,hbu,hde⟩:=HP.out y (List.mem_of_getElem? hy)
   have hyk8:=HK.out y (List.mem_of_getElem? hy)
   have HSN:=hid (ld_snoc (s:=s) (R:=R) hy)
   have HAN:=hid (abv_snoc (pr:=x.p.pr) hy)
   have hab:(abv x.p.pr (l.take q)).length≤q:=by unfold abv;exact Nat.le_trans (List.length_filter_le _ _) (by rw[List.length_take];omega)
   obtain⟨bL,offL,hAL,_,c0,c1,c2,c3,c4,c5,c6⟩:=(HL.out.no HT.out.a.but).at1 hy
   subst hAL
   have hiN:y.i<N:=by
    have h1:=(List.getElem?_eq_some_iff.1 hls).1
    rw[HRN.out] at h1
    exact h1
   obtain⟨t,ht⟩:∃ t,s.ts[y.i]? = some t:=⟨_,List.getElem?_eq_getElem (by rw[HTN.out];exact hiN)⟩
   have hit:((y.i:Nat):Int)<(n:Int):=by have:=HSX.out.len;have:=HTN.out;omega
   have hyi0:(0:Int)≤((y.i:Nat):Int):=Int.natCast_nonneg _
   have hyk0:(0:Int)≤((y.k:Nat):Int):=Int.natCast_nonneg _
   obtain⟨bt,offt,AS,cS,hAn,ct,_⟩:=HSX.out.at1 ht
   subst hAn
   obtain⟨la0,la1⟩:=HLA.out
   have HWK:Hid (ldOf s R y=⟨ownV s R y.i y.p,t.p,(y.k:Int)*(s.la-1)⟩):=hid (by unfold ldOf;rw[getT ht])
   have hkj:0≤(y.k:Int)*(s.la-1):=Int.mul_nonneg (by omega) (by omega)
   have hkj2:(y.k:Int)*(s.la-1)≤8*50:=Int.mul_le_mul (by omega) (by omega) (by omega) (by omega)
   have w1_:IntKind.i64.wrap (s.la-1)=s.la-1:=IntWalk.i64_in _ (by omega)
   have w2_:IntKind.i64.wrap ((y.k:Int)*(s.la-1))=(y.k:Int)*(s.la-1):=IntWalk.i64_in _ (by omega)
   have CO2:Hid (∀ W,But No w0 W→Calls Tryz.prog 33 #[.agg #[.int .i64 s.co,.int .i64 s.po,.int .i64 s.pr,.int .i64 s.re,.int .i64 s.sw,.int .i64 s.fi,.int .i64 s.la,.int .i64 s.rs,.slice (some ⟨bt,offt,none⟩) n c],.slice A' N c',.int .i64 ((y.i:Nat):Int),.int .i64 ((y.k:Nat):Int)] W fun e w'=>e=.returned (.int .i64 (ownV s R y.i y.p))∧But No W w'):=hid (fun W hb=>CO.out W y.i y.k ls y.p (HB0.out.trans hb) hls hlk hbu)
   have hk:=sys_cells (s:=s) (BS.out.but HT.out.a.but (fun f=>f))
   have hct:=cell_keep ct HT.out.a.but
   have hbx:But No wr (wr.alloc (.cells #[.int .i64 y.p.co,.int .i64 y.p.bu,.int .i64 y.p.de,.int .i64 y.p.pr,.bool y.p.ti,.int .i64 (y.i:Int),.int .i64 (y.k:Int)] 86)):=(But.refl No wr).alloc _
   have HBX:=hid hbx
   have HBW:=hid HT.out.a.but
   have HX3:Hid (∀ W,But No w0 W→W.cell? ⟨w.heap.size+1,3,none⟩=some (.int .i64 x.p.pr)):=hid (fun W hb=>(BX.out.but hb (fun f=>f)).cell (o:=3) rfl)
   have f3:=(Blk.new wr #[.int .i64 y.p.co,.int .i64 y.p.bu,.int .i64 y.p.de,.int .i64 y.p.pr,.bool y.p.ti,.int .i64 (y.i:Int),.int .i64 (y.k:Int)] 86).cell (o:=3) rfl
   have f5:=(Blk.new wr #[.int .i64 y.p.co,.int .i64 y.p.bu,.int .i64 y.p.de,.int .i64 y.p.pr,.bool y.p.ti,.int .i64 (y.i:Int),.int .i64 (y.k:Int)] 86).cell (o:=5) rfl
   have f6:=(Blk.new wr #[.int .i64 y.p.co,.int .i64 y.p.bu,.int .i64 y.p.de,.int .i64 y.p.pr,.bool y.p.ti,.int .i64 (y.i:Int),.int .i64 (y.k:Int)] 86).cell (o:=6) rfl
   have HF3:=hid f3
   have KEEP:Hid (∀ w',But No (wr.alloc (.cells #[.int .i64 y.p.co,.int .i64 y.p.bu,.int .i64 y.p.de,.int .i64 y.p.pr,.bool y.p.ti,.int .i64 (y.i:Int),.int .i64 (y.k:Int)] 86)) w'→(S9 w' w.heap.size s (some ⟨bt,offt,none⟩) n c∧(w'.cell? ⟨wr.heap.size,5,none⟩=some (.int .i64 (y.i:Int))∧w'.cell? ⟨wr.heap.size,6,none⟩=some (.int .i64 (y.k:Int)))∧w'.cell? ⟨bt,offt+y.i*4,none⟩=some (.int .i64 t.p))∧But No (wr.alloc (.cells #[.int .i64 y.p.co,.int .i64 y.p.bu,.int .i64 y.p.de,.int .i64 y.p.pr,.bool y.p.ti,.int .i64 (y.i:Int),.int .i64 (y.k:Int)] 86)) w'):=hid (fun w' hb=>by
    obtain⟨k0,k1,k2,k3,k4,k5,k6,k7,k8⟩:=hk
    exact⟨⟨⟨cell_keep (cell_keep k0 hbx) hb,cell_keep (cell_keep k1 hbx) hb,cell_keep (cell_keep k2 hbx) hb,cell_keep (cell_keep k3 hbx) hb,cell_keep (cell_keep k4 hbx) hb,cell_keep (cell_keep k5 hbx) hb,cell_keep (cell_keep k6 hbx) hb,cell_keep (cell_keep k7 hbx) hb,cell_keep (cell_keep k8 hbx) hb⟩,⟨cell_keep f5 hb,cell_keep f6 hb⟩,cell_keep (cell_keep hct hbx) hb⟩,hb⟩)
   clear hls hlk hbu hde hct hk hbx ct ht hy f3 f5 f6 hiN
   obtain⟨⟨pco,pbu,de,ppr,ti⟩,yi,yk⟩:=y
   dsimp only at c0 c1 c2 c3 c4 c5 c6 CO2 KEEP HWK HSN HAN hit hyi0 hyk0 hyk8 HBX HF3 hkj hkj2 w2_
   generalize ownV s R yi ⟨pco,pbu,de,ppr,ti⟩=O at CO2 HWK
   generalize t.p=tp' at KEEP HWK
   obtain⟨jt,hjt⟩:∃ jt,(yk:Int)*(s.la-1)=jt:=⟨_,rfl⟩
   have w3_:IntKind.i64.wrap ((yk:Int)*(s.la-1))=jt:=by rw[w2_];exact hjt
   rw[hjt] at HWK hkj hkj2
   clear hjt w2_
   have HV1:Hid (∀ k,vb.ownBlock=some k→k<wr.heap.size):=hid (fun k e=>(World.ownsRow.lt HT.out.b.own k e).2)
   go_upto_region 7 with fail
   generalize hwx:wr.alloc (.cells #[.int .i64 pco,.int .i64 pbu,.int .i64 de,.int .i64 ppr,.bool ti,.int .i64 (yi:Int),.int .i64 (yk:Int)] 86)=wx at KEEP HBX HF3 ⊢
   have HWXS:Hid (wx.heap.size=wr.heap.size+1):=hid (by rw[←hwx];simp)
   clear hwx c0 c1 c2 c3 c4 c5 c6
   go_region_held3 (fun w'=>(S9 w' w.heap.size s (some ⟨bt,offt,none⟩) n c∧(w'.cell? ⟨wr.heap.size,5,none⟩=some (.int .i64 (yi:Int))∧w'.cell? ⟨wr.heap.size,6,none⟩=some (.int .i64 (yk:Int)))∧w'.cell? ⟨bt,offt+yi*4,none⟩=some (.int .i64 tp'))∧But No wx w')
    (first | exact KEEP.out _ (But.refl _ wx) | exact KEEP.out _ (But.refl _ wx).drew | exact KEEP.out _ HBC.out | exact KEEP.out _ (HBC.out.alloc _) | exact KEEP.out _ ((But.refl _ wx).alloc _).drew | exact KEEP.out _ (((HBC.out.setNew (Nat.le_refl _) _).setNew (Nat.le_refl _) _).setNew (Nat.le_refl _) _))
    (first | (go_at_call 33;(with_reducible refine(CO2.out _ (HBW.out.trans (HBX.out.trans (But.refl No wx).drew))).mono ?_);rintro e wC ⟨rfl,hbC⟩;have HBC:Hid (But No wx wC):=hid ((But.refl No wx).drew.trans hbC);clear hbC) | (go_at_call 33;(with_reducible refine(CO2.out _ (HBW.out.trans (HBX.out.trans ((But.refl No wx).alloc (.cells #[.int .i64 0,.int .i64 0,.int .i64 0] 111)).drew))).mono ?_);rintro e wC ⟨rfl,hbC⟩;have HBC:Hid (But No wx wC):=hid (((But.refl No wx).alloc (.cells #[.int .i64 0,.int .i64 0,.int .i64 0] 111)).drew.trans hbC);have BZ:Blk wC wx.heap.size #[.int .i64 0,.int .i64 0,.int .i64 0] 111:=(Blk.new wx #[.int .i64 0,.int .i64 0,.int .i64 0] 111).but (S:=No) ((But.refl No _).drew.trans hbC) (fun f=>f);have z0:=BZ.cell (o:=0) rfl;have z1:=BZ.cell (o:=1) rfl;have z2:=BZ.cell (o:=2) rfl;have y0:=BZ.frozen 0;have y1:=BZ.frozen 1;have y2:=BZ.frozen 2;have HBZ:=hid BZ;clear hbC BZ))
   rotate_left
   ·rename_i hHeld
    clear hHeld
    have HLB:Hid (Blk (((wC.setCell ⟨wx.heap.size,0,none⟩ (.int .i64 O)).setCell ⟨wx.heap.size,1,none⟩ (.int .i64 tp')).setCell ⟨wx.heap.size,2,none⟩ (.int .i64 jt)) wx.heap.size #[.int .i64 O,.int .i64 tp',.int .i64 jt] 111):=hid (((HBZ.out.set 0 (.int .i64 O)).set 1 (.int .i64 tp')).set 2 (.int .i64 jt))
    have HBY:Hid (But No wx (((wC.setCell ⟨wx.heap.size,0,none⟩ (.int .i64 O)).setCell ⟨wx.heap.size,1,none⟩ (.int .i64 tp')).setCell ⟨wx.heap.size,2,none⟩ (.int .i64 jt))):=hid (((HBC.out.setNew (Nat.le_refl _) _).setNew (Nat.le_refl _) _).setNew (Nat.le_refl _) _)
    have hbz:wr.heap.size<wx.heap.size:=by have:=HWXS.out;omega
    clear HBZ z0 z1 z2 y0 y1 y2
    generalize ((wC.setCell ⟨wx.heap.size,0,none⟩ (.int .i64 O)).setCell ⟨wx.heap.size,1,none⟩ (.int .i64 tp')).setCell ⟨wx.heap.size,2,none⟩ (.int .i64 jt)=wY at HLB HBY ⊢
    obtain⟨bz,hbe⟩:∃ bz,wx.heap.size=bz:=⟨_,rfl⟩
    rw[hbe] at HLB hbz ⊢
    clear hbe
    have hl0:=HLB.out.cell (o:=0) rfl
    have hl1:=HLB.out.cell (o:=1) rfl
    have hl2:=HLB.out.cell (o:=2) rfl
    have HTY:=hid (HT.out.no (HBX.out.trans HBY.out))
    have nb1:¬vb.ownBlock=some wr.heap.size:=fun e=>by have:=HV1.out _ e;omega
    have nb2:¬vb.ownBlock=some bz:=fun e=>by have:=HV1.out _ e;omega
    by_cases hlt:ppr<x.p.pr
    ·have hlt2:decide (ppr<x.p.pr)=true:=by simp[hlt]
     rw[if_pos hlt] at HAN
     clear hlt
     go_wp2_with (first | (at_builtin;refine wpList_append_sh _ rfl _ _ 109 rfl 111 il _ 3 24 Tryz.underlying109 IL.out.1 IL.out.2.1 IL.out.2.2.1 IL.out.2.2.2 rfl (by omega) vb q (((l.take q).map (ldOf s R)).flatMap rsp.ldC) rfl (HTY.out.no ((But.refl No wY).alloc (.cells #[.int .i64 O,.int .i64 tp',.int .i64 jt] 111))).b.own (wY.heap.size+1) (some ⟨wY.heap.size,0,none⟩) 1 1 (rsp.ldC ⟨O,tp',jt⟩) (by simp[Act.eval]) (ld_one_reads wY ⟨O,tp',jt⟩ _) (ld_one_cell _) (by unfold maxLen;omega) (by omega) ?_;intro A5 c5' w5 hown5 hgrow5 hat5;have HT5:=hid ((HTY.out.no ((But.refl No wY).alloc (.cells #[.int .i64 O,.int .i64 tp',.int .i64 jt] 111))).appB hown5 hgrow5 hat5);have HB5:Hid (But (fun z=>vb.ownBlock=some z) wY w5):=hid ((((But.refl No wY).alloc (.cells #[.int .i64 O,.int .i64 tp',.int .i64 jt] 111)).no).grown hgrow5 (fun k e=>.inl e));clear hown5 hgrow5 hat5;have g3:=cell_butS (cell_keep HF3.out HBY.out) HB5.out nb1;have hx3:=HX3.out w5 HT5.out.a.but;have l0:=cell_butS (HLB.out.cell (o:=0) rfl) HB5.out nb2;have l1:=cell_butS (HLB.out.cell (o:=1) rfl) HB5.out nb2;have l2:=cell_butS (HLB.out.cell (o:=2) rfl) HB5.out nb2) | (at_builtin;refine wpList_append_sh _ rfl _ _ 109 rfl 111 il _ 3 24 Tryz.underlying109 IL.out.1 IL.out.2.1 IL.out.2.2.1 IL.out.2.2.2 rfl (by omega) va _ (((abv x.p.pr (l.take q)).map (ldOf s R)).flatMap rsp.ldC) rfl (HT5.out.no ((But.refl No w5).alloc (.cells #[.int .i64 O,.int .i64 tp',.int .i64 jt] 111))).a.own (w5.heap.size+1) (some ⟨w5.heap.size,0,none⟩) 1 1 (rsp.ldC ⟨O,tp',jt⟩) (by simp[Act.eval]) (ld_one_reads w5 ⟨O,tp',jt⟩ _) (ld_one_cell _) (by unfold maxLen;omega) (by omega) ?_;intro A6 c6' w6 hown6 hgrow6 hat6;have HT6:=hid ((HT5.out.no ((But.refl No w5).alloc (.cells #[.int .i64 O,.int .i64 tp',.int .i64 jt] 111))).flip.appB hown6 hgrow6 hat6).flip;clear hown6 hgrow6 hat6))
     go_roundw
     case rel=>exact⟨_,_,q+1,rfl,rfl,by go_num,by omega,by rw[HAN.out,HSN.out,HWK.out,List.map_append,List.flatMap_append,List.length_append];rw[show List.flatMap rsp.ldC (List.map (ldOf s R) [⟨⟨pco,pbu,de,ppr,ti⟩,yi,yk⟩])=rsp.ldC ⟨O,tp',jt⟩ by simp[HWK.out]];exact HT6.out⟩
     case measure=>simp[intOf];omega
    ·have hlt2:decide (ppr<x.p.pr)=false:=by simp;omega
     rw[if_neg hlt,List.append_nil] at HAN
     clear hlt
     go_wp2_with (at_builtin;refine wpList_append_sh _ rfl _ _ 109 rfl 111 il _ 3 24 Tryz.underlying109 IL.out.1 IL.out.2.1 IL.out.2.2.1 IL.out.2.2.2 rfl (by omega) vb q (((l.take q).map (ldOf s R)).flatMap rsp.ldC) rfl (HTY.out.no ((But.refl No wY).alloc (.cells #[.int .i64 O,.int .i64 tp',.int .i64 jt] 111))).b.own (wY.heap.size+1) (some ⟨wY.heap.size,0,none⟩) 1 1 (rsp.ldC ⟨O,tp',jt⟩) (by simp[Act.eval]) (ld_one_reads wY ⟨O,tp',jt⟩ _) (ld_one_cell _) (by unfold maxLen;omega) (by omega) ?_;intro A5 c5' w5 hown5 hgrow5 hat5;have HT5:=hid ((HTY.out.no ((But.refl No wY).alloc (.cells #[.int .i64 O,.int .i64 tp',.int .i64 jt] 111))).appB hown5 hgrow5 hat5);have HB5:Hid (But (fun z=>vb.ownBlock=some z) wY w5):=hid ((((But.refl No wY).alloc (.cells #[.int .i64 O,.int .i64 tp',.int .i64 jt] 111)).no).grown hgrow5 (fun k e=>.inl e));clear hown5 hgrow5 hat5;have g3:=cell_butS (cell_keep HF3.out HBY.out) HB5.out nb1;have hx3:=HX3.out w5 HT5.out.a.but;have l0:=cell_butS (HLB.out.cell (o:=0) rfl) HB5.out nb2;have l1:=cell_butS (HLB.out.cell (o:=1) rfl) HB5.out nb2;have l2:=cell_butS (HLB.out.cell (o:=2) rfl) HB5.out nb2)
     go_roundw
     case rel=>exact⟨_,_,q+1,rfl,rfl,by go_num,by omega,by rw[HAN.out,HSN.out,HWK.out];exact HT5.out⟩
     case measure=>simp[intOf];omega
   ·rename_i hHeld
    clear hHeld
    have HLB:Hid (Blk (wC.alloc (.cells #[.int .i64 O,.int .i64 tp',.int .i64 jt] 111)) wC.heap.size #[.int .i64 O,.int .i64 tp',.int .i64 jt] 111):=hid (Blk.new wC _ _)
    have HBY:Hid (But No wx (wC.alloc (.cells #[.int .i64 O,.int .i64 tp',.int .i64 jt] 111))):=hid (HBC.out.alloc _)
    have hbz:wr.heap.size<wC.heap.size:=by have:=HBC.out.size;have:=HWXS.out;omega
    generalize wC.alloc (.cells #[.int .i64 O,.int .i64 tp',.int .i64 jt] 111)=wY at HLB HBY ⊢
    obtain⟨bz,hbe⟩:∃ bz,wC.heap.size=bz:=⟨_,rfl⟩
    rw[hbe] at HLB hbz ⊢
    clear hbe
    have hl0:=HLB.out.cell (o:=0) rfl
    have hl1:=HLB.out.cell (o:=1) rfl
    have hl2:=HLB.out.cell (o:=2) rfl
    have HTY:=hid (HT.out.no (HBX.out.trans HBY.out))
    have nb1:¬vb.ownBlock=some wr.heap.size:=fun e=>by have:=HV1.out _ e;omega
    have nb2:¬vb.ownBlock=some bz:=fun e=>by have:=HV1.out _ e;omega
    by_cases hlt:ppr<x.p.pr
    ·have hlt2:decide (ppr<x.p.pr)=true:=by simp[hlt]
     rw[if_pos hlt] at HAN
     clear hlt
     go_wp2_with (first | (at_builtin;refine wpList_append_sh _ rfl _ _ 109 rfl 111 il _ 3 24 Tryz.underlying109 IL.out.1 IL.out.2.1 IL.out.2.2.1 IL.out.2.2.2 rfl (by omega) vb q (((l.take q).map (ldOf s R)).flatMap rsp.ldC) rfl (HTY.out.no ((But.refl No wY).alloc (.cells #[.int .i64 O,.int .i64 tp',.int .i64 jt] 111))).b.own (wY.heap.size+1) (some ⟨wY.heap.size,0,none⟩) 1 1 (rsp.ldC ⟨O,tp',jt⟩) (by simp[Act.eval]) (ld_one_reads wY ⟨O,tp',jt⟩ _) (ld_one_cell _) (by unfold maxLen;omega) (by omega) ?_;intro A5 c5' w5 hown5 hgrow5 hat5;have HT5:=hid ((HTY.out.no ((But.refl No wY).alloc (.cells #[.int .i64 O,.int .i64 tp',.int .i64 jt] 111))).appB hown5 hgrow5 hat5);have HB5:Hid (But (fun z=>vb.ownBlock=some z) wY w5):=hid ((((But.refl No wY).alloc (.cells #[.int .i64 O,.int .i64 tp',.int .i64 jt] 111)).no).grown hgrow5 (fun k e=>.inl e));clear hown5 hgrow5 hat5;have g3:=cell_butS (cell_keep HF3.out HBY.out) HB5.out nb1;have hx3:=HX3.out w5 HT5.out.a.but;have l0:=cell_butS (HLB.out.cell (o:=0) rfl) HB5.out nb2;have l1:=cell_butS (HLB.out.cell (o:=1) rfl) HB5.out nb2;have l2:=cell_butS (HLB.out.cell (o:=2) rfl) HB5.out nb2) | (at_builtin;refine wpList_append_sh _ rfl _ _ 109 rfl 111 il _ 3 24 Tryz.underlying109 IL.out.1 IL.out.2.1 IL.out.2.2.1 IL.out.2.2.2 rfl (by omega) va _ (((abv x.p.pr (l.take q)).map (ldOf s R)).flatMap rsp.ldC) rfl (HT5.out.no ((But.refl No w5).alloc (.cells #[.int .i64 O,.int .i64 tp',.int .i64 jt] 111))).a.own (w5.heap.size+1) (some ⟨w5.heap.size,0,none⟩) 1 1 (rsp.ldC ⟨O,tp',jt⟩) (by simp[Act.eval]) (ld_one_reads w5 ⟨O,tp',jt⟩ _) (ld_one_cell _) (by unfold maxLen;omega) (by omega) ?_;intro A6 c6' w6 hown6 hgrow6 hat6;have HT6:=hid ((HT5.out.no ((But.refl No w5).alloc (.cells #[.int .i64 O,.int .i64 tp',.int .i64 jt] 111))).flip.appB hown6 hgrow6 hat6).flip;clear hown6 hgrow6 hat6))
     go_roundw
     case rel=>exact⟨_,_,q+1,rfl,rfl,by go_num,by omega,by rw[HAN.out,HSN.out,HWK.out,List.map_append,List.flatMap_append,List.length_append];rw[show List.flatMap rsp.ldC (List.map (ldOf s R) [⟨⟨pco,pbu,de,ppr,ti⟩,yi,yk⟩])=rsp.ldC ⟨O,tp',jt⟩ by simp[HWK.out]];exact HT6.out⟩
     case measure=>simp[intOf];omega
    ·have hlt2:decide (ppr<x.p.pr)=false:=by simp;omega
     rw[if_neg hlt,List.append_nil] at HAN
     clear hlt
     go_wp2_with (at_builtin;refine wpList_append_sh _ rfl _ _ 109 rfl 111 il _ 3 24 Tryz.underlying109 IL.out.1 IL.out.2.1 IL.out.2.2.1 IL.out.2.2.2 rfl (by omega) vb q (((l.take q).map (ldOf s R)).flatMap rsp.ldC) rfl (HTY.out.no ((But.refl No wY).alloc (.cells #[.int .i64 O,.int .i64 tp',.int .i64 jt] 111))).b.own (wY.heap.size+1) (some ⟨wY.heap.size,0,none⟩) 1 1 (rsp.ldC ⟨O,tp',jt⟩) (by simp[Act.eval]) (ld_one_reads wY ⟨O,tp',jt⟩ _) (ld_one_cell _) (by unfold maxLen;omega) (by omega) ?_;intro A5 c5' w5 hown5 hgrow5 hat5;have HT5:=hid ((HTY.out.no ((But.refl No wY).alloc (.cells #[.int .i64 O,.int .i64 tp',.int .i64 jt] 111))).appB hown5 hgrow5 hat5);have HB5:Hid (But (fun z=>vb.ownBlock=some z) wY w5):=hid ((((But.refl No wY).alloc (.cells #[.int .i64 O,.int .i64 tp',.int .i64 jt] 111)).no).grown hgrow5 (fun k e=>.inl e));clear hown5 hgrow5 hat5;have g3:=cell_butS (cell_keep HF3.out HBY.out) HB5.out nb1;have hx3:=HX3.out w5 HT5.out.a.but;have l0:=cell_butS (HLB.out.cell (o:=0) rfl) HB5.out nb2;have l1:=cell_butS (HLB.out.cell (o:=1) rfl) HB5.out nb2;have l2:=cell_butS (HLB.out.cell (o:=2) rfl) HB5.out nb2)
     go_roundw
     case rel=>exact⟨_,_,q+1,rfl,rfl,by go_num,by omega,by rw[HAN.out,HSN.out,HWK.out];exact HT5.out⟩
     case measure=>simp[intOf];omega
  ·have hqe:q=nl:=by omega
   have b3:decide ((q:Int)<(nl:Int))=false:=by simp;omega
   have htk:l.take q=l:=List.take_of_length_le (by rw[HLN.out];omega)
   rw[htk] at HT
   have hfit:∀ y ∈ l,inR (ldOf s R y).w∧inR (ldOf s R y).p∧inR (ldOf s R y).j:=fun y hy=>by
    obtain⟨⟨ls,hls,hlk⟩,hbu,hde⟩:=HP.out y hy
    have h1:=ownV_bd HR.out R y.i hbu
    have h2:1≤(s.ts.getD y.i ts0).p∧(s.ts.getD y.i ts0).p≤1099511627776:=by
     have h3:=(List.getElem?_eq_some_iff.1 hls).1
     rw[HRN.out] at h3
     obtain⟨t,ht⟩:∃ t,s.ts[y.i]? = some t:=⟨_,List.getElem?_eq_getElem (by rw[HTN.out];exact h3)⟩
     rw[getT ht]
     exact right_per HR.out (List.mem_of_getElem? ht)
    have h8:=HK.out y hy
    obtain⟨la0,la1⟩:=HLA.out
    have hj1:0≤(y.k:Int)*(s.la-1):=Int.mul_nonneg (by omega) (by omega)
    have hj2:(y.k:Int)*(s.la-1)≤8*50:=Int.mul_le_mul (by omega) (by omega) (by omega) (by omega)
    unfold ldOf inR
    dsimp only
    omega
   have hlb:(l.map (ldOf s R)).length=q:=by rw[List.length_map,HLN.out,hqe]
   have hla:((abv x.p.pr l).map (ldOf s R)).length=(abv x.p.pr l).length:=List.length_map _
   have hlaq:(abv x.p.pr l).length≤q:=by unfold abv;exact Nat.le_trans (List.length_filter_le _ _) (by rw[HLN.out];omega)
   have HOB:Hid (rsp.OLd wr 111 vb (l.map (ldOf s R))):=hid (by unfold rsp.OLd;rw[hlb];exact HT.out.b.own)
   have HOA:Hid (rsp.OLd wr 111 va ((abv x.p.pr l).map (ldOf s R))):=hid (by unfold rsp.OLd;rw[hla];exact HT.out.a.own)
   obtain⟨AB,cB,hvb,hrb⟩:=HOB.out.rd (by omega) (fun z hz=>by obtain⟨y,hy,rfl⟩:=List.mem_map.1 hz;exact hfit y hy)
   obtain⟨AA,cA,hva,hra⟩:=HOA.out.rd (by omega) (fun z hz=>by obtain⟨y,hy,rfl⟩:=List.mem_map.1 hz;exact hfit y (List.mem_filter.1 hy).1)
   subst hva
   subst hvb
   have HRA:=hid hra
   have HRB:=hid hrb
   have HBW:=hid HT.out.a.but
   have CB2:Hid (∀ W,But No w0 W→Calls Tryz.prog 59 #[.agg #[.int .i64 s.co,.int .i64 s.po,.int .i64 s.pr,.int .i64 s.re,.int .i64 s.sw,.int .i64 s.fi,.int .i64 s.la,.int .i64 s.rs,.slice A n c],.slice A' N c',.slice AZ NZ cZ,.int .i64 x.p.co,.int .i64 x.p.pr] W fun e w'=>e=.returned (.int .i64 (blkV s R Z co x.p.pr))∧But No W w'):=hid (fun W hb=>CB.out W (HB0.out.trans hb))
   have CX2:Hid (∀ W,But No w0 W→Calls Tryz.prog 33 #[.agg #[.int .i64 s.co,.int .i64 s.po,.int .i64 s.pr,.int .i64 s.re,.int .i64 s.sw,.int .i64 s.fi,.int .i64 s.la,.int .i64 s.rs,.slice A n c],.slice A' N c',.int .i64 ((x.i:Nat):Int),.int .i64 ((x.k:Nat):Int)] W fun e w'=>e=.returned (.int .i64 (ownV s R x.i x.p))∧But No W w'):=hid (fun W hb=>COX.out W (HB0.out.trans hb))
   have CT:Hid (∀ W o b r m,But No wr W→Calls Tryz.prog 60 #[.int .i64 o,.int .i64 b,.int .i64 r,.slice AA ((abv x.p.pr l).map (ldOf s R)).length cA,.slice AB (l.map (ldOf s R)).length cB,.int .i64 m] W fun e w'=>e=.returned (.tuple #[.int .i64 (rsp.bnP o b r ((abv x.p.pr l).map (ldOf s R)) (l.map (ldOf s R)) m).1,.int .i64 (rsp.bnP o b r ((abv x.p.pr l).map (ldOf s R)) (l.map (ldOf s R)) m).2])∧But No W w'):=hid (fun W o b r m hb=>rsp.rbound_any AA _ cA _ AB _ cB _ o b r m W (HRA.out.no hb) (HRB.out.no hb))
   obtain⟨k0,k1,k2,k3,k4,k5,k6,k7,k8⟩:=sys_cells (s:=s) (BS.out.but HBW.out (fun f=>f))
   have hxb:=BX.out.but HBW.out (fun f=>f)
   have x0:=hxb.cell (o:=0) rfl
   have x2:=hxb.cell (o:=2) rfl
   have x3:=hxb.cell (o:=3) rfl
   have x5:=hxb.cell (o:=5) rfl
   have x6:=hxb.cell (o:=6) rfl
   have KEEP:Hid (∀ w',But No wr w'→(S9 w' w.heap.size s A n c∧w'.cell? ⟨w.heap.size+1,0,none⟩=some (.int .i64 x.p.co)∧w'.cell? ⟨w.heap.size+1,2,none⟩=some (.int .i64 x.p.de)∧w'.cell? ⟨w.heap.size+1,3,none⟩=some (.int .i64 x.p.pr)∧w'.cell? ⟨w.heap.size+1,5,none⟩=some (.int .i64 (x.i:Int))∧w'.cell? ⟨w.heap.size+1,6,none⟩=some (.int .i64 (x.k:Int)))∧But No wr w'):=hid (fun w' hb=>⟨⟨⟨cell_keep k0 hb,cell_keep k1 hb,cell_keep k2 hb,cell_keep k3 hb,cell_keep k4 hb,cell_keep k5 hb,cell_keep k6 hb,cell_keep k7 hb,cell_keep k8 hb⟩,cell_keep x0 hb,cell_keep x2 hb,cell_keep x3 hb,cell_keep x5 hb,cell_keep x6 hb⟩,hb⟩)
   clear CO CB COX hlb hla htk hrb hra HT HOA HOB hqe hfit hxb hdex HL HSX
   obtain⟨⟨xco,xbu,xde,xpr,xti⟩,xi,xk⟩:=x
   dsimp only at *
   generalize blkV s R Z co xpr=BL at CB2 HEV
   generalize ownV s R xi ⟨xco,xbu,xde,xpr,xti⟩=O at CX2 HEV
   generalize ((abv xpr l).map (ldOf s R)).length=nA at CT ⊢
   generalize (l.map (ldOf s R)).length=nB at CT ⊢
   have CT2:=hid (fun W hb=>CT.out W O BL s.re xde hb)
   rw[HEV.out] at CT2
   clear CT
   go_upto_region 11 with fail
   go_region_held3 (fun w'=>(S9 w' w.heap.size s A n c∧w'.cell? ⟨w.heap.size+1,0,none⟩=some (.int .i64 xco)∧w'.cell? ⟨w.heap.size+1,2,none⟩=some (.int .i64 xde)∧w'.cell? ⟨w.heap.size+1,3,none⟩=some (.int .i64 xpr)∧w'.cell? ⟨w.heap.size+1,5,none⟩=some (.int .i64 (xi:Int))∧w'.cell? ⟨w.heap.size+1,6,none⟩=some (.int .i64 (xk:Int)))∧But No wr w')
    (first | exact KEEP.out _ (But.refl No wr) | exact KEEP.out _ (But.refl No wr).drew | exact KEEP.out _ HB4.out | exact KEEP.out _ HB5.out | exact KEEP.out _ HB6.out)
    (first | (go_at_call 33;(with_reducible refine(CX2.out _ (HBW.out.trans (But.refl No wr).drew)).mono ?_);rintro e w4 ⟨rfl,hb4⟩;have HB4:Hid (But No wr w4):=hid ((But.refl No wr).drew.trans hb4);clear hb4) | (go_at_call 59;(with_reducible refine(CB2.out _ (HBW.out.trans HB4.out)).mono ?_);rintro e w5 ⟨rfl,hb5⟩;have HB5:Hid (But No wr w5):=hid (HB4.out.trans hb5);clear hb5) | (go_at_call 60;(with_reducible refine(CT2.out _ HB5.out).mono ?_);rintro e w6 ⟨rfl,hb6⟩;have HB6:Hid (But No wr w6):=hid (HB5.out.trans hb6);clear hb6))
   rename_i hHeld
   clear hHeld
   go_wp2_with fail
   go_ret2
   exact⟨rfl,HB0.out.trans (HBW.out.trans HB6.out)⟩
end Go.Proofs.YtjfaiaipojfhgaaGreat.pln
end
