/- Part 26 of a proof: PlR10. -/
import Derived.Deep.RegionHeld3
import Derived.Test.YtjfaiaipojfhgaaGreatK04
import Derived.Test.YtjfaiaipojfhgaaGreatK21
import Derived.Test.YtjfaiaipojfhgaaGreatK25
section
namespace Go.Proofs.YtjfaiaipojfhgaaGreat.pln
open Go.Lib (hid)
open Go.ChangeShapes Go.WideShapes Go.ChangeAt Go.RowKit Go.Deep val ter
structure Rg (e:TypeId) (sz:Nat) (w wr:World) (v:Value) (n:Nat) (cs:List Value):Prop where
 but:But No w wr
 own:wr.ownsRow 0 e sz v n cs
 new:∀ k,v.ownBlock=some k→w.heap.size≤k
theorem Rg.no {e:TypeId} {sz:Nat} {w wr w2:World} {v:Value} {n:Nat} {cs:List Value} (h:Rg e sz w wr v n cs) (hb:But No wr w2):Rg e sz w w2 v n cs:=⟨h.but.trans hb,owns_but h.own hb (fun _ _ f=>f),h.new⟩
theorem Rg.but2 {e:TypeId} {sz:Nat} {w wr w2:World} {v:Value} {n:Nat} {cs:List Value} {S:Nat→Prop} (h:Rg e sz w wr v n cs) (hb:But S wr w2) (hw:But No w w2) (hs:∀ k,v.ownBlock=some k→¬S k):Rg e sz w w2 v n cs:=⟨hw,owns_but h.own hb hs,h.new⟩
theorem Rg.start (e:TypeId) (sz:Nat) (w:World):Rg e sz w w (.slice none 0 0) 0 []:=⟨But.refl No w,World.ownsRow_nil _ _ _ _,own_none⟩
theorem Rg.app {e:TypeId} {sz:Nat} {w wr w2:World} {v:Value} {n m:Nat} {cs ds:List Value} {A:Option Addr} {c:Nat} (h:Rg e sz w wr v n cs) (ho:w2.ownsRow 0 e sz (.slice A m c) m (cs ++ ds)) (hg:wr.grownBy w2 v.ownBlock)
  (hat:(Value.slice A m c).ownBlock=v.ownBlock∨(Value.slice A m c).ownBlock=some wr.heap.size):Rg e sz w w2 (.slice A m c) m (cs ++ ds) :=
 ⟨h.but.grown hg (fun k e=>.inr (h.new k e)),ho,own_new h.new hat h.but.size⟩
theorem cell_butS {S:Nat→Prop} {w w':World} {p:Addr} {v:Value} (h:w.cell? p=some v) (hb:But S w w') (hs:¬S p.block):w'.cell? p=some v:=by
 have hl:=World.block_lt_of_cell? w p h
 obtain⟨b,o,sp⟩:=p
 have hsp:sp=none:=by simpa using World.cell?_spot h
 subst hsp
 rw[hb.cell hl hs]
 exact h
def wkOf (s:Sys) (R:List (List Pc)) (y:Ap):dem.Wk:=⟨ownV s R y.i y.p,(s.ts.getD y.i ts0).p,y.p.de,y.p.ti⟩
def edfV (s:Sys) (R:List (List Pc)) (Z:List (List Int)) (l:List Ap) (c:Nat):Int:=dem.testV (l.map (wkOf s R)) (blkV s R Z c 0) s.re
def InP (R:List (List Pc)) (l:List Ap):Prop:=∀ y ∈ l,(∃ ls,R[y.i]? = some ls∧ls[y.k]? = some y.p)∧(0≤y.p.bu∧y.p.bu≤1099511627776)∧inR y.p.de
theorem right_per {s:Sys} (h:right s=true) {t:Tsk} (ht:t ∈ s.ts):1≤t.p∧t.p≤1099511627776:=by
 obtain⟨_,h2⟩:=right_parts h
 have h3:=h2 t ht
 unfold vTsk vHead at h3
 simp only[Bool.and_eq_true,wi_true] at h3
 exact h3.1.1
theorem infoW : (Tryz.prog.info? 106).map (fun i=>(i.zero,i.size,i.bytes))=some (some (.agg #[.int .i64 0,.int .i64 0,.int .i64 0,.bool false]),4,32):=by kernel_rfl
theorem wk_one_reads (w:World) (x:dem.Wk) (t:TypeId):Reads (w.alloc (.cells #[.int .i64 x.w,.int .i64 x.p,.int .i64 x.d,.bool x.top] t)) (w.heap.size+1) 4 (some ⟨w.heap.size,0,none⟩) 1 (dem.wkC x) :=
 ⟨rfl,fun _=>⟨⟨w.heap.size,0,none⟩,rfl,by simp,World.news_of_block (cs:=#[.int .i64 x.w,.int .i64 x.p,.int .i64 x.d,.bool x.top]) (t:=t) (fr:=(0,0)) (Blk.new w _ _)⟩⟩
theorem wk_one_cell (x:dem.Wk):∀ u ∈ dem.wkC x,u.oneCell'=true:=by simp[dem.wkC,Value.oneCell']
theorem wk_snoc {s:Sys} {R:List (List Pc)} {l:List Ap} {q:Nat} {y:Ap} (h:l[q]? = some y):((l.take (q+1)).map (wkOf s R)).flatMap dem.wkC=((l.take q).map (wkOf s R)).flatMap dem.wkC ++ dem.wkC (wkOf s R y):=by
 rw[List.take_add_one,h,List.map_append,List.flatMap_append];simp
set_option maxRecDepth 100000 in
set_option maxHeartbeats 8000000 in
theorem redf_any (s:Sys) (A:Option Addr) (n c:Nat) (A':Option Addr) (N c':Nat) (R:List (List Pc)) (AZ:Option Addr) (NZ cZ:Nat) (Z:List (List Int)) (AL:Option Addr) (nl cl:Nat) (l:List Ap) (co:Nat) (w:World) (hs:RSys w A n c s) (hl:RPl w A' N R) (hz:RNs w AZ NZ Z) (hL:RAp w AL nl l) (hr:right s=true) (hN:N=s.ts.length) (row:List Int) (hZ:Z[co]? = some row) (hrow:row.length=s.rs.toNat) (hP:InP R l) (hnl:nl≤200) :
  Calls Tryz.prog 38 #[sysV s A n c,.slice A' N c',.slice AZ NZ cZ,.slice AL nl cl,.int .i64 (co:Int)] w fun e w'=>e=.returned (.int .i64 (edfV s R Z l co))∧But No w w':=by
 have hN24:N≤24:=by have:=(right_len hr).2.2.2.1;omega
 have HLN:=hid hL.len
 have HRN:=hid hl.len
 have HTN:Hid (s.ts.length=N):=hid hN.symm
 have HR:=hid hr
 have HP:=hid hP
 have HEV:Hid (dem.testV (l.map (wkOf s R)) (blkV s R Z co 0) s.re=edfV s R Z l co):=hid rfl
 generalize edfV s R Z l co=V at HEV ⊢
 have hb0:But No w (w.alloc (.cells (boxS s A n c) 24)):=(But.refl No w).alloc _
 have HB0:=hid hb0
 have BS:=hid (Blk.new w (boxS s A n c) 24)
 have CO:Hid (∀ W i k ls x,But No w W→R[i]? = some ls→ls[k]? = some x→(0≤x.bu∧x.bu≤1099511627776)→Calls Tryz.prog 33 #[sysV s A n c,.slice A' N c',.int .i64 ((i:Nat):Int),.int .i64 ((k:Nat):Int)] W fun e w'=>e=.returned (.int .i64 (ownV s R i x))∧But No W w'):=hid (fun W i k ls x hb h1 h2 h3=>rown_any s A n c A' N c' R i k ls x W (hs.no hb) (hl.no hb) hr hN24 h1 h2 h3)
 have CB:Hid (∀ W,But No w W→Calls Tryz.prog 59 #[sysV s A n c,.slice A' N c',.slice AZ NZ cZ,.int .i64 (co:Int),.int .i64 0] W fun e w'=>e=.returned (.int .i64 (blkV s R Z co 0))∧But No W w'):=hid (fun W hb=>rblock_any s A n c A' N c' R AZ NZ cZ Z co 0 W (hs.no hb) (hl.no hb) (hz.no hb) hr hN row hZ hrow)
 have HSX:=hid (hs.ts.no hb0)
 have HL:=hid (hL.no hb0)
 obtain⟨iw,hi0,hz0,hz1,hz2⟩:=info_parts infoW
 have IW:Hid (Tryz.prog.info? 106=some iw∧iw.zero=some (.agg #[.int .i64 0,.int .i64 0,.int .i64 0,.bool false])∧iw.size=4∧iw.bytes=32):=⟨hi0,hz0,hz1,hz2⟩
 clear hs hl hz hL hr hb0 hZ hrow hP hN hi0 hz0 hz1 hz2
 have hsz:(w.alloc (.cells (boxS s A n c) 24)).heap.size=w.heap.size+1:=by simp
 unfold sysV at CO CB ⊢
 unfold boxS at BS HB0 HSX HL hsz
 go_enter Tryz.func38,Tryz.ntmps38
 go_wp2_with fail
 generalize w.alloc (.cells #[.int .i64 s.co,.int .i64 s.po,.int .i64 s.pr,.int .i64 s.re,.int .i64 s.sw,.int .i64 s.fi,.int .i64 s.la,.int .i64 s.rs,.slice A n c] 24)=w0 at HB0 BS HSX HL hsz ⊢
 go_loopw [11,12] (fun u i wr=>∃ (v:Value) (q:Nat),u=v∧i=.int .i64 (q:Int)∧q≤nl∧Hid (Rg 106 4 w0 wr v q (((l.take q).map (wkOf s R)).flatMap dem.wkC))) (fun _ i _=>nl-(intOf i).toNat)
 case atStart=>exact⟨_,0,rfl,rfl,by omega,Rg.start _ _ w0⟩
 case round =>
  obtain⟨v,q,hu,rfl,hq,HRG⟩:=hrel
  have h':=hu.symm
  subst h'
  have hq0:(0:Int)≤(q:Int):=Int.natCast_nonneg q
  by_cases hqn:q<nl
  ·have hqn2:(q:Int)<(nl:Int):=by omega
   have b3:decide ((q:Int)<(nl:Int))=true:=by simp;omega
   obtain⟨y,hy⟩:∃ y,l[q]? = some y:=⟨_,List.getElem?_eq_getElem (by rw[HLN.out];exact hqn)⟩
   obtain⟨⟨ls,hls,hlk⟩,hbu,hde⟩:=HP.out y (List.mem_of_getElem? hy)
   have HSN:=hid (wk_snoc (s:=s) (R:=R) hy)
   obtain⟨bL,offL,hAL,_,c0,c1,c2,c3,c4,c5,c6⟩:=(HL.out.no HRG.out.but).at1 hy
   subst hAL
   have hiN:y.i<N:=by
    have h1:=(List.getElem?_eq_some_iff.1 hls).1
    rw[HRN.out] at h1
    exact h1
   obtain⟨t,ht⟩:∃ t,s.ts[y.i]? = some t:=⟨_,List.getElem?_eq_getElem (by rw[HTN.out];exact hiN)⟩
   have hit:((y.i:Nat):Int)<(n:Int):=by have:=HSX.out.len;have:=HTN.out;omega
   have hyi0:(0:Int)≤((y.i:Nat):Int):=Int.natCast_nonneg _
   obtain⟨bt,offt,AS,cS,hAn,ct,_⟩:=HSX.out.at1 ht
   have hbt:=World.block_lt_of_cell? w0 _ ct
   dsimp only at hbt
   subst hAn
   have HWK:Hid (wkOf s R y=⟨ownV s R y.i y.p,t.p,y.p.de,y.p.ti⟩):=hid (by unfold wkOf;rw[getT ht])
   have CO2:Hid (∀ W,But No w0 W→Calls Tryz.prog 33 #[.agg #[.int .i64 s.co,.int .i64 s.po,.int .i64 s.pr,.int .i64 s.re,.int .i64 s.sw,.int .i64 s.fi,.int .i64 s.la,.int .i64 s.rs,.slice (some ⟨bt,offt,none⟩) n c],.slice A' N c',.int .i64 ((y.i:Nat):Int),.int .i64 ((y.k:Nat):Int)] W fun e w'=>e=.returned (.int .i64 (ownV s R y.i y.p))∧But No W w'):=hid (fun W hb=>CO.out W y.i y.k ls y.p (HB0.out.trans hb) hls hlk hbu)
   have hk:=sys_cells (s:=s) (BS.out.but HRG.out.but (fun f=>f))
   have hct:=cell_keep ct HRG.out.but
   have hbx:But No wr (wr.alloc (.cells #[.int .i64 y.p.co,.int .i64 y.p.bu,.int .i64 y.p.de,.int .i64 y.p.pr,.bool y.p.ti,.int .i64 (y.i:Int),.int .i64 (y.k:Int)] 86)):=(But.refl No wr).alloc _
   have hv1:∀ k,v.ownBlock=some k→k<wr.heap.size:=fun k e=>(World.ownsRow.lt HRG.out.own k e).2
   have hv2:=HRG.out.new
   have HBX:=hid hbx
   have HBW:=hid HRG.out.but
   have f2:=(Blk.new wr #[.int .i64 y.p.co,.int .i64 y.p.bu,.int .i64 y.p.de,.int .i64 y.p.pr,.bool y.p.ti,.int .i64 (y.i:Int),.int .i64 (y.k:Int)] 86).cell (o:=2) rfl
   have f4:=(Blk.new wr #[.int .i64 y.p.co,.int .i64 y.p.bu,.int .i64 y.p.de,.int .i64 y.p.pr,.bool y.p.ti,.int .i64 (y.i:Int),.int .i64 (y.k:Int)] 86).cell (o:=4) rfl
   have f5:=(Blk.new wr #[.int .i64 y.p.co,.int .i64 y.p.bu,.int .i64 y.p.de,.int .i64 y.p.pr,.bool y.p.ti,.int .i64 (y.i:Int),.int .i64 (y.k:Int)] 86).cell (o:=5) rfl
   have f6:=(Blk.new wr #[.int .i64 y.p.co,.int .i64 y.p.bu,.int .i64 y.p.de,.int .i64 y.p.pr,.bool y.p.ti,.int .i64 (y.i:Int),.int .i64 (y.k:Int)] 86).cell (o:=6) rfl
   have KEEP:Hid (∀ w',But (fun z=>v.ownBlock=some z) (wr.alloc (.cells #[.int .i64 y.p.co,.int .i64 y.p.bu,.int .i64 y.p.de,.int .i64 y.p.pr,.bool y.p.ti,.int .i64 (y.i:Int),.int .i64 (y.k:Int)] 86)) w'→(S9 w' w.heap.size s (some ⟨bt,offt,none⟩) n c∧(w'.cell? ⟨wr.heap.size,2,none⟩=some (.int .i64 y.p.de)∧w'.cell? ⟨wr.heap.size,4,none⟩=some (.bool y.p.ti)∧w'.cell? ⟨wr.heap.size,5,none⟩=some (.int .i64 (y.i:Int))∧w'.cell? ⟨wr.heap.size,6,none⟩=some (.int .i64 (y.k:Int)))∧w'.cell? ⟨bt,offt+y.i*4,none⟩=some (.int .i64 t.p))∧But (fun z=>v.ownBlock=some z) (wr.alloc (.cells #[.int .i64 y.p.co,.int .i64 y.p.bu,.int .i64 y.p.de,.int .i64 y.p.pr,.bool y.p.ti,.int .i64 (y.i:Int),.int .i64 (y.k:Int)] 86)) w'):=hid (fun w' hb=>by
    have n1:¬v.ownBlock=some w.heap.size:=fun e=>by have:=hv2 _ e;omega
    have n2:¬v.ownBlock=some wr.heap.size:=fun e=>by have:=hv1 _ e;omega
    have n3:¬v.ownBlock=some bt:=fun e=>by have:=hv2 _ e;omega
    obtain⟨k0,k1,k2,k3,k4,k5,k6,k7,k8⟩:=hk
    exact⟨⟨⟨cell_butS (cell_keep k0 hbx) hb n1,cell_butS (cell_keep k1 hbx) hb n1,cell_butS (cell_keep k2 hbx) hb n1,cell_butS (cell_keep k3 hbx) hb n1,cell_butS (cell_keep k4 hbx) hb n1,cell_butS (cell_keep k5 hbx) hb n1,cell_butS (cell_keep k6 hbx) hb n1,cell_butS (cell_keep k7 hbx) hb n1,cell_butS (cell_keep k8 hbx) hb n1⟩,⟨cell_butS f2 hb n2,cell_butS f4 hb n2,cell_butS f5 hb n2,cell_butS f6 hb n2⟩,cell_butS (cell_keep hct hbx) hb n3⟩,hb⟩)
   have HOWN:Hid ((wr.alloc (.cells #[.int .i64 y.p.co,.int .i64 y.p.bu,.int .i64 y.p.de,.int .i64 y.p.pr,.bool y.p.ti,.int .i64 (y.i:Int),.int .i64 (y.k:Int)] 86)).ownsRow 0 106 4 v q (((l.take q).map (wkOf s R)).flatMap dem.wkC)):=hid (owns_but HRG.out.own hbx (fun _ _ f=>f))
   clear hls hlk hbu hde hct hk hbx ct hbt ht hy f2 f4 f5 f6 hiN
   obtain⟨⟨pco,pbu,de,ppr,ti⟩,yi,yk⟩:=y
   dsimp only at c0 c1 c2 c3 c4 c5 c6 CO2 KEEP HOWN HWK HSN hit hyi0 HBX
   generalize ownV s R yi ⟨pco,pbu,de,ppr,ti⟩=O at CO2 HWK
   generalize t.p=tp' at KEEP HWK
   go_upto_region 6 with fail
   generalize hwx:wr.alloc (.cells #[.int .i64 pco,.int .i64 pbu,.int .i64 de,.int .i64 ppr,.bool ti,.int .i64 (yi:Int),.int .i64 (yk:Int)] 86)=wx at KEEP HOWN HBX ⊢
   clear hwx c0 c1 c2 c3 c4 c5 c6
   go_region_held3 (fun w'=>(S9 w' w.heap.size s (some ⟨bt,offt,none⟩) n c∧(w'.cell? ⟨wr.heap.size,2,none⟩=some (.int .i64 de)∧w'.cell? ⟨wr.heap.size,4,none⟩=some (.bool ti)∧w'.cell? ⟨wr.heap.size,5,none⟩=some (.int .i64 (yi:Int))∧w'.cell? ⟨wr.heap.size,6,none⟩=some (.int .i64 (yk:Int)))∧w'.cell? ⟨bt,offt+yi*4,none⟩=some (.int .i64 tp'))∧But (fun z=>v.ownBlock=some z) wx w')
    (first | exact KEEP.out _ (But.refl _ wx) | exact KEEP.out _ (But.refl _ wx).drew | exact KEEP.out _ HBC.out.no | exact KEEP.out _ (HBC.out.alloc _).no | exact KEEP.out _ HB5.out)
    (first | (go_at_call 33;(with_reducible refine(CO2.out _ (HBW.out.trans (HBX.out.trans (But.refl No wx).drew))).mono ?_);rintro e wC ⟨rfl,hbC⟩;have HBC:Hid (But No wx wC):=hid ((But.refl No wx).drew.trans hbC);clear hbC) | (refine step_append_sh rfl _ _ 104 rfl 106 iw _ 4 32 Tryz.underlying104 IW.out.1 IW.out.2.1 IW.out.2.2.1 IW.out.2.2.2 rfl (by omega) v q (((l.take q).map (wkOf s R)).flatMap dem.wkC) (by simp[Act.eval]) (owns_but HOWN.out (HBC.out.alloc (.cells #[.int .i64 O,.int .i64 tp',.int .i64 de,.bool ti] 106)) (fun _ _ f=>f)) (wC.heap.size+1) (some ⟨wC.heap.size,0,none⟩) 1 1 (dem.wkC ⟨O,tp',de,ti⟩) (by simp[Act.eval]) (wk_one_reads wC ⟨O,tp',de,ti⟩ _) (wk_one_cell _) (by unfold maxLen;omega) (by omega) ?_;intro A5 c5' w5 hown5 hgrow5 hat5;have HB5:Hid (But (fun z=>v.ownBlock=some z) wx w5):=hid (((HBC.out.alloc (.cells #[.int .i64 O,.int .i64 tp',.int .i64 de,.bool ti] 106)).no).grown hgrow5.out (fun k e=>.inl e))))
   have HR5:Hid (Rg 106 4 w0 w5 (.slice A5 (q+1) c5') (q+1) (((l.take (q+1)).map (wkOf s R)).flatMap dem.wkC)):=hid (by
    rw[HSN.out,HWK.out]
    have h1:Rg 106 4 w0 (wC.alloc (.cells #[.int .i64 O,.int .i64 tp',.int .i64 de,.bool ti] 106)) v q (((l.take q).map (wkOf s R)).flatMap dem.wkC):=HRG.out.no ((HBX.out.trans HBC.out).alloc _)
    exact h1.app hown5.out hgrow5.out hat5.out)
   rename_i hHeld
   clear hHeld hown5 hgrow5 hat5 HB5 HBC KEEP HOWN CO2
   go_wp2_with fail
   go_roundw
   case rel=>exact⟨_,q+1,rfl,by go_num,by omega,HR5.out⟩
   case measure=>simp[intOf];omega
  ·have hqe:q=nl:=by omega
   have b3:decide ((q:Int)<(nl:Int))=false:=by simp;omega
   have htk:l.take q=l:=List.take_of_length_le (by rw[HLN.out];omega)
   rw[htk] at HRG
   have hlen:(l.map (wkOf s R)).length=q:=by rw[List.length_map,HLN.out,hqe]
   have HOW:Hid (dem.OWk wr 106 v (l.map (wkOf s R))):=hid (by unfold dem.OWk;rw[hlen];exact HRG.out.own)
   obtain⟨AW,cW,hv,hrw⟩:=HOW.out.rd (by rw[hlen];omega) (fun x hx=>by
    obtain⟨y,hy,rfl⟩:=List.mem_map.1 hx
    obtain⟨⟨ls,hls,hlk⟩,hbu,hde⟩:=HP.out y hy
    have h1:=ownV_bd HR.out R y.i hbu
    have h2:1≤(s.ts.getD y.i ts0).p∧(s.ts.getD y.i ts0).p≤1099511627776:=by
     have h3:=(List.getElem?_eq_some_iff.1 hls).1
     rw[HRN.out] at h3
     obtain⟨t,ht⟩:∃ t,s.ts[y.i]? = some t:=⟨_,List.getElem?_eq_getElem (by rw[HTN.out];exact h3)⟩
     rw[getT ht]
     exact right_per HR.out (List.mem_of_getElem? ht)
    unfold wkOf inR
    unfold inR at hde
    dsimp only
    omega)
   rw[hlen] at hv hrw
   subst hv
   have HRW:=hid hrw
   have HBW:=hid HRG.out.but
   have CB2:Hid (∀ W,But No w0 W→Calls Tryz.prog 59 #[.agg #[.int .i64 s.co,.int .i64 s.po,.int .i64 s.pr,.int .i64 s.re,.int .i64 s.sw,.int .i64 s.fi,.int .i64 s.la,.int .i64 s.rs,.slice A n c],.slice A' N c',.slice AZ NZ cZ,.int .i64 (co:Int),.int .i64 0] W fun e w'=>e=.returned (.int .i64 (blkV s R Z co 0))∧But No W w'):=hid (fun W hb=>CB.out W (HB0.out.trans hb))
   have CT:Hid (∀ W bl rl,But No wr W→Calls Tryz.prog 58 #[.slice AW q cW,.int .i64 bl,.int .i64 rl] W fun e w'=>e=.returned (.int .i64 (dem.testV (l.map (wkOf s R)) bl rl))∧But No W w'):=hid (fun W bl rl hb=>dem.rtest_any AW q cW (l.map (wkOf s R)) bl rl W (HRW.out.no hb))
   obtain⟨k0,k1,k2,k3,k4,k5,k6,k7,k8⟩:=sys_cells (s:=s) (BS.out.but HBW.out (fun f=>f))
   have KEEP:Hid (∀ w',But No wr w'→S9 w' w.heap.size s A n c∧But No wr w'):=hid (fun w' hb=>⟨⟨cell_keep k0 hb,cell_keep k1 hb,cell_keep k2 hb,cell_keep k3 hb,cell_keep k4 hb,cell_keep k5 hb,cell_keep k6 hb,cell_keep k7 hb,cell_keep k8 hb⟩,hb⟩)
   clear CO CB hlen htk hrw HRG HOW hqe
   generalize blkV s R Z co 0=BL at CB2 HEV
   have CT2:=hid (fun W hb=>CT.out W BL s.re hb)
   rw[HEV.out] at CT2
   clear CT
   go_upto_region 7 with fail
   go_region_held3 (fun w'=>S9 w' w.heap.size s A n c∧But No wr w')
    (first | exact KEEP.out _ (But.refl No wr) | exact KEEP.out _ (But.refl No wr).drew | exact KEEP.out _ HB5.out | exact KEEP.out _ HB6.out)
    (first | (go_at_call 59;(with_reducible refine(CB2.out _ (HBW.out.trans (But.refl No wr).drew)).mono ?_);rintro e w5 ⟨rfl,hb5⟩;have HB5:Hid (But No wr w5):=hid ((But.refl No wr).drew.trans hb5);clear hb5) | (go_at_call 58;(with_reducible refine(CT2.out _ HB5.out).mono ?_);rintro e w6 ⟨rfl,hb6⟩;have HB6:Hid (But No wr w6):=hid (HB5.out.trans hb6);clear hb6))
   rename_i hHeld
   clear hHeld
   go_wp2_with fail
   go_ret
   exact⟨rfl,HB0.out.trans (HBW.out.trans HB6.out)⟩
end Go.Proofs.YtjfaiaipojfhgaaGreat.pln
end
