/- PlaceOrders: the walk, and the walk upon the program's own calls. -/
import Derived.Test.YtlecikdjoekknaaGreatM05
import Derived.Test.YtlecikdjoekknaaGreatM17
import Derived.Test.YtlecikdjoekknaaGreatM37
import Derived.Test.YtlecikdjoekknaaGreatM39
import Derived.Test.YtlecikdjoekknaaGreatM42
import Derived.Test.YtlecikdjoekknaaGreatM43
import Derived.Test.YtlecikdjoekknaaGreatM44
import Derived.Test.YtlecikdjoekknaaGreatM52
section
namespace Go.Proofs.YtlecikdjoekknaaGreat.pln
set_option linter.unusedVariables false
set_option linter.unusedSimpArgs false
open Go.ChangeShapes Go.WideShapes Go.ChangeAt Go.RowKit Go.Deep val ter
abbrev OrderIs : Prop:=∀ (s:Sys) (A:Option Addr) (n c:Nat) (w:World),RSys w A n c s→Calls Tryz.prog 11 #[sysV s A n c] w fun e w'=>(right s=false∧e=.returned (.tuple #[.slice none 0 0,.int .i64 1])∧But No w w')∨(right s=true∧∃ v,e=.returned (.tuple #[v,.int .i64 0])∧But No w w'∧Ov w' v ((ordN s n).map (fun i:Nat=>(i:Int))))
theorem bo_cm {s:Sys} {a b:Nat} {t u:Tsk} (h:Bo s a b) (ha:s.ts[a]? = some t) (hb:s.ts[b]? = some u) (ht:1≤t.w∧1≤t.p) (hu:1≤u.w∧1≤u.p):qar.cmV t.w t.p u.w u.p=1∨(qar.cmV t.w t.p u.w u.p=0∧a<b):=by
 unfold Bo lhO at h
 rw[getT ha,getT hb] at h
 unfold qar.cmV qar.sgn
 rw[if_neg (by omega)]
 rcases h with h | ⟨h,h2⟩
 ·left;rw[if_neg (by omega),if_pos h]
 ·right;exact⟨by rw[if_neg (by omega),if_neg (by omega)],h2⟩
theorem infoBo : (Tryz.prog.info? 4).map (fun i=>(i.zero,i.size,i.bytes))=some (some (.bool false),1,1):=by kernel_rfl
namespace placeOrders
set_option maxRecDepth 100000 in
set_option maxHeartbeats 16000000 in
theorem walk (P:PlaceIs) (O:OrderIs) (s:Sys) (A:Option Addr) (c:Nat) (w:World) (hs:RSys w A s.ts.length c s) :
  Calls Tryz.prog 6 #[sysV s A s.ts.length c] w fun e w'=>e=.returned (.bool true)∧But No w w':=by
 have CX:Hid (∀ W,Calls Tryz.prog 10 #[] W fun e w'=>e=.returned (.bool true)∧But No W w'):=Lib.hid (fun W=>examples_ok P W)
 have CR:Hid (∀ W,But No w W→Calls Tryz.prog 16 #[sysV s A s.ts.length c] W fun e w'=>e=.returned (.bool (right s))∧But No W w'):=Lib.hid (fun W hb=>right_any s A _ c W (hs.no hb))
 have hB0:=(But.refl No w).alloc (.cells (boxS s A s.ts.length c) 24)
 have hS0:=Lib.hid (Blk.new w (boxS s A s.ts.length c) 24)
 have HB0:=Lib.hid hB0
 have BK:Hid (∀ W,But No (w.alloc (.cells (boxS s A s.ts.length c) 24)) W→S9 W w.heap.size s A s.ts.length c):=Lib.hid (fun W hb=>sys_cells (hS0.out.but hb (fun f=>f)))
 clear hB0 hS0
 cases hr:right s with
 | false =>
  have CO:Hid (∀ W,But No w W→Calls Tryz.prog 11 #[sysV s A s.ts.length c] W fun e w'=>e=.returned (.tuple #[.slice none 0 0,.int .i64 1])∧But No W w'):=Lib.hid (fun W hb=>(O s A _ c W (hs.no hb)).mono fun e w' h=>by
   rcases h with⟨_,h⟩ | ⟨h,_⟩
   ·exact h
   ·rw[hr] at h;cases h)
  rw[hr] at CR
  clear hr hs P O
  unfold sysV at CR CO ⊢
  unfold boxS at BK HB0
  go_enter Tryz.func6,Tryz.ntmps6
  go_upto_region 2 with(go_at_call 10;(with_reducible refine(CX.out _).mono ?_);rintro e w1 ⟨rfl,h1⟩)
  have H1:=Lib.hid h1
  obtain⟨c0,c1,c2,c3,c4,c5,c6,c7,c8⟩:=BK.out _ H1.out
  clear h1
  go_upto_region 3 with(go_at_call 11;(with_reducible refine(CO.out _ (HB0.out.trans H1.out)).mono ?_);rintro e w2 ⟨rfl,h2⟩)
  have H2:=Lib.hid (H1.out.trans h2)
  clear c0 c1 c2 c3 c4 c5 c6 c7 c8 h2
  obtain⟨c0,c1,c2,c3,c4,c5,c6,c7,c8⟩:=BK.out _ H2.out
  go_wp2_with (go_at_call 16;(with_reducible refine(CR.out _ (HB0.out.trans H2.out)).mono ?_);rintro e w3 ⟨rfl,h3⟩;have H3:=Lib.hid h3;clear h3)
  go_ret
  exact⟨rfl,HB0.out.trans (H2.out.trans H3.out)⟩
 | true =>
  have hn24:=(right_len hr).2.2.2.1
  have hn1:=(right_len hr).2.2.1
  have CO:Hid (∀ W,But No w W→Calls Tryz.prog 11 #[sysV s A s.ts.length c] W fun e w'=>∃ go co,e=.returned (.tuple #[.slice (some ⟨go,0,none⟩) s.ts.length co,.int .i64 0])∧But No W w'∧∀ (q i:Nat),(ordN s s.ts.length)[q]? = some i→w'.cell? ⟨go,q,none⟩=some (.int .i64 (i:Int))):=Lib.hid (fun W hb=>(O s A _ c W (hs.no hb)).mono fun e w' h=>by
   rcases h with⟨h,_⟩ | ⟨_,v,h1,h2,h3⟩
   ·rw[hr] at h;cases h
   ·have hl:((ordN s s.ts.length).map (fun i:Nat=>(i:Int))).length=s.ts.length:=by rw[List.length_map,ordN_len]
    unfold Ov at h3
    rw[hl] at h3
    obtain⟨go,co,rfl,_,_⟩:=World.ownsRow.form h3 (by omega)
    refine⟨go,co,h1,h2,fun q i hq=>?_⟩
    have:=World.ownsRow.cells (g:=go) h3 rfl q (.int .i64 (i:Int)) (by rw[List.map_map,List.getElem?_map,hq];rfl)
    rwa [add_plain,Nat.zero_add] at this)
  have HOR:Hid (∀ q,q<s.ts.length→∃ i t,(ordN s s.ts.length)[q]? = some i∧i<s.ts.length∧s.ts[i]? = some t∧(1≤t.w∧1≤t.p)∧i ∉ (ordN s s.ts.length).take q):=Lib.hid (fun q hq=>by
   have hq2:q<(ordN s s.ts.length).length:=by rw[ordN_len];exact hq
   have hi:=ordN_mem.1 (List.getElem_mem hq2)
   have ht:s.ts[(ordN s s.ts.length)[q]]? = some (s.ts[(ordN s s.ts.length)[q]]'hi):=List.getElem?_eq_getElem _
   have h6:=(right_parts hr).2 _ (List.mem_of_getElem? ht)
   unfold vTsk vHead at h6
   simp only[Bool.and_eq_true,wi_true] at h6
   refine⟨_,_,List.getElem?_eq_getElem hq2,hi,ht,by omega,fun hm=>?_⟩
   have hnd:=ordN_nodup (per_pos hr) (Nat.le_refl s.ts.length)
   obtain⟨j,hj,e⟩:=List.getElem_of_mem hm
   rw[List.getElem_take] at e
   have hj2:j<q:=by have:=hj;rw[List.length_take] at this;omega
   have:=(List.getElem_inj (h₀:=by omega) (h₁:=hq2) hnd).1 e
   omega)
  have HBO:Hid (∀ q a b t u,(ordN s s.ts.length)[q]? = some a→(ordN s s.ts.length)[q+1]? = some b→s.ts[a]? = some t→s.ts[b]? = some u→(1≤t.w∧1≤t.p)→(1≤u.w∧1≤u.p)→qar.cmV t.w t.p u.w u.p=1∨(qar.cmV t.w t.p u.w u.p=0∧a<b)):=Lib.hid (fun q a b t u h1 h2 h3 h4 h5 h6=>by
   obtain⟨l1,e1⟩:=List.getElem?_eq_some_iff.1 h1
   obtain⟨l2,e2⟩:=List.getElem?_eq_some_iff.1 h2
   have:=(List.pairwise_iff_getElem.1 (ordN_sorted (per_pos hr) _ (Nat.le_refl s.ts.length))) q (q+1) l1 l2 (by omega)
   rw[e1,e2] at this
   exact bo_cm this h3 h4 h5 h6)
  have HTK:Hid (∀ W,But No w W→RTsk W A s.ts.length s.ts):=Lib.hid (fun W hb=>(hs.no hb).ts)
  have HTF:Hid (∀ t ∈ s.ts,inR t.p∧inR t.d∧inR t.w):=Lib.hid hs.ts.fit
  have CMP:Hid (∀ (a b c d:Int) (W:World),inR a→inR b→inR c→inR d→Calls Tryz.prog 19 #[.int .i64 a,.int .i64 b,.int .i64 c,.int .i64 d] W fun e w'=>e=.returned (.tuple #[.int .i64 (qar.cmV a b c d),.int .i64 (qar.cmE a b c d)])∧But No W w'):=Lib.hid (fun a b c d W h1 h2 h3 h4=>(qar.cmp_any a b c d h1 h2 h3 h4 W).mono fun e w' ⟨h5,h6⟩=>⟨h5,h6.butNo⟩)
  rw[hr] at CR
  obtain⟨i4,hi0,hz0,hz1,hz2⟩:=info_parts infoBo
  have I4:Hid (Tryz.prog.info? 4=some i4∧i4.zero=some (.bool false)∧i4.size=1∧i4.bytes=1):=⟨hi0,hz0,hz1,hz2⟩
  clear hi0 hz0 hz1 hz2
  generalize hnn:s.ts.length=n at *
  generalize ordN s n=O1 at CO HOR HBO
  clear hr hs P O hnn
  unfold sysV at CR CO ⊢
  unfold boxS at BK HB0
  go_enter Tryz.func6,Tryz.ntmps6
  go_upto_region 2 with(go_at_call 10;(with_reducible refine(CX.out _).mono ?_);rintro e w1 ⟨rfl,h1⟩)
  have H1:=Lib.hid h1
  obtain⟨c0,c1,c2,c3,c4,c5,c6,c7,c8⟩:=BK.out _ H1.out
  clear h1
  go_upto_region 3 with(go_at_call 11;(with_reducible refine(CO.out _ (HB0.out.trans H1.out)).mono ?_);rintro e w2 ⟨go,co,rfl,h2,hg⟩)
  have H2:=Lib.hid (H1.out.trans h2)
  have HG:=Lib.hid hg
  clear c0 c1 c2 c3 c4 c5 c6 c7 c8 h2 hg
  obtain⟨c0,c1,c2,c3,c4,c5,c6,c7,c8⟩:=BK.out _ H2.out
  go_upto_region 5 with(go_at_call 16;(with_reducible refine(CR.out _ (HB0.out.trans H2.out)).mono ?_);rintro e w3 ⟨rfl,h3⟩)
  have H3:=Lib.hid h3
  clear c0 c1 c2 c3 c4 c5 c6 c7 c8 h3
  obtain⟨c0,c1,c2,c3,c4,c5,c6,c7,c8⟩:=BK.out _ (H2.out.trans H3.out)
  clear CX CR CO H1
  have hn0:(0:Int)≤(n:Int):=Int.natCast_nonneg n
  go_upto_region 8 with(at_make;refine wpList_make_full _ rfl _ _ 50 rfl 0 4 i4 _ 1 Tryz.underlying50 I4.out.1 I4.out.2.1 I4.out.2.2.1 .i64 .i64 _ _ n rfl rfl rfl rfl (by rw[I4.out.2.2.2];omega) (by unfold maxLen;omega) (Nat.zero_le _) ?_;intro w4 hown hgrow;have hb4:=(But.refl No w3).grown hgrow (fun k e=>by cases e);have HV4:Hid (Vals w4 w3.heap.size 4 n (fun _=>.bool false)):=Lib.hid (vals_made1 rfl hown);have HB4:=Lib.hid hb4;clear hown hgrow hb4 c0 c1 c2 c3 c4 c5 c6 c7 c8)
  obtain⟨g,hgg⟩:∃ g,w3.heap.size=g:=⟨_,rfl⟩
  have hw3g:w2.heap.size≤g:=by rw[←hgg];exact H3.out.size
  have hwg:w.heap.size<g:=by have:=(H2.out.trans H3.out).size;rw[size_alloc1] at this;omega
  rw[hgg] at HV4 ⊢
  have HB3:Hid (But No w2 w4):=Lib.hid (H3.out.trans HB4.out)
  clear HB4 hgg H3
  go_wp2_with fail
  go_loopw [7] (fun x wr=>∃ q:Nat,x=.int .i64 (q:Int)∧q≤n∧Hid (But No w2 wr)∧Hid (Vals wr g 4 n (fun j=>.bool (decide (j ∈ O1.take q))))) (fun x _=>n-(intOf x).toNat)
  case atStart=>exact⟨0,rfl,by omega,HB3.out,HV4.out.congr (fun j hj=>by simp)⟩
  case round =>
   clear HV4 HB3
   obtain⟨q,rfl,hq,HBR,HV⟩:=hrel
   have hq0:(0:Int)≤(q:Int):=Int.natCast_nonneg q
   by_cases hqn:q<n
   ·have hqn2:(q:Int)<(n:Int):=by omega
    obtain⟨i,t,hoi,hin,ht,htw,hnm⟩:=HOR.out q hqn
    have hi0:(0:Int)≤(i:Int):=Int.natCast_nonneg i
    have hin2:(i:Int)<(n:Int):=by omega
    have g0:=cell_keep (HG.out q i hoi) HBR.out
    have y0:=HV.out.cell hin
    have z0:=HV.out.frozen i
    rw[decide_eq_false hnm] at y0
    have k1:decide ((i:Int)<0)=false:=by simp
    have k2:decide ((n:Int)≤(i:Int))=false:=by simp;omega
    have k3:¬(i:Int)<0:=by omega
    have k4:¬(n:Int)≤(i:Int):=by omega
    have HN:Hid (∀ v,v=Value.bool true→Vals (wr.setCell ⟨g,i,none⟩ v) g 4 n (fun j=>.bool (decide (j ∈ O1.take (q+1))))∧But No w2 (wr.setCell ⟨g,i,none⟩ v)):=Lib.hid (fun v hv=>by
     subst hv
     refine⟨(HV.out.set (k:=i) _).congr (fun j hj=>?_),HBR.out.setNew (p:=⟨g,i,none⟩) hw3g _⟩
     rw[List.take_add_one,hoi]
     by_cases e:j=i
     ·subst e;rw[if_pos rfl];simp
     ·rw[if_neg e];simp[e])
    have HT:=Lib.hid (And.intro hoi ht)
    have HNM:=Lib.hid hnm
    clear HV hoi ht hnm
    rcases Nat.eq_zero_or_pos q with hz | hz
    ·subst hz
     go_wp2_with fail
     go_roundw
     case rel=>exact⟨1,by first | rfl | go_num,by omega,(HN.out _ rfl).2,(HN.out _ rfl).1⟩
     case measure=>simp[intOf];omega
    ·have m0:((q:Int) == 0)=false:=by rw[beq_eq_false_iff_ne];omega
     have m1:¬(q:Int)=0:=by omega
     go_upto_region 15 with fail
     obtain⟨W1,hW1⟩:∃ W1,wr.setCell ⟨g,i,none⟩ (.bool true)=W1:=⟨_,rfl⟩
     have hn1:=HN.out _ rfl
     rw[hW1] at hn1 ⊢
     have HV1:=Lib.hid hn1.1
     have HB1:=Lib.hid hn1.2
     clear hn1 HN g0 y0 z0 hW1 k1 k2 k3 k4 m0 m1
     obtain⟨p,hp⟩:∃ p,q=p+1:=⟨q-1,by omega⟩
     have hp0:(0:Int)≤(p:Int):=Int.natCast_nonneg p
     have hpn:(p:Int)<(n:Int):=by omega
     have wr1:IntKind.i64.wrap ((q:Int)-1)=(p:Int):=by rw[IntKind.wrap_i64];omega
     obtain⟨j,u,hoj,hjn,hu,huw,_⟩:=HOR.out p (by omega)
     have HU:=Lib.hid (And.intro hoj hu)
     have hj0:(0:Int)≤(j:Int):=Int.natCast_nonneg j
     have hjn2:(j:Int)<(n:Int):=by omega
     obtain⟨bt,ot,At,ct,eT,t0,t1,t2,t3,_⟩:=(HTK.out W1 (HB0.out.trans (H2.out.trans HB1.out))).at1 hu
     have g1:=cell_keep (HG.out p j hoj) HB1.out
     obtain⟨c0,c1,c2,c3,c4,c5,c6,c7,c8⟩:=BK.out _ (H2.out.trans HB1.out)
     have HP:=Lib.hid hp
     clear hp hoj hu
     subst eT
     have hb1:∀ o,But No W1 (W1.alloc o):=fun o=>(But.refl No W1).alloc o
     have v0:=fun o=>cell_keep t0 (hb1 o)
     have v1:=fun o=>cell_keep t1 (hb1 o)
     have v2:=fun o=>cell_keep t2 (hb1 o)
     have v3:=fun o=>cell_keep t3 (hb1 o)
     have v4:=fun o=>cell_keep g1 (hb1 o)
     have v5:=fun o=>cell_keep c8 (hb1 o)
     clear hb1
     go_region
     obtain⟨W2,hW2⟩:∃ W2,(W1.alloc (.cells #[.int .i64 u.p,.int .i64 u.d,.int .i64 u.w,.slice At u.secs.length ct] 47)).drew=W2:=⟨_,rfl⟩
     obtain⟨ba,hba⟩:∃ ba,W1.heap.size=ba:=⟨_,rfl⟩
     have HX2:Hid (Blk W2 ba #[.int .i64 u.p,.int .i64 u.d,.int .i64 u.w,.slice At u.secs.length ct] 47):=Lib.hid (by rw[←hW2,←hba];exact Blk.new W1 _ _)
     have hb2:But No W1 W2:=by rw[←hW2];exact((But.refl No W1).alloc _).drew
     have hl2:ba<W2.heap.size:=HX2.out.lt
     rw[hW2,hba]
     have HV2:=Lib.hid (HV1.out.but hb2 (fun f=>f))
     have HB2:=Lib.hid (HB1.out.trans hb2)
     clear c0 c1 c2 c3 c4 c5 c6 c7 c8 v0 v1 v2 v3 v4 v5 t0 t1 t2 t3 g1 hW2 hba hb2 HV1 HB1
     obtain⟨bt,ot,At2,ct2,eT,t0,t1,t2,t3,_⟩:=(HTK.out W2 (HB0.out.trans (H2.out.trans HB2.out))).at1 HT.out.2
     have g1:=cell_keep (HG.out q i HT.out.1) HB2.out
     obtain⟨c0,c1,c2,c3,c4,c5,c6,c7,c8⟩:=BK.out _ (H2.out.trans HB2.out)
     cases eT
     have hb1:∀ o,But No W2 (W2.alloc o):=fun o=>(But.refl No W2).alloc o
     have v0:=fun o=>cell_keep t0 (hb1 o)
     have v1:=fun o=>cell_keep t1 (hb1 o)
     have v2:=fun o=>cell_keep t2 (hb1 o)
     have v3:=fun o=>cell_keep t3 (hb1 o)
     have v4:=fun o=>cell_keep g1 (hb1 o)
     have v5:=fun o=>cell_keep c8 (hb1 o)
     clear hb1
     go_upto_region 16 with fail
     go_region
     obtain⟨W3,hW3⟩:∃ W3,(W2.alloc (.cells #[.int .i64 t.p,.int .i64 t.d,.int .i64 t.w,.slice At2 t.secs.length ct2] 47)).drew=W3:=⟨_,rfl⟩
     obtain⟨bb,hbb⟩:∃ bb,W2.heap.size=bb:=⟨_,rfl⟩
     have HX3:Hid (Blk W3 bb #[.int .i64 t.p,.int .i64 t.d,.int .i64 t.w,.slice At2 t.secs.length ct2] 47):=Lib.hid (by rw[←hW3,←hbb];exact Blk.new W2 _ _)
     have hb3:But No W2 W3:=by rw[←hW3];exact((But.refl No W2).alloc _).drew
     rw[hW3,hbb]
     have HX2b:=Lib.hid (HX2.out.but hb3 (fun f=>f))
     have HV3:=Lib.hid (HV2.out.but hb3 (fun f=>f))
     have HB3:=Lib.hid (HB2.out.trans hb3)
     clear c0 c1 c2 c3 c4 c5 c6 c7 c8 v0 v1 v2 v3 v4 v5 t0 t1 t2 t3 g1 hW3 hbb hb3 HV2 HB2 hl2 HX2
     have x0:W3.cell? ⟨ba,0,none⟩=some (.int .i64 u.p):=HX2b.out.cell rfl
     have x2:W3.cell? ⟨ba,2,none⟩=some (.int .i64 u.w):=HX2b.out.cell rfl
     have y0:W3.cell? ⟨bb,0,none⟩=some (.int .i64 t.p):=HX3.out.cell rfl
     have y2:W3.cell? ⟨bb,2,none⟩=some (.int .i64 t.w):=HX3.out.cell rfl
     have fu:=HTF.out u (List.mem_of_getElem? HU.out.2)
     have ft:=HTF.out t (List.mem_of_getElem? HT.out.2)
     have hcm:=HBO.out p j i u t HU.out.1 (by rw[←HP.out];exact HT.out.1) HU.out.2 HT.out.2 huw htw
     have CM:=Lib.hid (fun W=>CMP.out u.w u.p t.w t.p W fu.2.2 fu.1 ft.2.2 ft.1)
     generalize qar.cmV u.w u.p t.w t.p=cm at hcm CM
     generalize qar.cmE u.w u.p t.w t.p=ce at CM
     clear fu ft
     go_upto_region 18 with(go_at_call 19;(with_reducible refine(CM.out _).mono ?_);rintro e W4 ⟨rfl,h4⟩)
     have HV4:=Lib.hid (HV3.out.but h4 (fun f=>f))
     have HB4:=Lib.hid (HB3.out.trans h4)
     clear x0 x2 y0 y2 h4 HV3 HB3 HX3 HX2b
     have g1:=cell_keep (HG.out p j HU.out.1) HB4.out
     have g2:=cell_keep (HG.out q i HT.out.1) HB4.out
     rcases hcm with rfl | ⟨rfl,hji⟩
     ·go_quiet (fail)
      go_wp2
      go_roundw
      case rel=>exact⟨q+1,by first | rfl | go_num,by omega,by first | exact HB4.out | exact HB4.out.drew | exact HB4.out.drewN _,by first | exact HV4.out | exact HV4.out.but (But.refl No _).drew (fun f=>f) | exact HV4.out.but ((But.refl No _).drewN _) (fun f=>f)⟩
      case measure=>simp[intOf];omega
     ·have k5:decide ((i:Int)<(j:Int))=false:=by simp;omega
      have k6:¬(i:Int)<(j:Int):=by omega
      go_quiet (fail)
      go_wp2
      go_roundw
      case rel=>exact⟨q+1,by first | rfl | go_num,by omega,by first | exact HB4.out | exact HB4.out.drew | exact HB4.out.drewN _,by first | exact HV4.out | exact HV4.out.but (But.refl No _).drew (fun f=>f) | exact HV4.out.but ((But.refl No _).drewN _) (fun f=>f)⟩
      case measure=>simp[intOf];omega
   ·have hqn2:¬(q:Int)<(n:Int):=by omega
    go_wp2
    go_ret
    exact⟨rfl,HB0.out.trans (H2.out.trans HBR.out)⟩
end placeOrders
end Go.Proofs.YtlecikdjoekknaaGreat.pln
end
section
namespace Go.Proofs.YtlecikdjoekknaaGreat.placeOrders
open val pln
theorem order_is : OrderIs:=fun s A n c w hs=>(order_any pls.cmp_grow s A n c w hs).mono fun e w' h=>by
 rcases h with h | ⟨h1,v,h2,h3,h4,_⟩
 ·exact .inl h
 ·exact .inr ⟨h1,v,h2,h3,h4⟩
theorem walk (s:Sys) (A:Option Addr) (c:Nat) (w:World) (hs:RSys w A s.ts.length c s) :
  Calls Tryz.prog 6 #[sysV s A s.ts.length c] w fun e w'=>e=.returned (.bool true)∧But No w w' :=
 pln.placeOrders.walk place_is order_is s A c w hs
end Go.Proofs.YtlecikdjoekknaaGreat.placeOrders
end
