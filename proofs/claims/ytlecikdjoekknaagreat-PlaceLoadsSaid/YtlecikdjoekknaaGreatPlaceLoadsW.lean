/- PlaceLoads: the walk, and the walk upon the program's own calls. -/
import Derived.Test.YtlecikdjoekknaaGreatM05
import Derived.Test.YtlecikdjoekknaaGreatM17
import Derived.Test.YtlecikdjoekknaaGreatM37
import Derived.Test.YtlecikdjoekknaaGreatM39
import Derived.Test.YtlecikdjoekknaaGreatM42
import Derived.Test.YtlecikdjoekknaaGreatM43
import Derived.Test.YtlecikdjoekknaaGreatM44
import Derived.Test.YtlecikdjoekknaaGreatM52
section
namespace Go.Proofs.YtlecikdjoekknaaGreat.pln
set_option linter.unusedVariables false
set_option linter.unusedSimpArgs false
open Go.ChangeShapes Go.WideShapes Go.ChangeAt Go.RowKit Go.Deep val ter
theorem plc_rk {s:Sys} {R:List (List Pc)} {b:List Int} (h:plcV s=(R,b,0)):rkV s R=R:=by
 rcases plc_cases s with⟨_,e⟩ | ⟨_,x,hx,e⟩ | ⟨_,L,hp,e⟩
 ·rw[e] at h;cases h
 ·rw[e] at h;rcases hx with rfl | rfl | rfl <;> cases h
 ·rw[e] at h
  cases h
  exact rkV_rk s L
theorem tm_nn {z t:Int} (hz:0≤z) (ht:0<t):0≤qar.tm z t:=by
 unfold qar.tm qar.mdQ
 have h1:=Int.ediv_nonneg (a:=z*4294967296) (b:=t) (Int.mul_nonneg hz (by omega)) (by omega)
 split <;> omega
theorem smF_nn {f:Ap→Int}:∀ {l:List Ap},(∀ y ∈ l,0≤f y)→0≤smF f l
 | [],_=>Int.le_refl _
 | y :: l,h=>by
  have h1:=h y List.mem_cons_self
  have h2:=smF_nn (l:=l) (fun z hz=>h z (List.mem_cons_of_mem _ hz))
  rw[smF];omega
def budA (X:List Ap):List Int:=X.map (fun y=>y.p.bu)
def perA (s:Sys) (X:List Ap):List Int:=X.map (perO s)
theorem ld_ap (s:Sys):∀ (X:List Ap) (a:Int),0≤a→(∀ y ∈ X,0≤qar.tm y.p.bu (perO s y))→a+smF (fun y=>qar.tm y.p.bu (perO s y)) X≤9223372036854775807→qar.ldGo a ((budA X).zip (perA s X))=(a+smF (fun y=>qar.tm y.p.bu (perO s y)) X,0)
 | [],a,_,_,_=>by show (a,(0:Int))=(a+0,0);rw[Int.add_zero]
 | y :: X,a,h0,hy,hm=>by
  have h1:=hy y List.mem_cons_self
  have h2:=smF_nn (f:=fun y=>qar.tm y.p.bu (perO s y)) (l:=X) (fun z hz=>hy z (List.mem_cons_of_mem _ hz))
  rw[smF] at hm ⊢
  have ih:=ld_ap s X (a+qar.tm y.p.bu (perO s y)) (by omega) (fun z hz=>hy z (List.mem_cons_of_mem _ hz)) (by omega)
  show (if inR (qar.tm y.p.bu (perO s y)) then (if inR (a+qar.tm y.p.bu (perO s y)) then qar.ldGo (a+qar.tm y.p.bu (perO s y)) ((budA X).zip (perA s X)) else (0,2)) else (0,2))=_
  rw[if_pos (by unfold inR;omega),if_pos (by unfold inR;omega),ih,Int.add_assoc]
theorem ld_core {s:Sys} {R:List (List Pc)} (h:plR s R=true) (hrk:rkV s R=R) (herr:(erN s (rkV s R) (ceV s R) s.co.toNat).2=0) {c:Nat} (hc:c<s.co.toNat) :
  (qar.ldE (budA (apS (c:Int) R)) (perA s (apS (c:Int) R))=0∧qar.ldV (budA (apS (c:Int) R)) (perA s (apS (c:Int) R))≤4294967296+((apS (c:Int) R).length:Int))∧(∀ k,inR ((budA (apS (c:Int) R)).getD k 0))∧∀ k,inR ((perA s (apS (c:Int) R)).getD k 0):=by
 have h1:=load_core h herr hc
 have hf:=fun y=>ap_facts h (c:=c) (y:=y)
 rw[hrk] at h1 hf
 have hlen:(apS (c:Int) R).length≤8*R.length:=by
  have:=apN_len (c:=(c:Int)) (L:=R) (B:=8) (fun l hl=>by
   obtain⟨i,hi⟩:=List.mem_iff_getElem?.1 hl
   exact(okL_sm (okS_at (plR_parts h).2.2 hi) (by
    have hi2:=(List.getElem?_eq_some_iff.1 hi).1
    have e2:s.ts[i]? = some (s.ts[i]'(by rw[←(plR_parts h).2.1];exact hi2)):=List.getElem?_eq_getElem _
    rw[getT e2]
    exact((right_nums (plR_parts h).1).2.2.2 _ (List.mem_of_getElem? e2)).1.1)).2.1) R.length (Nat.le_refl _)
  unfold apS;omega
 have hRl:R.length≤24:=by rw[(plR_parts h).2.1];exact(right_nums (plR_parts h).1).2.2.1
 generalize apS (c:Int) R=X at h1 hf hlen
 have hg:∀ y ∈ X,(0≤y.p.bu∧y.p.bu≤1099511627776)∧1≤perO s y∧perO s y≤1099511627776:=fun y hy=>by
  obtain⟨_,_,t,_,_,_,_,_,hb,ht,_,_,_,_,e⟩:=hf y hy
  rw[e];omega
 have hok:qar.okL (budA X) (perA s X)=true:=by
  unfold qar.okL
  rw[Bool.and_eq_true,List.all_eq_true]
  refine⟨by simp[budA,perA],fun k hk=>?_⟩
  have hk2:k<X.length:=by have:=List.mem_range.1 hk;unfold budA at this;rwa [List.length_map] at this
  have:=hg X[k] (List.getElem_mem hk2)
  have e1:(budA X).getD k 0=X[k].p.bu:=by simp[budA,List.getD,List.getElem?_eq_getElem hk2]
  have e2:(perA s X).getD k 0=perO s X[k]:=by simp[perA,List.getD,List.getElem?_eq_getElem hk2]
  rw[e1,e2,Bool.and_eq_true,decide_eq_true_eq,decide_eq_true_eq]
  omega
 have h2:=ld_ap s X 0 (Int.le_refl _) (fun y hy=>tm_nn (hg y hy).1.1 (by have:=(hg y hy).2.1;omega)) (by omega)
 obtain⟨e1,e2⟩:=qar.ld_good hok
 rw[h2] at e1 e2
 refine⟨⟨e2,by rw[e1];dsimp only;omega⟩,fun k=>?_,fun k=>?_⟩
 ·by_cases hk:k<X.length
  ·have:=hg X[k] (List.getElem_mem hk)
   have e1:(budA X).getD k 0=X[k].p.bu:=by simp[budA,List.getD,List.getElem?_eq_getElem hk]
   rw[e1];unfold inR;omega
  ·have e1:(budA X).getD k 0=0:=by simp[budA,List.getD,List.getElem?_eq_none (show X.length≤k by omega)]
   rw[e1];exact inR_small (by omega)
 ·by_cases hk:k<X.length
  ·have:=hg X[k] (List.getElem_mem hk)
   have e1:(perA s X).getD k 0=perO s X[k]:=by simp[perA,List.getD,List.getElem?_eq_getElem hk]
   rw[e1];unfold inR;omega
  ·have e1:(perA s X).getD k 0=0:=by simp[perA,List.getD,List.getElem?_eq_none (show X.length≤k by omega)]
   rw[e1];exact inR_small (by omega)
namespace placeLoads
set_option maxRecDepth 100000 in
set_option maxHeartbeats 16000000 in
theorem walk (P:PlaceIs) (s:Sys) (A:Option Addr) (c:Nat) (w:World) (hs:RSys w A s.ts.length c s) :
  Calls Tryz.prog 7 #[sysV s A s.ts.length c] w fun e w'=>e=.returned (.bool true)∧But No w w':=by
 have CX:Hid (∀ W,Calls Tryz.prog 10 #[] W fun e w'=>e=.returned (.bool true)∧But No W w'):=Lib.hid (fun W=>examples_ok P W)
 have hB0:=(But.refl No w).alloc (.cells (boxS s A s.ts.length c) 24)
 have hS0:=Lib.hid (Blk.new w (boxS s A s.ts.length c) 24)
 have HB0:=Lib.hid hB0
 have BK:Hid (∀ W,But No (w.alloc (.cells (boxS s A s.ts.length c) 24)) W→S9 W w.heap.size s A s.ts.length c):=Lib.hid (fun W hb=>sys_cells (hS0.out.but hb (fun f=>f)))
 clear hB0 hS0
 rcases plc_ans s with⟨x,hx,hx0,hx1⟩ | ⟨hr,R,hp,hx,hbl,hrl,hpr,hc1,hc2⟩
 ·have CP:Hid (∀ W,But No w W→Calls Tryz.prog 14 #[sysV s A s.ts.length c] W fun e w'=>∃ A1 c1 B k,e=.returned (.tuple #[.slice A1 0 c1,.slice B 0 k,.int .i64 x])∧But No W w'):=Lib.hid (fun W hb=>(P s A _ c W (hs.no hb)).mono fun e w' ⟨A1,N1,c1,B,k,h1,h2,h3,h4⟩=>by
   rw[hx] at h1 h3
   obtain rfl:0=N1:=h3.len
   exact⟨A1,c1,B,k,h1,h2⟩)
  have hx2:(x != 0)=true:=by rw[bne,hx0];rfl
  clear hx hx1 hs P
  unfold sysV at CP ⊢
  unfold boxS at BK HB0
  go_enter Tryz.func7,Tryz.ntmps7
  go_upto_region 2 with(go_at_call 10;(with_reducible refine(CX.out _).mono ?_);rintro e w1 ⟨rfl,h1⟩)
  have H1:=Lib.hid h1
  obtain⟨c0,c1,c2,c3,c4,c5,c6,c7,c8⟩:=BK.out _ H1.out
  clear h1
  go_wp2_with (go_at_call 14;(with_reducible refine(CP.out _ (HB0.out.trans H1.out)).mono ?_);rintro e w2 ⟨A1,k1,B,k,rfl,h2⟩;have H2:=Lib.hid h2;clear h2)
  go_ret
  exact⟨rfl,HB0.out.trans (H1.out.trans H2.out)⟩
 ·have CP:Hid (∀ W,But No w W→Calls Tryz.prog 14 #[sysV s A s.ts.length c] W fun e w'=>∃ A1 c1 B k,e=.returned (.tuple #[.slice A1 s.ts.length c1,.slice B s.ts.length k,.int .i64 0])∧But No W w'∧RPl w' A1 s.ts.length R):=Lib.hid (fun W hb=>(P s A _ c W (hs.no hb)).mono fun e w' ⟨A1,N1,c1,B,k,h1,h2,h3,h4⟩=>by
   rw[hx] at h1 h3
   dsimp only at h1 h3
   rw[hbl] at h1
   obtain rfl:s.ts.length=N1:=by rw[←hrl];exact h3.len
   exact⟨A1,c1,B,k,h1,h2,h3⟩)
  obtain⟨hco,hla,hn24,htn⟩:=right_nums hr
  have hrk:rkV s R=R:=plc_rk hx
  have herr:=(good_right hp.g).2.1
  have HLD:Hid (∀ q:Nat,(q:Int)<s.co→(qar.ldE (budA (apS (q:Int) R)) (perA s (apS (q:Int) R))=0∧qar.ldV (budA (apS (q:Int) R)) (perA s (apS (q:Int) R))≤4294967296+((apS (q:Int) R).length:Int))∧(∀ k,inR ((budA (apS (q:Int) R)).getD k 0))∧∀ k,inR ((perA s (apS (q:Int) R)).getD k 0)):=Lib.hid (fun q hq=>ld_core hpr hrk herr (by omega))
  have HROW:Hid (∀ i,i<s.ts.length→∃ l t,R[i]? = some l∧s.ts[i]? = some t∧l.length≤8∧∀ q:Int,(apN q R i).length≤i*8):=Lib.hid (fun i hi=>by
   have e1:R[i]? = some (R[i]'(by omega)):=List.getElem?_eq_getElem _
   have e2:s.ts[i]? = some s.ts[i]:=List.getElem?_eq_getElem hi
   obtain⟨_,g2,_⟩:=hp.row e1 e2
   refine⟨_,_,e1,e2,g2,fun q=>apN_len (fun l hl=>?_) i (by omega)⟩
   obtain⟨j,hj⟩:=List.mem_iff_getElem?.1 hl
   have hj2:=(List.getElem?_eq_some_iff.1 hj).1
   exact(hp.row hj (List.getElem?_eq_getElem (by omega:j<s.ts.length))).2.1)
  have HAS:Hid (∀ q:Int,apN q R s.ts.length=apS q R∧(apS q R).length≤192):=Lib.hid (fun q=>by
   have:=apN_len (c:=q) (L:=R) (B:=8) (fun l hl=>by
    obtain⟨j,hj⟩:=List.mem_iff_getElem?.1 hl
    have hj2:=(List.getElem?_eq_some_iff.1 hj).1
    exact(hp.row hj (List.getElem?_eq_getElem (by omega:j<s.ts.length))).2.1) R.length (Nat.le_refl _)
   unfold apS
   exact⟨by rw[hrl],by omega⟩)
  have HTK:Hid (∀ W,But No w W→RTsk W A s.ts.length s.ts):=Lib.hid (fun W hb=>(hs.no hb).ts)
  have CL:Hid (∀ (a b:Option Addr) (k d:Nat) (X:List Ap) (W:World),Rl W a X.length (budA X)→Rl W b X.length (perA s X)→(∀ k,inR ((budA X).getD k 0))→(∀ k,inR ((perA s X).getD k 0))→Calls Tryz.prog 20 #[.slice a X.length k,.slice b X.length d] W fun e w'=>e=.returned (.tuple #[.int .i64 (qar.ldV (budA X) (perA s X)),.int .i64 (qar.ldE (budA X) (perA s X))])∧But No W w'):=Lib.hid (fun a b k d X W h1 h2 h3 h4=>(qar.load_any a b _ _ k d _ _ W ⟨h1.len,h1.max,h1.at_,h3⟩ ⟨h2.len,h2.max,h2.at_,h4⟩).mono fun e w' ⟨h5,h6⟩=>⟨h5,h6.butNo⟩)
  obtain⟨i3,hi0,hz0,hz1,hz2⟩:=info_parts info3
  have I3:Hid (Tryz.prog.info? 3=some i3∧i3.zero=some (.int .i64 0)∧i3.size=1∧i3.bytes=8):=⟨hi0,hz0,hz1,hz2⟩
  clear hi0 hz0 hz1 hz2
  generalize hnn:s.ts.length=n at *
  clear hx hbl hrl hpr hc1 hc2 hs P hp hrk herr htn
  unfold sysV at CP ⊢
  unfold boxS at BK HB0
  go_enter Tryz.func7,Tryz.ntmps7
  go_upto_region 2 with(go_at_call 10;(with_reducible refine(CX.out _).mono ?_);rintro e w1 ⟨rfl,h1⟩)
  have H1:=Lib.hid h1
  obtain⟨c0,c1,c2,c3,c4,c5,c6,c7,c8⟩:=BK.out _ H1.out
  clear h1
  go_upto_region 5 with(go_at_call 14;(with_reducible refine(CP.out _ (HB0.out.trans H1.out)).mono ?_);rintro e w2 ⟨A1,k1,B,k,rfl,h2,r2⟩)
  have H2:=Lib.hid (H1.out.trans h2)
  have R2:=Lib.hid r2
  clear c0 c1 c2 c3 c4 c5 c6 c7 c8 h2 r2
  obtain⟨c0,c1,c2,c3,c4,c5,c6,c7,c8⟩:=BK.out _ H2.out
  clear CX CP H1
  go_wp2_with fail
  go_loopw [7] (fun x wr=>∃ q:Nat,x=.int .i64 (q:Int)∧(q:Int)≤s.co∧Hid (But No w2 wr)) (fun x _=>s.co.toNat-(intOf x).toNat)
  case atStart=>exact⟨0,rfl,by omega,But.refl No _⟩
  case round =>
   clear c0 c1 c2 c3 c4 c5 c6 c7 c8
   obtain⟨q,rfl,hq,HB6⟩:=hrel
   obtain⟨V1,rfl⟩:∃ V1,V1=wr:=⟨_,rfl⟩
   have hq0:(0:Int)≤(q:Int):=Int.natCast_nonneg q
   obtain⟨c0,c1,c2,c3,c4,c5,c6,c7,c8⟩:=BK.out _ (H2.out.trans HB6.out)
   by_cases hqc:(q:Int)<s.co
   ·have hq8:(q:Int)<8:=by omega
    obtain⟨⟨hle,hlv⟩,hf1,hf2⟩:=HLD.out q hqc
    obtain⟨hap,hal⟩:=HAS.out (q:Int)
    have HLX:=Lib.hid (And.intro hle (And.intro hf1 hf2))
    have HAP:=Lib.hid hap
    clear hle hf1 hf2 hap
    go_wp2_with fail
    go_loopw [8,9,10] (fun u v x wr=>∃ (va vb:Value) (i z:Nat),u=va∧v=vb∧x=.int .i64 (i:Int)∧i≤n∧Hid (z=(apN (q:Int) R i).length)∧Hid (T2 3 1 V1 wr va vb z z ((budA (apN (q:Int) R i)).map (Value.int .i64)) ((perA s (apN (q:Int) R i)).map (Value.int .i64)))) (fun _ _ x _=>n-(intOf x).toNat)
    case atStart=>exact⟨_,_,0,0,rfl,rfl,rfl,by omega,rfl,T2.start _ _ V1⟩
    case round =>
     clear c0 c1 c2 c3 c4 c5 c6 c7 c8
     obtain⟨va,vb,i,z,hu,hv,rfl,hi,HZ,HT⟩:=hrel
     have hu':=hu.symm
     subst hu'
     have hv':=hv.symm
     subst hv'
     have hi0:(0:Int)≤(i:Int):=Int.natCast_nonneg i
     by_cases hin:i<n
     ·have hin2:(i:Int)<(n:Int):=by omega
      obtain⟨l,t,hl,ht,hl8,hap8⟩:=HROW.out i hin
      have hz8:=hap8 (q:Int)
      have HAN:=Lib.hid (apN_next (c:=(q:Int)) hl)
      have HPO:Hid ((s.ts.getD i ts0).p=t.p):=Lib.hid (by rw[getT ht])
      obtain⟨ba,oa,Aa,ca,eA,_,e0,_,ra⟩:=(R2.out.no HB6.out).at1 hl
      obtain⟨bt,ot,At,ct,eT,t0,t1,t2,t3,_⟩:=(HTK.out V1 (HB0.out.trans (H2.out.trans HB6.out))).at1 ht
      subst eA eT
      have RA:=Lib.hid ra
      have E0:=Lib.hid e0
      have T0:=Lib.hid t0
      obtain⟨m1,hm1⟩:∃ m1,l.length=m1:=⟨_,rfl⟩
      rw[hm1] at E0 RA hl8 HAN
      have HML:=Lib.hid hm1
      clear hm1 hap8 hl ht ra e0 t0 t1 t2 t3
      go_wp2_with fail
      go_loopw [8,9,11] (fun u v x wr=>∃ (va vb:Value) (k z:Nat),u=va∧v=vb∧x=.int .i64 (k:Int)∧k≤m1∧Hid (z=(apN (q:Int) R i ++ apL (q:Int) i l k).length)∧Hid (T2 3 1 V1 wr va vb z z ((budA (apN (q:Int) R i ++ apL (q:Int) i l k)).map (Value.int .i64)) ((perA s (apN (q:Int) R i ++ apL (q:Int) i l k)).map (Value.int .i64)))) (fun _ _ x _=>m1-(intOf x).toNat)
      case atStart=>exact⟨_,_,0,_,rfl,rfl,rfl,by omega,by rw[apL,List.append_nil];exact HZ.out,by rw[apL,List.append_nil];exact HT.out⟩
      case round =>
       obtain⟨va,vb,k,z,hu,hv,rfl,hk,HZ,HT⟩:=hrel
       have hu':=hu.symm
       subst hu'
       have hv':=hv.symm
       subst hv'
       obtain⟨V4,rfl⟩:∃ V4,V4=wr:=⟨_,rfl⟩
       have hk0:(0:Int)≤(k:Int):=Int.natCast_nonneg k
       have HBW:=Lib.hid HT.out.a.but
       have e0:=cell_keep E0.out HBW.out
       by_cases hkm:k<m1
       ·have hkm2:(k:Int)<(m1:Int):=by omega
        obtain⟨y,hy⟩:∃ y,l[k]? = some y:=⟨_,List.getElem?_eq_getElem (by rw[HML.out];exact hkm)⟩
        obtain⟨bc,oc,eC,_,p0,p1,p2,p3,p4⟩:=(RA.out.no HBW.out).at1 hy
        have HAX:=Lib.hid (apL_next (c:=(q:Int)) (i:=i) hy)
        have hlk:(apL (q:Int) i l k).length≤k:=apL_len (q:Int) i l k
        have hz3:z≤200:=by rw[HZ.out,List.length_append];omega
        cases eC
        clear hy hlk
        obtain⟨y0,y1,y2,y3,y4⟩:=y
        dsimp only at p0 p1 p2 p3 p4 HAX
        by_cases hc:y0=(q:Int)
        ·have b5:(y0 == (q:Int))=true:=by simp[hc]
         rw[if_pos hc] at HAX
         clear hc
         have HTa:=Lib.hid (HT.out.no ((But.refl No V4).alloc (.cells #[.int .i64 y1] 3)))
         go_upto_region 20 with(at_builtin;refine wpList_append_sh _ rfl _ _ 26 rfl 3 i3 _ 1 8 Tryz.underlying26 I3.out.1 I3.out.2.1 I3.out.2.2.1 I3.out.2.2.2 rfl (by omega) va z _ rfl HTa.out.a.own (V4.heap.size+1) (some ⟨V4.heap.size,0,none⟩) 1 1 [.int .i64 y1] (by simp[Act.eval]) (one_reads V4 y1) (one_cell y1) (by unfold maxLen;omega) (by omega) ?_;intro A5 c5' w5 hown5 hgrow5 hat5;have HT5:=Lib.hid (HTa.out.flip.appB hown5 hgrow5 hat5).flip;clear hown5 hgrow5 hat5)
         have HBW5:=Lib.hid HT5.out.a.but
         clear p0 p1 p2 p3 p4 e0 HTa
         have t0:=cell_keep T0.out HBW5.out
         obtain⟨c0,c1,c2,c3,c4,c5,c6,c7,c8⟩:=BK.out _ (H2.out.trans (HB6.out.trans HBW5.out))
         have HTb:=Lib.hid (HT5.out.no ((But.refl No w5).alloc (.cells #[.int .i64 t.p] 3)))
         go_wp2_with (at_builtin;refine wpList_append_sh _ rfl _ _ 26 rfl 3 i3 _ 1 8 Tryz.underlying26 I3.out.1 I3.out.2.1 I3.out.2.2.1 I3.out.2.2.2 rfl (by omega) vb z _ rfl HTb.out.b.own (w5.heap.size+1) (some ⟨w5.heap.size,0,none⟩) 1 1 [.int .i64 t.p] (by simp[Act.eval]) (one_reads w5 t.p) (one_cell t.p) (by unfold maxLen;omega) (by omega) ?_;intro A6 c6' w6 hown6 hgrow6 hat6;have HT6:=Lib.hid (HTb.out.appB hown6 hgrow6 hat6);clear hown6 hgrow6 hat6 c0 c1 c2 c3 c4 c5 c6 c7 c8)
         go_roundw
         case rel =>
          refine⟨_,_,k+1,z+1,rfl,rfl,by first | rfl | go_num,by omega,by rw[HAX.out,←List.append_assoc,List.length_append,←HZ.out];rfl,?_⟩
          have h9:=HT6.out
          rw[←HPO.out] at h9
          rw[HAX.out,←List.append_assoc]
          unfold budA perA at h9 ⊢
          rw[List.map_append,List.map_append (f:=perO s),List.map_append (f:=Value.int .i64),List.map_append (f:=Value.int .i64)]
          exact h9
         case measure=>simp[intOf];omega
        ·have b5:(y0 == (q:Int))=false:=by simp[hc]
         rw[if_neg hc,List.append_nil] at HAX
         clear hc
         go_wp2_with fail
         go_roundw
         case rel=>exact⟨_,_,k+1,z,rfl,rfl,by first | rfl | go_num,by omega,by rw[HAX.out];exact HZ.out,by rw[HAX.out];exact HT.out⟩
         case measure=>simp[intOf];omega
       ·have hkm2:¬(k:Int)<(m1:Int):=by omega
        obtain rfl:k=m1:=by omega
        go_wp2_with fail
        go_roundw
        case rel=>exact⟨_,_,i+1,z,rfl,rfl,by first | rfl | go_num,by omega,by rw[HAN.out];exact HZ.out,by rw[HAN.out];exact HT.out⟩
        case measure=>simp[intOf];omega
     ·have hin2:¬(i:Int)<(n:Int):=by omega
      obtain rfl:i=n:=by omega
      have HT7:=HT.out
      have hz7:=HZ.out
      rw[HAP.out] at HT7 hz7
      have HLX':=HLX.out
      clear HLX HT HZ HROW HLD HAS
      generalize apS (q:Int) R=X at hlv hal HT7 hz7 HLX'
      have HBW:=Lib.hid HT7.a.but
      obtain⟨ga,ka,rfl⟩:=owns_slice HT7.a.own
      obtain⟨gb,kb,rfl⟩:=owns_slice HT7.b.own
      subst hz7
      have hla1:=(Ov.rl (zs:=budA X) (by unfold Ov;rw[show (budA X).length=X.length by simp[budA]];exact HT7.a.own) (by simp[budA];omega)).1
      have hlb1:=(Ov.rl (zs:=perA s X) (by unfold Ov;rw[show (perA s X).length=X.length by simp[perA]];exact HT7.b.own) (by simp[perA];omega)).1
      have CL2:=CL.out ga gb ka kb X wr hla1 hlb1 HLX'.2.1 HLX'.2.2
      rw[HLX'.1] at CL2
      have CL3:=Lib.hid CL2
      clear CL CL2 hla1 hlb1 HT7 HLX' HAP
      generalize qar.ldV (budA X) (perA s X)=lv at hlv CL3
      generalize X.length=xl at hlv hal CL3 ⊢
      have k5:¬(4294967296+(xl:Int))<lv:=by omega
      have k6:decide ((4294967296+(xl:Int))<lv)=false:=by simp;omega
      go_wp2_with (go_at_call 20;(with_reducible refine CL3.out.mono ?_);rintro e w5 ⟨rfl,h5⟩;have H5:=Lib.hid h5;clear h5)
      go_roundw
      case rel=>exact⟨q+1,by first | rfl | go_num,by omega,HB6.out.trans (HBW.out.trans H5.out)⟩
      case measure=>simp[intOf];omega
   ·go_wp2
    go_ret
    exact⟨rfl,HB0.out.trans (H2.out.trans HB6.out)⟩
end placeLoads
end Go.Proofs.YtlecikdjoekknaaGreat.pln
end
section
namespace Go.Proofs.YtlecikdjoekknaaGreat.placeLoads
open val pln
theorem walk (s:Sys) (A:Option Addr) (c:Nat) (w:World) (hs:RSys w A s.ts.length c s) :
  Calls Tryz.prog 7 #[sysV s A s.ts.length c] w fun e w'=>e=.returned (.bool true)∧But No w w' :=
 pln.placeLoads.walk place_is s A c w hs
end Go.Proofs.YtlecikdjoekknaaGreat.placeLoads
end
