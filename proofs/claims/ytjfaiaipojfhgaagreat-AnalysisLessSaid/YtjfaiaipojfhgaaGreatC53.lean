/- Part 53 of a proof: AnalysisLessW AnalysisCostsW PlWo. -/
import Derived.Test.YtjfaiaipojfhgaaGreatC13
import Derived.Test.YtjfaiaipojfhgaaGreatC26
import Derived.Test.YtjfaiaipojfhgaaGreatC27
import Derived.Test.YtjfaiaipojfhgaaGreatC28
import Derived.Test.YtjfaiaipojfhgaaGreatC52
section
namespace Go.Proofs.YtjfaiaipojfhgaaGreat.analysisLess
open val pln
theorem walk (s:Sys) (A:Option Addr) (c:Nat) (A':Option Addr) (N c':Nat) (L:List (List Pc)) (h:N≤c') (x0:Int) (hx:(Lit.int .i64 x0).wf=true) (w:World) (hs:RSys w A s.ts.length c s) (hl:RPl w A' N L) :
  Calls Tryz.prog 5 #[sysV s A s.ts.length c,.slice A' N c',.int .i64 x0] w fun e w'=>e=.returned (.bool true)∧But No w w' :=
 pln.analysisLess.walk pln.check_is s A c A' N c' L h x0 (inR_of hx) w hs hl
end Go.Proofs.YtjfaiaipojfhgaaGreat.analysisLess
end
section
namespace Go.Proofs.YtjfaiaipojfhgaaGreat.analysisCosts
open val pln
theorem walk (s:Sys) (A:Option Addr) (c:Nat) (A':Option Addr) (N c':Nat) (L:List (List Pc)) (h:N≤c') (w:World) (hs:RSys w A s.ts.length c s) (hl:RPl w A' N L) :
  Calls Tryz.prog 8 #[sysV s A s.ts.length c,.slice A' N c'] w fun e w'=>e=.returned (.bool true)∧But No w w' :=
 pln.analysisCosts.walk pln.check_is s A c A' N c' L h w hs hl
end Go.Proofs.YtjfaiaipojfhgaaGreat.analysisCosts
end
section
namespace Go.Proofs.YtjfaiaipojfhgaaGreat.pln
open Go.Lib (hid)
set_option linter.unusedVariables false
set_option linter.unusedSimpArgs false
open Go.ChangeShapes Go.WideShapes Go.ChangeAt Go.RowKit Go.Deep val ter
theorem wrap_in {a:Int} (h1 : -9223372036854775808≤a) (h2:a≤9223372036854775807):IntKind.i64.wrap a=a:=wrp_in ⟨h1,h2⟩
namespace analysisOwns
set_option maxRecDepth 100000 in
set_option maxHeartbeats 8000000 in
theorem walk (s:Sys) (A:Option Addr) (c:Nat) (A':Option Addr) (N c':Nat) (L:List (List Pc)) (_:N≤c') (i k:Int) (w:World) (hs:RSys w A s.ts.length c s) (hl:RPl w A' N L) :
  Calls Tryz.prog 7 #[sysV s A s.ts.length c,.slice A' N c',.int .i64 i,.int .i64 k] w fun e w'=>e=.returned (.bool true)∧But No w w':=by
 obtain⟨n,hn⟩:∃ n,s.ts.length=n:=⟨_,rfl⟩
 rw[hn] at hs ⊢
 have CX:Hid (∀ W,Calls Tryz.prog 10 #[] W fun e w'=>e=.returned (.bool true)∧But No W w'):=hid (fun W=>examples_ok check_is W)
 have CA:Hid (∀ W,But No w W→Calls Tryz.prog 17 #[sysV s A n c,.slice A' N c',.int .i64 i,.int .i64 k] W fun e w'=>e=.returned (.tuple #[.int .i64 (oV s L i k).1,.int .i64 (erO (oV s L i k).2)])∧But No W w') :=
  hid (fun W hw=>own_top s A _ c A' N c' L i k W (hs.no hw) (hl.no hw))
 have CB:Hid (∀ W,But No w W→Calls Tryz.prog 19 #[sysV s A n c,.slice A' N c'] W fun e w'=>e=.returned (.bool (plR s L))∧But No W w') :=
  hid (fun W hw=>right_is s A _ c A' N c' L W (hs.no hw) (hl.no hw))
 have HN:=hid hl.len
 have hNm:=hl.max
 have HL:=hid hl
 have HS:=hid hs
 have hB0:=(But.refl No w).alloc (.cells (boxS s A n c) 24)
 have hS0:=hid (Blk.new w (boxS s A n c) 24)
 have HB0:=hid hB0
 have BK:Hid (∀ W,But No (w.alloc (.cells (boxS s A n c) 24)) W→S9 W w.heap.size s A n c):=hid (fun W hb=>sys_cells (hS0.out.but hb (fun f=>f)))
 have q9:erO false=1:=rfl
 have q8:erO true=0:=rfl
 clear hs hl hB0 hS0 hn
 unfold boxS at BK HB0
 unfold sysV at CA CB ⊢
 cases hp:plR s L with
 | false =>
  rw[hp] at CB
  have HV:=hid (oV_no (s:=s) (L:=L) (i:=i) (k:=k) (by rw[hp];simp))
  rw[HV.out] at CA
  dsimp only at CA
  rw[q9] at CA
  clear hp HV q9 q8
  go_enter Tryz.func7,Tryz.ntmps7
  go_upto_region 2 with(go_at_call 10;(with_reducible refine(CX.out _).mono ?_);rintro e w1 ⟨rfl,h1⟩)
  have H1:=hid h1
  obtain⟨c0,c1,c2,c3,c4,c5,c6,c7,c8⟩:=BK.out _ H1.out
  clear h1
  go_upto_region 3 with(go_at_call 17;(with_reducible refine(CA.out _ (HB0.out.trans H1.out)).mono ?_);rintro e w2 ⟨rfl,h2⟩)
  have H2:=hid (H1.out.trans h2)
  clear c0 c1 c2 c3 c4 c5 c6 c7 c8 h2
  obtain⟨c0,c1,c2,c3,c4,c5,c6,c7,c8⟩:=BK.out _ H2.out
  go_wp2_with (go_at_call 19;(with_reducible refine(CB.out _ (HB0.out.trans H2.out)).mono ?_);rintro e w3 ⟨rfl,h3⟩;have H3:=hid (H2.out.trans h3);clear h3)
  go_ret
  exact⟨rfl,HB0.out.trans H3.out⟩
 | true =>
  rw[hp] at CB
  by_cases hi0:i<0
  ·have q1:decide (i<0)=true:=by simp[hi0]
   have HV:=hid (oV_no (s:=s) (L:=L) (i:=i) (k:=k) (by omega))
   rw[HV.out] at CA
   dsimp only at CA
   rw[q9] at CA
   clear hp HV q9 q8
   go_enter Tryz.func7,Tryz.ntmps7
   go_upto_region 2 with(go_at_call 10;(with_reducible refine(CX.out _).mono ?_);rintro e w1 ⟨rfl,h1⟩)
   have H1:=hid h1
   obtain⟨c0,c1,c2,c3,c4,c5,c6,c7,c8⟩:=BK.out _ H1.out
   clear h1
   go_upto_region 3 with(go_at_call 17;(with_reducible refine(CA.out _ (HB0.out.trans H1.out)).mono ?_);rintro e w2 ⟨rfl,h2⟩)
   have H2:=hid (H1.out.trans h2)
   clear c0 c1 c2 c3 c4 c5 c6 c7 c8 h2
   obtain⟨c0,c1,c2,c3,c4,c5,c6,c7,c8⟩:=BK.out _ H2.out
   go_wp2_with (go_at_call 19;(with_reducible refine(CB.out _ (HB0.out.trans H2.out)).mono ?_);rintro e w3 ⟨rfl,h3⟩;have H3:=hid (H2.out.trans h3);clear h3)
   go_ret
   exact⟨rfl,HB0.out.trans H3.out⟩
  ·have q1:decide (i<0)=false:=by simp;omega
   obtain⟨j,rfl⟩:∃ j:Nat,i=(j:Int):=⟨i.toNat,by omega⟩
   by_cases hiN:N≤j
   ·have q2:decide ((N:Int)≤(j:Int))=true:=by simp;omega
    have HV:=hid (oV_none (s:=s) (L:=L) (i:=(j:Int)) (k:=k) (by rw[Int.toNat_natCast,List.getElem?_eq_none_iff.2 (by rw[HN.out];exact hiN)];rfl))
    rw[HV.out] at CA
    dsimp only at CA
    rw[q9] at CA
    clear hp HV q9 q8
    go_enter Tryz.func7,Tryz.ntmps7
    go_upto_region 2 with(go_at_call 10;(with_reducible refine(CX.out _).mono ?_);rintro e w1 ⟨rfl,h1⟩)
    have H1:=hid h1
    obtain⟨c0,c1,c2,c3,c4,c5,c6,c7,c8⟩:=BK.out _ H1.out
    clear h1
    go_upto_region 3 with(go_at_call 17;(with_reducible refine(CA.out _ (HB0.out.trans H1.out)).mono ?_);rintro e w2 ⟨rfl,h2⟩)
    have H2:=hid (H1.out.trans h2)
    clear c0 c1 c2 c3 c4 c5 c6 c7 c8 h2
    obtain⟨c0,c1,c2,c3,c4,c5,c6,c7,c8⟩:=BK.out _ H2.out
    go_wp2_with (go_at_call 19;(with_reducible refine(CB.out _ (HB0.out.trans H2.out)).mono ?_);rintro e w3 ⟨rfl,h3⟩;have H3:=hid (H2.out.trans h3);clear h3)
    go_ret
    exact⟨rfl,HB0.out.trans H3.out⟩
   ·have q2:decide ((N:Int)≤(j:Int))=false:=by simp;omega
    by_cases hk0:k<0
    ·have q3:decide (k<0)=true:=by simp[hk0]
     have HV:=hid (oV_no (s:=s) (L:=L) (i:=(j:Int)) (k:=k) (by omega))
     rw[HV.out] at CA
     dsimp only at CA
     rw[q9] at CA
     clear hp HV q9 q8
     go_enter Tryz.func7,Tryz.ntmps7
     go_upto_region 2 with(go_at_call 10;(with_reducible refine(CX.out _).mono ?_);rintro e w1 ⟨rfl,h1⟩)
     have H1:=hid h1
     obtain⟨c0,c1,c2,c3,c4,c5,c6,c7,c8⟩:=BK.out _ H1.out
     clear h1
     go_upto_region 3 with(go_at_call 17;(with_reducible refine(CA.out _ (HB0.out.trans H1.out)).mono ?_);rintro e w2 ⟨rfl,h2⟩)
     have H2:=hid (H1.out.trans h2)
     clear c0 c1 c2 c3 c4 c5 c6 c7 c8 h2
     obtain⟨c0,c1,c2,c3,c4,c5,c6,c7,c8⟩:=BK.out _ H2.out
     go_wp2_with (go_at_call 19;(with_reducible refine(CB.out _ (HB0.out.trans H2.out)).mono ?_);rintro e w3 ⟨rfl,h3⟩;have H3:=hid (H2.out.trans h3);clear h3)
     go_ret
     exact⟨rfl,HB0.out.trans H3.out⟩
    ·have q3:decide (k<0)=false:=by simp;omega
     obtain⟨m,rfl⟩:∃ m:Nat,k=(m:Int):=⟨k.toNat,by omega⟩
     obtain⟨l,hl⟩:∃ l,L[j]? = some l:=⟨_,List.getElem?_eq_getElem (by rw[HN.out];omega)⟩
     have hj0:(0:Int)≤(j:Int):=Int.natCast_nonneg j
     have hj1:(j:Int)<(N:Int):=by omega
     obtain⟨b,off,A1,c1,hA,_,e0,hlc,hpc⟩:=HL.out.at1 hl
     subst hA
     have HE0:=hid e0
     have HPC:=hid hpc
     clear e0 hpc
     by_cases hkl:l.length≤m
     ·have q4:decide ((l.length:Int)≤(m:Int))=true:=by simp;omega
      have HV:=hid (oV_none (s:=s) (L:=L) (i:=(j:Int)) (k:=(m:Int)) (by rw[Int.toNat_natCast,Int.toNat_natCast,hl];exact List.getElem?_eq_none_iff.2 hkl))
      rw[HV.out] at CA
      dsimp only at CA
      rw[q9] at CA
      clear hp HV q9 q8
      go_enter Tryz.func7,Tryz.ntmps7
      go_upto_region 2 with(go_at_call 10;(with_reducible refine(CX.out _).mono ?_);rintro e w1 ⟨rfl,h1⟩)
      have H1:=hid h1
      obtain⟨c0,c1,c2,c3,c4,c5,c6,c7,c8⟩:=BK.out _ H1.out
      clear h1
      go_upto_region 3 with(go_at_call 17;(with_reducible refine(CA.out _ (HB0.out.trans H1.out)).mono ?_);rintro e w2 ⟨rfl,h2⟩)
      have H2:=hid (H1.out.trans h2)
      clear c0 c1 c2 c3 c4 c5 c6 c7 c8 h2
      obtain⟨c0,c1,c2,c3,c4,c5,c6,c7,c8⟩:=BK.out _ H2.out
      go_wp2_with (go_at_call 19;(with_reducible refine(CB.out _ (HB0.out.trans H2.out)).mono ?_);rintro e w3 ⟨rfl,h3⟩;have e0:=cell_keep HE0.out (HB0.out.trans (H2.out.trans h3));have H3:=hid (H2.out.trans h3);clear h3)
      go_ret
      exact⟨rfl,HB0.out.trans H3.out⟩
     ·have q4:decide ((l.length:Int)≤(m:Int))=false:=by simp;omega
      obtain⟨x,hx⟩:∃ x,l[m]? = some x:=⟨_,List.getElem?_eq_getElem (by omega)⟩
      have hml:(m:Int)<(l.length:Int):=by omega
      have HV:=hid (oV_some hp hl hx)
      have HOV:Hid (ownV s L j x=x.bu+s.fi+2*s.sw+(if 0≤(L.map whO).getD j 0 then extraV s (L.map whO) (j:Int) else 0)):=hid rfl
      have hr:=(plR_parts hp).1
      have hbu:=pl_bu hp hl hx
      have HEB:=hid (extra_bd hr (L.map whO) (j:Int))
      obtain⟨_,⟨s0,s1⟩,f0,f1⟩:=right_costs hr
      have hN24:N≤24:=by have:=(plR_small hp).1;have:=HN.out;omega
      obtain⟨b2',off2,hA2,_,y0,y1,_⟩:=HPC.out.at1 hx
      subst hA2
      have HY1:=hid y1
      rw[HV.out] at CA
      clear y0 y1 HV hl
      generalize ownV s L j x=O at CA HOV
      generalize x.bu=bu at HY1 HOV hbu
      obtain⟨S1,hS1⟩:∃ S1,bu+s.fi=S1:=⟨_,rfl⟩
      obtain⟨S2,hS2⟩:∃ S2,2*s.sw=S2:=⟨_,rfl⟩
      obtain⟨S3,hS3⟩:∃ S3,S1+S2=S3:=⟨_,rfl⟩
      have v1:IntKind.i64.wrap (bu+s.fi)=S1:=by rw[hS1];exact wrap_in (by omega) (by omega)
      have v2:IntKind.i64.wrap (2*s.sw)=S2:=by rw[hS2];exact wrap_in (by omega) (by omega)
      have v3:IntKind.i64.wrap (S1+S2)=S3:=by rw[hS3];exact wrap_in (by omega) (by omega)
      rw[hS1,hS2,hS3] at HOV
      have hS3b:0≤S3∧S3≤1099511628000:=by omega
      obtain⟨i3,hi0,hz0,hz1,hz2⟩:=info_parts info3
      have I3:Hid (Tryz.prog.info? 3=some i3∧i3.zero=some (.int .i64 0)∧i3.size=1∧i3.bytes=8):=⟨hi0,hz0,hz1,hz2⟩
      have hjN:j<N:=by omega
      clear hi0 hz0 hz1 hz2 hS1 hS2 hS3 hbu s0 s1 f0 f1 hr hx
      dsimp only at CA
      rw[q8] at CA
      clear q8 q9 hp
      go_enter Tryz.func7,Tryz.ntmps7
      go_upto_region 2 with(go_at_call 10;(with_reducible refine(CX.out _).mono ?_);rintro e w1 ⟨rfl,h1⟩)
      have H1:=hid h1
      obtain⟨c0,c1,c2,c3,c4,c5,c6,c7,c8⟩:=BK.out _ H1.out
      clear h1
      go_upto_region 3 with(go_at_call 17;(with_reducible refine(CA.out _ (HB0.out.trans H1.out)).mono ?_);rintro e w2 ⟨rfl,h2⟩)
      have H2:=hid (H1.out.trans h2)
      clear c0 c1 c2 c3 c4 c5 c6 c7 c8 h2
      obtain⟨c0,c1,c2,c3,c4,c5,c6,c7,c8⟩:=BK.out _ H2.out
      go_upto_region 5 with(go_at_call 19;(with_reducible refine(CB.out _ (HB0.out.trans H2.out)).mono ?_);rintro e w3 ⟨rfl,h3⟩;have e0:=cell_keep HE0.out (HB0.out.trans (H2.out.trans h3));have H3:=hid (H2.out.trans h3);clear h3)
      clear c0 c1 c2 c3 c4 c5 c6 c7 c8
      obtain⟨c0,c1,c2,c3,c4,c5,c6,c7,c8⟩:=BK.out _ H3.out
      have y1:=cell_keep HY1.out (HB0.out.trans H3.out)
      have HBW:=hid (HB0.out.trans H3.out)
      go_region
      clear v1 v2 v3 y1 e0
      go_wp2_with fail
      go_loopw [13,14] (fun v i wr=>∃ (vv:Value) (q:Nat),v=vv∧i=.int .i64 (q:Int)∧q≤N∧Hid (Rw w3 wr vv ((L.take q).map whO))) (fun _ i _=>N-(intOf i).toNat)
      case atStart=>exact⟨_,0,rfl,rfl,by omega,(Rw.start w3).no ((But.refl No w3).drew)⟩
      case round =>
       obtain⟨v,q,hv,rfl,hq,HR⟩:=hrel
       have hv':=hv.symm
       subst hv'
       clear hv
       have hq0:(0:Int)≤(q:Int):=Int.natCast_nonneg q
       by_cases hqn:q<N
       ·have hqn2:(q:Int)<(N:Int):=by omega
        obtain⟨l,hl⟩:∃ l,L[q]? = some l:=⟨_,List.getElem?_eq_getElem (by rw[HN.out];exact hqn)⟩
        obtain⟨b9,off9,A9,c9,hAe,_,e0,_,hpc⟩:=(HL.out.no (HBW.out.trans HR.out.but)).at1 hl
        cases hAe
        have TM:=hid (take_map hl)
        have HLN:=hid (show ((L.take q).map whO).length=q by rw[List.length_map,List.length_take,HN.out];omega)
        clear hl
        by_cases h1:l.length=1
        ·obtain⟨x,rfl⟩:=List.length_eq_one_iff.1 h1
         obtain⟨b',off',rfl,_,p0,p1,p2,p3,p4⟩:=hpc.at1 (k:=0) (x:=x) rfl
         obtain⟨x0,x1,x2,x3,x4⟩:=x
         dsimp only[List.length_cons,List.length_nil] at e0 p0 p4
         simp only[Nat.zero_mul,Nat.add_zero,Nat.zero_add] at e0 p0 p4
         clear p1 p2 p3
         cases x4 with
         | true =>
          have HW:Hid (whO [⟨x0,x1,x2,x3,true⟩] = -1):=hid (by unfold whO;rw[if_neg (by simp)])
          have HRa:=hid (HR.out.no ((But.refl No wr).alloc (.cells #[.int .i64 (-1)] 3)))
          go_wp2_with (at_builtin;refine wpList_append_sh _ rfl _ _ 39 rfl 3 i3 _ 1 8 Tryz.underlying39 I3.out.1 I3.out.2.1 I3.out.2.2.1 I3.out.2.2.2 rfl (by omega) v q _ rfl (by have h9:=HRa.out.own;unfold Ov at h9;rw[HLN.out] at h9;exact h9) (wr.heap.size+1) (some ⟨wr.heap.size,0,none⟩) 1 1 [.int .i64 (-1)] rfl (one_reads wr (-1)) (one_cell (-1)) (by unfold maxLen;omega) (by omega) ?_;intro A5 c5 w5 hown5 hgrow5 hat5;have HR5:=hid (HRa.out.app (by rw[HLN.out]) hown5 hgrow5 hat5);clear hown5 hgrow5 hat5)
          go_roundw
          case rel=>exact⟨_,q+1,rfl,by go_num,by omega,by rw[TM.out,HW.out];exact HR5.out⟩
          case measure=>simp[intOf];omega
         | false =>
          have HW:Hid (whO [⟨x0,x1,x2,x3,false⟩]=x0):=hid (by unfold whO;rw[if_pos ⟨rfl,rfl⟩];rfl)
          have HRa:=hid (HR.out.no ((But.refl No wr).alloc (.cells #[.int .i64 x0] 3)))
          go_wp2_with (at_builtin;refine wpList_append_sh _ rfl _ _ 39 rfl 3 i3 _ 1 8 Tryz.underlying39 I3.out.1 I3.out.2.1 I3.out.2.2.1 I3.out.2.2.2 rfl (by omega) v q _ rfl (by have h9:=HRa.out.own;unfold Ov at h9;rw[HLN.out] at h9;exact h9) (wr.heap.size+1) (some ⟨wr.heap.size,0,none⟩) 1 1 [.int .i64 x0] rfl (one_reads wr x0) (one_cell x0) (by unfold maxLen;omega) (by omega) ?_;intro A5 c5 w5 hown5 hgrow5 hat5;have HR5:=hid (HRa.out.app (by rw[HLN.out]) hown5 hgrow5 hat5);clear hown5 hgrow5 hat5)
          go_roundw
          case rel=>exact⟨_,q+1,rfl,by go_num,by omega,by rw[TM.out,HW.out];exact HR5.out⟩
          case measure=>simp[intOf];omega
        ·have HW:Hid (whO l = -1):=hid (by unfold whO;rw[if_neg (by simp[h1])])
         have d1:decide (l.length=1)=false:=by simp[h1]
         have d1':((l.length:Int) == 1)=false:=by simp;omega
         have d1'':decide ((l.length:Int)=1)=false:=by simp;omega
         clear hpc
         have HRa:=hid (HR.out.no ((But.refl No wr).alloc (.cells #[.int .i64 (-1)] 3)))
         go_wp2_with (at_builtin;refine wpList_append_sh _ rfl _ _ 39 rfl 3 i3 _ 1 8 Tryz.underlying39 I3.out.1 I3.out.2.1 I3.out.2.2.1 I3.out.2.2.2 rfl (by omega) v q _ rfl (by have h9:=HRa.out.own;unfold Ov at h9;rw[HLN.out] at h9;exact h9) (wr.heap.size+1) (some ⟨wr.heap.size,0,none⟩) 1 1 [.int .i64 (-1)] rfl (one_reads wr (-1)) (one_cell (-1)) (by unfold maxLen;omega) (by omega) ?_;intro A5 c5 w5 hown5 hgrow5 hat5;have HR5:=hid (HRa.out.app (by rw[HLN.out]) hown5 hgrow5 hat5);clear hown5 hgrow5 hat5)
         go_roundw
         case rel=>exact⟨_,q+1,rfl,by go_num,by omega,by rw[TM.out,HW.out];exact HR5.out⟩
         case measure=>simp[intOf];omega
       ·have hqe:q=N:=by omega
        subst hqe
        have b3:decide ((q:Int)<(q:Int))=false:=by simp
        have htk:L.take q=L:=List.take_of_length_le (by rw[HN.out];exact Nat.le_refl _)
        rw[htk] at HR
        have hlen:(L.map whO).length=q:=by rw[List.length_map,HN.out]
        obtain⟨B,d,rfl,hcd⟩:=HR.out.own.slice
        have hrl:=(HR.out.own.rl (by rw[hlen];omega)).1
        rw[hlen] at hrl
        obtain⟨bw,ow,rfl,hbwl,hcw⟩:=hrl.at_ (by omega)
        have hwj:=hcw j hjN
        have hrd:Rd wr (some ⟨bw,ow,none⟩) q (L.map whO):=⟨hlen,by omega,hrl.at_,whO_in HL.out⟩
        have HCE:Hid (∀ W,But No wr W→Calls Tryz.prog 23 #[sysV s A n c,.slice (some ⟨bw,ow,none⟩) q d,.int .i64 (j:Int)] W fun e w'=>e=.returned (.int .i64 (extraV s (L.map whO) (j:Int)))∧But No W w'):=hid (fun W hW=>extra_any s A n c (some ⟨bw,ow,none⟩) q d _ (j:Int) W (HS.out.no (HBW.out.trans (HR.out.but.trans hW))) (hrd.no hW))
        rw[hlen]
        obtain⟨wj,hwje⟩:∃ wj,wj=(L.map whO).getD j 0:=⟨_,rfl⟩
        rw[←hwje] at hwj HOV
        have HRB:=hid HR.out.but
        obtain⟨E,hE⟩:∃ E,E=extraV s (L.map whO) (j:Int):=⟨_,rfl⟩
        rw[←hE] at HCE HOV HEB
        have hEb:=HEB.out
        clear hwje hE hrl hrd hcw hbwl hlen htk HR
        obtain⟨c0,c1,c2,c3,c4,c5,c6,c7,c8⟩:=BK.out _ (H3.out.trans HRB.out)
        unfold sysV at HCE
        by_cases hw0:0≤wj
        ·have dw:decide (0≤wj)=true:=decide_eq_true hw0
         have hov:=HOV.out
         rw[if_pos hw0] at hov
         have hO:IntKind.i64.wrap (S3+E)=O:=by rw[hov];exact wrap_in (by omega) (by omega)
         have HOE:S3+E=O:=hov.symm
         clear hov
         go_wp2_with (go_at_call 23;(with_reducible refine(HCE.out _ (But.refl _ _)).mono ?_);rintro e w9 ⟨rfl,h9⟩;have H9:=hid h9;clear h9)
         go_ret
         exact⟨rfl,HBW.out.trans (HRB.out.trans H9.out)⟩
        ·have dw:decide (0≤wj)=false:=decide_eq_false hw0
         have hov:=HOV.out
         rw[if_neg hw0,Int.add_zero] at hov
         subst hov
         go_wp2_with fail
         go_ret
         exact⟨rfl,HBW.out.trans HRB.out⟩
end analysisOwns
end Go.Proofs.YtjfaiaipojfhgaaGreat.pln
end
