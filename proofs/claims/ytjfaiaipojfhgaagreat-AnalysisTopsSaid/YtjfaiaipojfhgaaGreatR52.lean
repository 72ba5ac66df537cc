/- Part 52 of a proof: PlWt. -/
import Derived.Test.YtjfaiaipojfhgaaGreatR24
import Derived.Test.YtjfaiaipojfhgaaGreatR48
section
namespace Go.Proofs.YtjfaiaipojfhgaaGreat.pln
open Go.Lib (hid)
set_option linter.unusedVariables false
set_option linter.unusedSimpArgs false
open Go.ChangeShapes Go.WideShapes Go.ChangeAt Go.RowKit Go.Deep val ter
namespace analysisTops
set_option maxRecDepth 100000 in
set_option maxHeartbeats 8000000 in
theorem walk (s:Sys) (A:Option Addr) (c:Nat) (A':Option Addr) (N c':Nat) (L:List (List Pc)) (_:N≤c') (w:World) (hs:RSys w A s.ts.length c s) (hl:RPl w A' N L) :
  Calls Tryz.prog 9 #[sysV s A s.ts.length c,.slice A' N c'] w fun e w'=>e=.returned (.bool true)∧But No w w':=by
 obtain⟨n,hn⟩:∃ n,s.ts.length=n:=⟨_,rfl⟩
 rw[hn] at hs ⊢
 have CX:Hid (∀ W,Calls Tryz.prog 10 #[] W fun e w'=>e=.returned (.bool true)∧But No W w'):=hid (fun W=>examples_ok check_is W)
 have CR:Hid (∀ W,But No w W→Calls Tryz.prog 19 #[sysV s A n c,.slice A' N c'] W fun e w'=>e=.returned (.bool (plR s L))∧But No W w') :=
  hid (fun W hw=>right_is s A _ c A' N c' L W (hs.no hw) (hl.no hw))
 have HS:=hid hs
 have HL:=hid hl
 have HNL:=hid hl.len
 have hB0:=(But.refl No w).alloc (.cells (boxS s A n c) 24)
 have hS0:=hid (Blk.new w (boxS s A n c) 24)
 have HB0:=hid hB0
 have BK:Hid (∀ W,But No (w.alloc (.cells (boxS s A n c) 24)) W→S9 W w.heap.size s A n c):=hid (fun W hb=>sys_cells (hS0.out.but hb (fun f=>f)))
 clear hs hl hB0 hS0
 unfold boxS at BK HB0
 cases hp:plR s L with
 | false =>
  have CT:Hid (∀ W,But No w W→Calls Tryz.prog 14 #[sysV s A n c,.slice A' N c'] W fun e w'=>e=.returned (.tuple #[.slice none 0 0,.int .i64 1])∧But No W w') :=
   hid (fun W hw=>ceil_no (HS.out.no hw) (HL.out.no hw) hp)
  have CK:Hid (∀ W,But No w W→Calls Tryz.prog 13 #[sysV s A n c,.slice A' N c'] W fun e w'=>e=.returned (.tuple #[.slice none 0 0,.int .i64 1])∧But No W w') :=
   hid (fun W hw=>rank_no (HS.out.no hw) (HL.out.no hw) hp)
  rw[hp] at CR
  clear hp hn
  unfold sysV at CT CK CR ⊢
  go_enter Tryz.func9,Tryz.ntmps9
  go_upto_region 2 with(go_at_call 10;(with_reducible refine(CX.out _).mono ?_);rintro e w1 ⟨rfl,h1⟩)
  have H1:=hid h1
  obtain⟨c0,c1,c2,c3,c4,c5,c6,c7,c8⟩:=BK.out _ H1.out
  clear h1
  go_upto_region 3 with(go_at_call 14;(with_reducible refine(CT.out _ (HB0.out.trans H1.out)).mono ?_);rintro e w2 ⟨rfl,h2⟩)
  have H2:=hid (H1.out.trans h2)
  clear c0 c1 c2 c3 c4 c5 c6 c7 c8 h2
  obtain⟨c0,c1,c2,c3,c4,c5,c6,c7,c8⟩:=BK.out _ H2.out
  go_upto_region 4 with(go_at_call 13;(with_reducible refine(CK.out _ (HB0.out.trans H2.out)).mono ?_);rintro e w3 ⟨rfl,h3⟩)
  have H3:=hid (H2.out.trans h3)
  clear c0 c1 c2 c3 c4 c5 c6 c7 c8 h3
  obtain⟨c0,c1,c2,c3,c4,c5,c6,c7,c8⟩:=BK.out _ H3.out
  go_wp2_with (go_at_call 19;(with_reducible refine(CR.out _ (HB0.out.trans H3.out)).mono ?_);rintro e w4 ⟨rfl,h4⟩;have H4:=hid (H3.out.trans h4);clear h4)
  go_ret
  exact⟨rfl,HB0.out.trans H4.out⟩
 | true =>
  have CT:Hid (∀ W,But No w W→Calls Tryz.prog 14 #[sysV s A n c,.slice A' N c'] W fun e w'=>∃ AZ cZ,e=.returned (.tuple #[.slice AZ s.co.toNat cZ,.int .i64 0])∧But No W w'∧RNs w' AZ s.co.toNat (ceV s L)) :=
   hid (fun W hw=>ceil_ok (HS.out.no hw) (HL.out.no hw) hp)
  have CK:Hid (∀ W,But No w W→Calls Tryz.prog 13 #[sysV s A n c,.slice A' N c'] W fun e w'=>∃ A1 c1,e=.returned (.tuple #[.slice A1 N c1,.int .i64 0])∧But No W w'∧RPl w' A1 N (rkV s L)) :=
   hid (fun W hw=>rank_ok (HS.out.no hw) (HL.out.no hw) hp)
  obtain⟨hr,hL,hok⟩:=plR_parts hp
  obtain⟨hcs,hla,hn24,_⟩:=right_nums hr
  obtain⟨_,_,hrs⟩:=right_pr hr
  obtain⟨co,hco⟩:∃ co:Nat,s.co=(co:Int):=⟨s.co.toNat,by omega⟩
  obtain⟨rs,hrsn⟩:∃ rs:Nat,s.rs=(rs:Int):=⟨s.rs.toNat,by omega⟩
  have hco2:s.co.toNat=co:=by omega
  have hrs2:s.rs.toNat=rs:=by omega
  have hnN:n=N:=by have:=HNL.out;omega
  have hN24:N≤24:=by omega
  have HNN:Hid (s.ts.length=N):=hid (by omega)
  rw[hco2] at CT
  subst hnN
  have HP:=hid hp
  have HCO:=hid (And.intro hco hco2)
  have HRS:=hid (And.intro hrsn hrs2)
  have hco8:co≤8:=by omega
  have hrs8:rs≤8:=by omega
  have x1:((co:Int) != (co:Int))=false:=by simp
  have x2:((n:Int) != (n:Int))=false:=by simp
  have x3:((rs:Int) != (rs:Int))=false:=by simp
  clear hp hr hL hok hcs hla hn24 hrs hco hrsn hco2 hrs2 hn CR
  unfold sysV at CT CK ⊢
  go_enter Tryz.func9,Tryz.ntmps9
  go_upto_region 2 with(go_at_call 10;(with_reducible refine(CX.out _).mono ?_);rintro e w1 ⟨rfl,h1⟩)
  have H1:=hid h1
  obtain⟨c0,c1,c2,c3,c4,c5,c6,c7,c8⟩:=BK.out _ H1.out
  clear h1
  go_upto_region 3 with(go_at_call 14;(with_reducible refine(CT.out _ (HB0.out.trans H1.out)).mono ?_);rintro e w2 ⟨AZ,cZ,rfl,h2,r2⟩)
  have H2:=hid (H1.out.trans h2)
  have R2:=hid r2
  clear c0 c1 c2 c3 c4 c5 c6 c7 c8 h2 r2
  obtain⟨c0,c1,c2,c3,c4,c5,c6,c7,c8⟩:=BK.out _ H2.out
  go_upto_region 4 with(go_at_call 13;(with_reducible refine(CK.out _ (HB0.out.trans H2.out)).mono ?_);rintro e w3 ⟨B,k',rfl,h3,r3⟩)
  have H3:=hid (H2.out.trans h3)
  have R3:=hid (And.intro (R2.out.no h3) r3)
  clear c0 c1 c2 c3 c4 c5 c6 c7 c8 h3 r3
  obtain⟨c0,c1,c2,c3,c4,c5,c6,c7,c8⟩:=BK.out _ H3.out
  rw[HCO.out.1] at c0
  clear c1 c2 c3 c4 c5 c6 c7 c8
  go_wp2_with fail
  clear c0
  go_loopw [10] (fun i wr=>∃ k:Nat,i=.int .i64 (k:Int)∧k≤co∧Hid (But No w3 wr)) (fun i _=>co-(intOf i).toNat)
  case atStart=>exact⟨0,rfl,by omega,But.refl _ _⟩
  case round =>
   obtain⟨k,rfl,hk,hb1⟩:=hrel
   have hk0:(0:Int)≤(k:Int):=Int.natCast_nonneg k
   obtain⟨c0,c1,c2,c3,c4,c5,c6,c7,c8⟩:=BK.out _ (H3.out.trans hb1.out)
   rw[HCO.out.1] at c0
   rw[HRS.out.1] at c7
   clear c1 c2 c3 c4 c5 c6 c8
   by_cases hkc:k<co
   ·have hkc2:(k:Int)<(co:Int):=by omega
    obtain⟨bz,oz,AR,cR,hAZ,_,z0,hcR,hrl⟩:=(R3.out.1).at1 (ceVat (L:=L) (by rw[HCO.out.2];exact hkc))
    have hlr:(ceR s L k).length=rs:=by rw[ceRlen,HRS.out.2]
    rw[hlr] at z0 hcR hrl
    have HRL:=hid hrl
    have HZ0:=hid z0
    have HAZ:=hid hAZ
    subst hAZ
    clear hrl hlr z0
    have z0:=cell_keep HZ0.out hb1.out
    go_upto_region 11 with fail
    go_region
    clear z0 c0
    go_wp2_with fail
    go_loopw [11] (fun i wq=>∃ r:Nat,i=.int .i64 (r:Int)∧r≤rs∧Hid (But No w3 wq)) (fun i _=>rs-(intOf i).toNat)
    case atStart=>exact⟨0,rfl,by omega,hb1.out.drew⟩
    case round =>
     clear c7
     obtain⟨r,rfl,hrr,hb2⟩:=hrel
     have hr0:(0:Int)≤(r:Int):=Int.natCast_nonneg r
     obtain⟨c0,c1,c2,c3,c4,c5,c6,c7,c8⟩:=BK.out _ (H3.out.trans hb2.out)
     rw[HCO.out.1] at c0
     rw[HRS.out.1] at c7
     clear c1 c2 c3 c4 c5 c6 c8
     by_cases hrc:r<rs
     ·have hrc2:(r:Int)<(rs:Int):=by omega
      have z0:=cell_keep HZ0.out hb2.out
      obtain⟨br,orr,hAR,_,hcr⟩:=HRL.out.at_ (by omega)
      subst hAR
      have y0:=hcr r hrc
      rw[ceRat (by rw[HRS.out.2];exact hrc)] at y0
      have HY0:=hid y0
      obtain⟨ce,hce⟩:∃ ce,ceN s L (k:Int) L.length r=ce:=⟨_,rfl⟩
      rw[hce] at y0 HY0
      have HCE:=hid hce
      obtain⟨q0,m0⟩:∃ q0,decide (ce=0)=q0:=⟨_,rfl⟩
      have m0':(ce == 0)=q0:=by rw[←m0];by_cases h:ce=0 <;> simp[h]
      have HM0:Hid (mtV s L (k:Int) r 0=q0):=hid (by rw[mtV,HCE.out,m0])
      have HMA:Hid (mtV s L (k:Int) r n=true):=hid (by have:=mt_all HP.out (k:Int) r;rwa [HNL.out] at this)
      have HTU:Hid (∀ (i:Nat) (l:List Pc),L[i]? = some l→usB s L (k:Int) r i=true→ce≠0∧ce≤ceP s L i l):=hid (fun i l h1 h2=>by have:=top_us HP.out h1 h2;rwa [HCE.out] at this)
      have HMS:Hid (∀ i,mtV s L (k:Int) r (i+1)=(mtV s L (k:Int) r i || (usB s L (k:Int) r i && decide (ce=ceP s L i (L.getD i []))))):=hid (fun i=>by rw[mtV,HCE.out])
      clear hce hcr y0
      have y0:=cell_keep HY0.out hb2.out
      go_wp2_with fail
      clear z0 y0 c0 c7
      go_loopw [12,13] (fun m i w4=>∃ (mt:Bool) (i':Nat),m=.bool mt∧i=.int .i64 (i':Int)∧i'≤n∧Hid (mt=mtV s L (k:Int) r i')∧Hid (But No w3 w4)) (fun _ i _=>n-(intOf i).toNat)
      case atStart=>exact⟨_,0,rfl,rfl,by omega,hid HM0.out.symm,hb2⟩
      case round =>
       obtain⟨mt,i,rfl,rfl,hi,hmt,hb4⟩:=hrel
       have hi0:(0:Int)≤(i:Int):=Int.natCast_nonneg i
       by_cases hic:i<n
       ·have hic2:(i:Int)<(n:Int):=by omega
        obtain⟨l,hl⟩:∃ l,L[i]? = some l:=⟨_,List.getElem?_eq_getElem (by rw[HNL.out];exact hic)⟩
        obtain⟨t,ht⟩:∃ t,s.ts[i]? = some t:=⟨_,List.getElem?_eq_getElem (by rw[HNN.out];exact hic)⟩
        obtain⟨bl,ol,AL,cL,hB,_,e0,hcL,hpc⟩:=(R3.out.2.no hb4.out).at1 (rkV_at (s:=s) hl)
        have hlen:(rkL s L i l).length=l.length:=by unfold rkL;rw[List.length_map]
        rw[hlen] at e0 hcL
        subst hB
        have HUV:Hid (usB s L (k:Int) r i=(decide (whO l=(k:Int)) && askV t (r:Int))):=hid (by unfold usB;rw[getL hl,getT ht])
        have HTUL:=hid (HTU.out i l hl)
        have HMSL:Hid (mtV s L (k:Int) r (i+1)=(mtV s L (k:Int) r i || (usB s L (k:Int) r i && decide (ce=ceP s L i l)))):=hid (by rw[HMS.out,getL hl])
        by_cases h1:l.length=1
        ·obtain⟨x,rfl⟩:=List.length_eq_one_iff.1 h1
         have hpc1:=hpc
         obtain⟨bp,op,hAL,_,p0,p1,p2,p3,p4⟩:=hpc1.at1 (k:=0) (x:=rkP s L i x) rfl
         subst hAL
         have HCP:Hid (ceP s L i [x]=max 1 (rkP s L i x).pr):=hid rfl
         obtain⟨pr,hpr⟩:∃ pr,(rkP s L i x).pr=pr:=⟨_,rfl⟩
         have hxc:(rkP s L i x).co=x.co:=rfl
         have hxt:(rkP s L i x).ti=x.ti:=rfl
         rw[hpr] at p3 HCP
         rw[hxc] at p0
         rw[hxt] at p4
         dsimp only[List.length_cons,List.length_nil] at e0
         simp only[Nat.zero_mul,Nat.add_zero,Nat.zero_add] at e0 p0 p3 p4
         clear p1 p2 hpr hxc hxt hlen h1
         obtain⟨x0,x1',x2',x3',x4⟩:=x
         dsimp only at p0 p4
         cases x4 with
         | true =>
          have HMT:Hid (mtV s L (k:Int) r (i+1)=mtV s L (k:Int) r i):=hid (by rw[HMSL.out,HUV.out,show whO [⟨x0,x1',x2',x3',true⟩] = -1 by unfold whO;rw[if_neg (by simp)],decide_eq_false (by omega),Bool.false_and,Bool.false_and,Bool.or_false])
          go_wp2_with fail
          go_roundw
          case rel=>exact⟨_,i+1,rfl,by go_num,by omega,hid (by rw[HMT.out];exact hmt.out),hb4⟩
          case measure=>simp[intOf];omega
         | false =>
          have hwo:whO [⟨x0,x1',x2',x3',false⟩]=x0:=by unfold whO;rw[if_pos ⟨rfl,rfl⟩];rfl
          by_cases hxk:x0=(k:Int)
          ·have d2:decide (x0=(k:Int))=true:=decide_eq_true hxk
           have d2':(x0 == (k:Int))=true:=by simp[hxk]
           rw[hwo,decide_eq_true hxk,Bool.true_and] at HUV
           obtain⟨bt,ot,AS,cS,hA,t0,t1,t2,t3,hcS,hsec⟩:=(HS.out.ts.no (HB0.out.trans (H3.out.trans (hb4.out)))).at1 ht
           obtain⟨c0,c1,c2,c3,c4,c5,c6,c7,c8⟩:=BK.out _ (H3.out.trans (hb4.out))
           subst hA
           have HSEC:=hid hsec
           have CA:Hid (∀ W,But No wr W→Calls Tryz.prog 24 #[tskV t AS t.secs.length cS,.int .i64 (r:Int)] W fun e w'=>e=.returned (.bool (askV t (r:Int)))∧But No W w'):=hid (fun W hW=>asks_any t AS _ cS (r:Int) W (HSEC.out.no hW))
           unfold tskV at CA
           have HEP:=hid (And.intro e0 p3)
           clear c0 c1 c2 c3 c4 c5 c6 c7 hwo
           obtain⟨tp,td,tw,tss⟩:=t
           dsimp only at CA t0 t1 t2 t3 hcS
           cases hask:askV ⟨tp,td,tw,tss⟩ (r:Int)with
           | false =>
            rw[hask] at CA HUV
            have HMT:Hid (mtV s L (k:Int) r (i+1)=mtV s L (k:Int) r i):=hid (by rw[HMSL.out,HUV.out,Bool.false_and,Bool.or_false])
            clear hask
            go_wp2_with (go_at_call 24;(with_reducible refine(CA.out _ (But.refl _ _)).mono ?_);rintro e w5 ⟨rfl,h5⟩;have H5:=hid (hb4.out.trans h5);clear h5)
            go_roundw
            case rel=>exact⟨_,i+1,rfl,by go_num,by omega,hid (by rw[HMT.out];exact hmt.out),H5⟩
            case measure=>simp[intOf];omega
           | true =>
            rw[hask] at CA HUV
            obtain⟨g1,g2⟩:=HTUL.out HUV.out
            rw[HCP.out] at g2
            obtain⟨P,hP⟩:∃ P,max 1 pr=P:=⟨_,rfl⟩
            have HPP:=hid hP
            rw[hP] at g2 HCP
            have n0:q0=false:=by rw[←m0];exact decide_eq_false g1
            subst n0
            have n1:decide (P<ce)=false:=decide_eq_false (by omega)
            have HMT:Hid (mtV s L (k:Int) r (i+1)=(mtV s L (k:Int) r i || decide (ce=P))):=hid (by rw[HMSL.out,HUV.out,HCP.out,Bool.true_and])
            clear hask hP g1
            go_upto_region 22 with(go_at_call 24;(with_reducible refine(CA.out _ (But.refl _ _)).mono ?_);rintro e w5 ⟨rfl,h5⟩;have H5:=hid (hb4.out.trans h5);have e0:=cell_keep HEP.out.1 h5;have p3:=cell_keep HEP.out.2 h5;clear h5)
            have z0:=cell_keep HZ0.out H5.out
            have y0:=cell_keep HY0.out H5.out
            have hPP:=HPP.out
            go_upto_region 23 with fail
            clear hPP
            go_upto_region 25 with fail
            cases mt with
            | true =>
             go_wp2_with fail
             go_roundw
             case rel=>exact⟨true,i+1,rfl,by go_num,by omega,hid (by rw[HMT.out,←hmt.out,Bool.true_or]),H5⟩
             case measure=>simp[intOf];omega
            | false =>
             by_cases hcp:ce=P
             ·have n2:decide (ce=P)=true:=decide_eq_true hcp
              have n2':(ce == P)=true:=by simp[hcp]
              have HN2:=hid n2
              clear hcp
              go_wp2_with fail
              go_roundw
              case rel=>exact⟨true,i+1,rfl,by go_num,by omega,hid (by rw[HMT.out,HN2.out,Bool.or_true]),H5⟩
              case measure=>simp[intOf];omega
             ·have n2:decide (ce=P)=false:=decide_eq_false hcp
              have n2':(ce == P)=false:=by simp[hcp]
              have HN2:=hid n2
              clear hcp
              go_wp2_with fail
              go_roundw
              case rel=>exact⟨false,i+1,rfl,by go_num,by omega,hid (by rw[HMT.out,HN2.out,Bool.or_false];exact hmt.out),H5⟩
              case measure=>simp[intOf];omega
          ·have d2:decide (x0=(k:Int))=false:=decide_eq_false hxk
           have d2':(x0 == (k:Int))=false:=by simp[hxk]
           have HMT:Hid (mtV s L (k:Int) r (i+1)=mtV s L (k:Int) r i):=hid (by rw[HMSL.out,HUV.out,hwo,decide_eq_false hxk,Bool.false_and,Bool.false_and,Bool.or_false])
           clear hwo
           go_wp2_with fail
           go_roundw
           case rel=>exact⟨_,i+1,rfl,by go_num,by omega,hid (by rw[HMT.out];exact hmt.out),hb4⟩
           case measure=>simp[intOf];omega
        ·have HMT:Hid (mtV s L (k:Int) r (i+1)=mtV s L (k:Int) r i):=hid (by rw[HMSL.out,HUV.out,show whO l = -1 by unfold whO;rw[if_neg (by simp[h1])],decide_eq_false (by omega),Bool.false_and,Bool.false_and,Bool.or_false])
         have d1:decide (l.length=1)=false:=by simp[h1]
         have d1':((l.length:Int) == 1)=false:=by simp;omega
         have d1'':decide ((l.length:Int)=1)=false:=by simp;omega
         clear hlen
         go_wp2_with fail
         go_roundw
         case rel=>exact⟨_,i+1,rfl,by go_num,by omega,hid (by rw[HMT.out];exact hmt.out),hb4⟩
         case measure=>simp[intOf];omega
       ·have hie:i=n:=by omega
        subst hie
        have hmt2:=hmt.out
        rw[HMA.out] at hmt2
        subst hmt2
        go_wp2_with fail
        refine⟨⟨r+1,by go_num,by omega,hb4⟩,?_⟩
        simp[intOf];omega
     ·have hre:r=rs:=by omega
      subst hre
      go_wp2_with fail
      refine⟨⟨k+1,by go_num,by omega,hb2⟩,?_⟩
      simp[intOf];omega
   ·have hke:k=co:=by omega
    subst hke
    go_wp2_with fail
    go_ret
    exact⟨rfl,HB0.out.trans (H3.out.trans hb1.out)⟩
end analysisTops
end Go.Proofs.YtjfaiaipojfhgaaGreat.pln
end
