/- Part 7 of a proof: PlR1 PlR2 PlR3. -/
import Derived.Deep.DeepCutAuto
import Derived.Test.YtikcigjbhohboaaGreatM02
import Derived.Test.YtikcigjbhohboaaGreatM05
section
namespace Go.Proofs.YtikcigjbhohboaaGreat.pln
open Go.Lib (hid)
open Go.ChangeShapes Go.WideShapes Go.ChangeAt Go.RowKit Go.Deep val
set_option maxRecDepth 100000 in
set_option maxHeartbeats 8000000 in
theorem rlist_any (s:Sys) (A:Option Addr) (n c i:Nat) (t:Tsk) (A':Option Addr) (m c':Nat) (l:List Pc) (w:World) (hs:RSys w A n c s) (ht:s.ts[i]? = some t) (hl:RPc w A' m l) (hW:1≤t.w∧t.w≤1099511627776) (hD:1≤t.d∧t.d≤1099511627776) (hla:1≤s.la∧s.la≤50) :
  Calls Tryz.prog 92 #[sysV s A n c,.int .i64 (i:Int),.slice A' m c'] w fun e w'=>e=.returned (.bool (okL s t l))∧But No w w':=by
 have HN:=hid hl.len
 have HL:=hid hl
 have hmax:=hl.max
 have hil:i<s.ts.length:=(List.getElem?_eq_some_iff.1 ht).1
 have hin:i<n:=by rw[←hs.ts.len];exact hil
 have hin2:(i:Int)<(n:Int):=by omega
 have hi0:(0:Int)≤(i:Int):=Int.natCast_nonneg i
 have hnmax:=hs.ts.max
 have hbS:But No w (w.alloc (.cells (boxS s A n c) 24)):=(But.refl No w).alloc _
 obtain⟨bt,offt,AS,cS,eA,e0,e1,e2,e3,_,_⟩:=(hs.ts.no hbS).at1 ht
 subst eA
 unfold sysV
 have k0:=sys_cells (Blk.new w (boxS s (some ⟨bt,offt,none⟩) n c) 24)
 have hb0:But No w ((w.alloc (.cells (boxS s (some ⟨bt,offt,none⟩) n c) 24)).alloc (.cells (boxT t AS t.secs.length cS) 97)):=hbS.trans ((But.refl No _).alloc _)
 have HB0:=hid hb0
 have BS:Hid (Blk ((w.alloc (.cells (boxS s (some ⟨bt,offt,none⟩) n c) 24)).alloc (.cells (boxT t AS t.secs.length cS) 97)) w.heap.size (boxS s (some ⟨bt,offt,none⟩) n c) 24):=hid ((Blk.new w _ _).alloc _)
 have BT:Hid (Blk ((w.alloc (.cells (boxS s (some ⟨bt,offt,none⟩) n c) 24)).alloc (.cells (boxT t AS t.secs.length cS) 97)) (w.heap.size+1) (boxT t AS t.secs.length cS) 97):=hid (blk2 w _ _ _)
 have HLW:=hid (HL.out.no hb0)
 have t1:=(blk2 w (.cells (boxS s (some ⟨bt,offt,none⟩) n c) 24) (boxT t AS t.secs.length cS) 97).cell (o:=1) rfl
 clear hs ht hl hb0 hbS hil HL
 by_cases h8:8<m
 ·have HE:Hid (okL s t l=false):=hid (by unfold okL;rw[HN.out];simp;omega)
  have d8:decide (8<m)=true:=by simp[h8]
  have d8':decide ((8:Int)<(m:Int))=true:=by simp;omega
  unfold boxS boxT at HB0 t1;unfold boxS at k0 e0 e1 e2 e3
  go_enter Tryz.func92,Tryz.ntmps92
  go_wp2
  go_ret
  exact⟨ret_bool HE.out.symm,HB0.out⟩
 ·have d8:decide (8<m)=false:=by simp;omega
  have d8':decide ((8:Int)<(m:Int))=false:=by simp;omega
  have HB0':=HB0
  unfold boxS boxT at HB0 t1;unfold boxS at k0 e0 e1 e2 e3
  go_enter Tryz.func92,Tryz.ntmps92
  go_wp2_with fail
  go_loopw [8,9,10] (fun u v i wr=>∃ q:Nat,u=.int .i64 (smN l q)∧v=.int .i64 (lfN s.la t.d l q)∧i=.int .i64 (q:Int)∧q≤m∧(0≤smN l q∧smN l q≤q*1099511627776)∧(t.d-q*2199023255552≤lfN s.la t.d l q∧lfN s.la t.d l q≤t.d)∧Hid (okN s t l q=true)∧Hid (But No ((w.alloc (.cells (boxS s (some ⟨bt,offt,none⟩) n c) 24)).alloc (.cells (boxT t AS t.secs.length cS) 97)) wr)) (fun _ _ i _=>m-(intOf i).toNat)
  case atStart=>exact⟨0,rfl,rfl,rfl,by omega,⟨by rw[smN];exact Int.le_refl 0,by rw[smN];omega⟩,⟨by rw[lfN];omega,by rw[lfN];exact Int.le_refl _⟩,rfl,But.refl No _⟩
  case round =>
   obtain⟨q,rfl,rfl,rfl,hq,hsm,hlf,HOK,HBR⟩:=hrel
   have hq0:(0:Int)≤(q:Int):=Int.natCast_nonneg q
   by_cases hqm:q<m
   ·have hqm2:(q:Int)<(m:Int):=by omega
    obtain⟨x,hx⟩:∃ x,l[q]? = some x:=⟨_,List.getElem?_eq_getElem (by rw[HN.out];exact hqm)⟩
    obtain⟨b,off,rfl,_,p0,p1,p2,p3,p4⟩:=(HLW.out.no HBR.out).at1 hx
    have HX:=hid hx
    have HSN:=hid (smN_next hx)
    have HLN:=hid (lfN_next (la:=s.la) (d:=t.d) hx)
    have HNX:=hid (fun h=>okN_next (s:=s) (t:=t) hx HOK.out h)
    obtain⟨S,hS⟩:∃ S,smN l q=S:=⟨_,rfl⟩
    obtain⟨Lf,hLf⟩:∃ Lf,lfN s.la t.d l q=Lf:=⟨_,rfl⟩
    have HLF:=hid hLf
    rw[hS] at hsm HSN ⊢
    rw[hLf] at hlf HLN ⊢
    have hb2:bad2 l q x=bad2 l q x:=rfl
    clear hx hS hLf hb2
    obtain⟨x0,x1,x2,x3,x4⟩:=x
    dsimp only at p0 p1 p2 p3 p4 HSN HLN
    have HBX:Hid (But No wr (wr.alloc (.cells #[.int .i64 x0,.int .i64 x1,.int .i64 x2,.int .i64 x3,.bool x4] 42))):=hid ((But.refl No wr).alloc _)
    have bs:=BS.out.but (HBR.out.trans HBX.out) (fun f=>f)
    have btt:=BT.out.but (HBR.out.trans HBX.out) (fun f=>f)
    have s0:=bs.cell (o:=0) rfl
    have s6:=bs.cell (o:=6) rfl
    have w2:=btt.cell (o:=2) rfl
    have w3:=btt.cell (o:=3) rfl
    have hdm:((m:Int)-1)=((m-1:Nat):Int):=by omega
    have hxb:=Blk.new wr #[.int .i64 x0,.int .i64 x1,.int .i64 x2,.int .i64 x3,.bool x4] 42
    have y0:=hxb.cell (o:=0) rfl
    have y1:=hxb.cell (o:=1) rfl
    have y2:=hxb.cell (o:=2) rfl
    have y4:=hxb.cell (o:=4) rfl
    clear bs btt hxb
    unfold boxS at s0 s6
    unfold boxT at w2 w3
    go_upto_region 11 with fail
    obtain⟨bx,hbx⟩:∃ bx,wr.heap.size=bx:=⟨_,rfl⟩
    generalize wr.alloc (.cells #[.int .i64 x0,.int .i64 x1,.int .i64 x2,.int .i64 x3,.bool x4] 42)=V at HBX s0 s6 w2 w3 y0 y1 y2 y4 ⊢
    rw[hbx] at y0 y1 y2 y4 ⊢
    clear p0 p1 p2 p3 p4 hbx
    have HSEC:Hid (0≤(t.secs.length:Int)):=hid (Int.natCast_nonneg _)
    by_cases g1:x0<0
    ·have dg1:decide (x0<0)=true:=by simp[g1]
     have HE:Hid (okL s t l=false):=hid (okL_bad HX.out (by unfold badP;rw[show bad1 s t (decide (q+1=l.length)) ⟨x0,x1,x2,x3,x4⟩=true by unfold bad1;simp[g1]];rfl))
     go_wp2
     go_ret
     exact⟨ret_bool HE.out.symm,HB0.out.trans (HBR.out.trans HBX.out)⟩
    ·have dg1:decide (x0<0)=false:=by simp[g1]
     by_cases g2:s.co≤x0
     ·have dg2:decide (s.co≤x0)=true:=by simp[g2]
      have HE:Hid (okL s t l=false):=hid (okL_bad HX.out (by unfold badP;rw[show bad1 s t (decide (q+1=l.length)) ⟨x0,x1,x2,x3,x4⟩=true by unfold bad1;simp[g2]];rfl))
      go_wp2
      go_ret
      exact⟨ret_bool HE.out.symm,HB0.out.trans (HBR.out.trans HBX.out)⟩
     ·have dg2:decide (s.co≤x0)=false:=by simp[g2]
      by_cases g3:x1<1
      ·have dg3:decide (x1<1)=true:=by simp[g3]
       have HE:Hid (okL s t l=false):=hid (okL_bad HX.out (by unfold badP;rw[show bad1 s t (decide (q+1=l.length)) ⟨x0,x1,x2,x3,x4⟩=true by unfold bad1;simp[g3]];rfl))
       go_wp2
       go_ret
       exact⟨ret_bool HE.out.symm,HB0.out.trans (HBR.out.trans HBX.out)⟩
      ·have dg3:decide (x1<1)=false:=by simp[g3]
       by_cases g4:t.w<x1
       ·have dg4:decide (t.w<x1)=true:=by simp[g4]
        have HE:Hid (okL s t l=false):=hid (okL_bad HX.out (by unfold badP;rw[show bad1 s t (decide (q+1=l.length)) ⟨x0,x1,x2,x3,x4⟩=true by unfold bad1;simp[g4]];rfl))
        go_wp2
        go_ret
        exact⟨ret_bool HE.out.symm,HB0.out.trans (HBR.out.trans HBX.out)⟩
       ·have dg4:decide (t.w<x1)=false:=by simp[g4]
        cases x4 with
        | true =>
         by_cases g6:0<t.secs.length
         ·have dg6:decide (0<t.secs.length)=true:=by simp[g6]
          have dg6':decide ((0:Int)<(t.secs.length:Int))=true:=decide_eq_true (by omega)
          have HE:Hid (okL s t l=false):=hid (okL_bad HX.out (by unfold badP;rw[show bad1 s t (decide (q+1=l.length)) ⟨x0,x1,x2,x3,true⟩=true by unfold bad1;simp[g6]];rfl))
          go_wp2
          go_ret
          exact⟨ret_bool HE.out.symm,HB0.out.trans (HBR.out.trans HBX.out)⟩
         ·have dg6:decide (0<t.secs.length)=false:=by simp[g6]
          have dg6':decide ((0:Int)<(t.secs.length:Int))=false:=decide_eq_false (by omega)
          go_wp2_with fail
          go_loopw [13] (fun r v2=>∃ k:Nat,r=.int .i64 (k:Int)∧k≤q∧Hid (∀ j y,j<k→l[j]? = some y→y.co≠x0)∧Hid (But No V v2)) (fun r _=>q-(intOf r).toNat)
          case atStart=>exact⟨0,rfl,by omega,fun j y hj=>absurd hj (by omega),But.refl No V⟩
          case round =>
           obtain⟨k,rfl,hk,HNO,HV⟩:=hrel
           have HBX:=hid (HBX.out.trans HV.out)
           have y0:=cell_keep y0 HV.out
           have y1:=cell_keep y1 HV.out
           have y2:=cell_keep y2 HV.out
           have y4:=cell_keep y4 HV.out
           have s6:=cell_keep s6 HV.out
           have w2:=cell_keep w2 HV.out
           have hk0:(0:Int)≤(k:Int):=Int.natCast_nonneg k
           by_cases hkq:k<q
           ·have hkq2:(k:Int)<(q:Int):=by omega
            have hkm2:(k:Int)<(m:Int):=by omega
            obtain⟨y,hy⟩:∃ y,l[k]? = some y:=⟨_,List.getElem?_eq_getElem (by rw[HN.out];omega)⟩
            obtain⟨b',off',eA,_,z0,_⟩:=(HLW.out.no (HBR.out.trans HBX.out)).at1 hy
            cases eA
            have HY:=hid hy
            clear hy
            obtain⟨yc,yb,yd,yp,yt⟩:=y
            dsimp only at z0
            by_cases he:yc=x0
            ·have HE:Hid (okL s t l=false):=hid (okL_bad HX.out (by unfold badP;rw[bad2_next (x:=⟨x0,x1,x2,x3,true⟩) hkq HY.out he];simp))
             subst he
             clear HNO HY
             go_wp2_with fail
             go_region
             all_goals (try go_wp2)
             all_goals go_ret
             all_goals exact⟨ret_bool HE.out.symm,HB0.out.trans (HBR.out.trans (by first | exact HBX.out.drew | exact HBX.out))⟩
            ·have de:decide (yc=x0)=false:=by simp[he]
             have de':(yc == x0)=false:=by simp[he]
             have HNO2:Hid (∀ j y,j<k+1→l[j]? = some y→y.co≠x0):=hid (fun j y hj hyj=>by
              by_cases e:j=k
              ·subst e;rw[HY.out] at hyj;cases hyj;exact he
              ·exact HNO.out j y (by omega) hyj)
             clear HNO HY
             go_wp2_with fail
             go_region
             all_goals (try go_wp2)
             all_goals go_roundw
             case rel=>exact⟨k+1,by go_num,by omega,HNO2.out,HV.out.drew⟩
             case measure=>simp[intOf];omega
           ·have hkq2:decide ((k:Int)<(q:Int))=false:=by simp;omega
            have hkq3:k=q:=by omega
            subst k
            by_cases g7:x2=x1
            ·have dg7:(x2 != x1)=false:=by simp[g7]
             have dg7':decide (x2=x1)=true:=by simp[g7]
             have HOK2:=hid (HNX.out (by unfold badP;rw[show bad1 s t (decide (q+1=l.length)) ⟨x0,x1,x2,x3,true⟩=false by unfold bad1;simp[g1,g2,g3,g4,g6],bad2_none HNO.out,show bad3 (lfN s.la t.d l q) ⟨x0,x1,x2,x3,true⟩=false by unfold bad3;rw[HLF.out];simp[g7]];rfl))
             have u1_:IntKind.i64.wrap (S+x1)=S+x1:=IntWalk.i64_in (S+x1) (by omega)
             have u2_:IntKind.i64.wrap (Lf-x1)=Lf-x1:=IntWalk.i64_in (Lf-x1) (by omega)
             have u3_:IntKind.i64.wrap (s.la-1)=s.la-1:=IntWalk.i64_in (s.la-1) (by omega)
             have u4_:IntKind.i64.wrap (Lf-x1-(s.la-1))=Lf-x1-(s.la-1):=IntWalk.i64_in (Lf-x1-(s.la-1)) (by omega)
             clear HNO
             go_wp2
             go_roundw
             case rel=>exact⟨q+1,by rw[HSN.out],by rw[HLN.out],by go_num,by omega,by rw[HSN.out];omega,by rw[HLN.out];omega,HOK2.out,HBR.out.trans HBX.out⟩
             case measure=>simp[intOf];omega
            ·have dg7:(x2 != x1)=true:=by simp[g7]
             have dg7':decide (x2=x1)=false:=by simp[g7]
             clear HNO
             have HE:Hid (okL s t l=false):=hid (okL_bad HX.out (by unfold badP;rw[show bad3 (lfN s.la t.d l q) ⟨x0,x1,x2,x3,true⟩=true by unfold bad3;rw[HLF.out];simp[g7]];simp))
             go_wp2
             go_ret
             exact⟨ret_bool HE.out.symm,HB0.out.trans (HBR.out.trans HBX.out)⟩
        | false =>
         by_cases g5:q+1=m
         ·have dg5:((q:Int) == ((m-1:Nat):Int))=true:=by simp;omega
          go_wp2_with fail
          go_loopw [13] (fun r v2=>∃ k:Nat,r=.int .i64 (k:Int)∧k≤q∧Hid (∀ j y,j<k→l[j]? = some y→y.co≠x0)∧Hid (But No V v2)) (fun r _=>q-(intOf r).toNat)
          case atStart=>exact⟨0,rfl,by omega,fun j y hj=>absurd hj (by omega),But.refl No V⟩
          case round =>
           obtain⟨k,rfl,hk,HNO,HV⟩:=hrel
           have HBX:=hid (HBX.out.trans HV.out)
           have y0:=cell_keep y0 HV.out
           have y1:=cell_keep y1 HV.out
           have y2:=cell_keep y2 HV.out
           have y4:=cell_keep y4 HV.out
           have s6:=cell_keep s6 HV.out
           have w2:=cell_keep w2 HV.out
           have hk0:(0:Int)≤(k:Int):=Int.natCast_nonneg k
           by_cases hkq:k<q
           ·have hkq2:(k:Int)<(q:Int):=by omega
            have hkm2:(k:Int)<(m:Int):=by omega
            obtain⟨y,hy⟩:∃ y,l[k]? = some y:=⟨_,List.getElem?_eq_getElem (by rw[HN.out];omega)⟩
            obtain⟨b',off',eA,_,z0,_⟩:=(HLW.out.no (HBR.out.trans HBX.out)).at1 hy
            cases eA
            have HY:=hid hy
            clear hy
            obtain⟨yc,yb,yd,yp,yt⟩:=y
            dsimp only at z0
            by_cases he:yc=x0
            ·have HE:Hid (okL s t l=false):=hid (okL_bad HX.out (by unfold badP;rw[bad2_next (x:=⟨x0,x1,x2,x3,false⟩) hkq HY.out he];simp))
             subst he
             clear HNO HY
             go_wp2_with fail
             go_region
             all_goals (try go_wp2)
             all_goals go_ret
             all_goals exact⟨ret_bool HE.out.symm,HB0.out.trans (HBR.out.trans (by first | exact HBX.out.drew | exact HBX.out))⟩
            ·have de:decide (yc=x0)=false:=by simp[he]
             have de':(yc == x0)=false:=by simp[he]
             have HNO2:Hid (∀ j y,j<k+1→l[j]? = some y→y.co≠x0):=hid (fun j y hj hyj=>by
              by_cases e:j=k
              ·subst e;rw[HY.out] at hyj;cases hyj;exact he
              ·exact HNO.out j y (by omega) hyj)
             clear HNO HY
             go_wp2_with fail
             go_region
             all_goals (try go_wp2)
             all_goals go_roundw
             case rel=>exact⟨k+1,by go_num,by omega,HNO2.out,HV.out.drew⟩
             case measure=>simp[intOf];omega
           ·have hkq2:decide ((k:Int)<(q:Int))=false:=by simp;omega
            have hkq3:k=q:=by omega
            subst k
            by_cases g7:x2=Lf
            ·have dg7:(x2 != Lf)=false:=by simp[g7]
             have dg7':decide (x2=Lf)=true:=by simp[g7]
             by_cases g8:Lf<1
             ·have dg8:decide (Lf<1)=true:=by simp[g8]
              clear HNO
              have HE:Hid (okL s t l=false):=hid (okL_bad HX.out (by unfold badP;rw[show bad3 (lfN s.la t.d l q) ⟨x0,x1,x2,x3,false⟩=true by unfold bad3;rw[HLF.out];simp[g8]];simp))
              go_wp2
              go_ret
              exact⟨ret_bool HE.out.symm,HB0.out.trans (HBR.out.trans HBX.out)⟩
             ·have dg8:decide (Lf<1)=false:=by simp[g8]
              have HOK2:=hid (HNX.out (by unfold badP;rw[show bad1 s t (decide (q+1=l.length)) ⟨x0,x1,x2,x3,false⟩=false by unfold bad1;simp[g1,g2,g3,g4,g5,HN.out],bad2_none HNO.out,show bad3 (lfN s.la t.d l q) ⟨x0,x1,x2,x3,false⟩=false by unfold bad3;rw[HLF.out];simp[g7,g8]];rfl))
              have u1_:IntKind.i64.wrap (S+x1)=S+x1:=IntWalk.i64_in (S+x1) (by omega)
              have u2_:IntKind.i64.wrap (Lf-x1)=Lf-x1:=IntWalk.i64_in (Lf-x1) (by omega)
              have u3_:IntKind.i64.wrap (s.la-1)=s.la-1:=IntWalk.i64_in (s.la-1) (by omega)
              have u4_:IntKind.i64.wrap (Lf-x1-(s.la-1))=Lf-x1-(s.la-1):=IntWalk.i64_in (Lf-x1-(s.la-1)) (by omega)
              clear HNO
              go_wp2
              go_roundw
              case rel=>exact⟨q+1,by rw[HSN.out],by rw[HLN.out],by go_num,by omega,by rw[HSN.out];omega,by rw[HLN.out];omega,HOK2.out,HBR.out.trans HBX.out⟩
              case measure=>simp[intOf];omega
            ·have dg7:(x2 != Lf)=true:=by simp[g7]
             have dg7':decide (x2=Lf)=false:=by simp[g7]
             clear HNO
             have HE:Hid (okL s t l=false):=hid (okL_bad HX.out (by unfold badP;rw[show bad3 (lfN s.la t.d l q) ⟨x0,x1,x2,x3,false⟩=true by unfold bad3;rw[HLF.out];simp[g7]];simp))
             go_wp2
             go_ret
             exact⟨ret_bool HE.out.symm,HB0.out.trans (HBR.out.trans HBX.out)⟩
         ·have dg5:((q:Int) == ((m-1:Nat):Int))=false:=by simp;omega
          have HE:Hid (okL s t l=false):=hid (okL_bad HX.out (by unfold badP;rw[show bad1 s t (decide (q+1=l.length)) ⟨x0,x1,x2,x3,false⟩=true by unfold bad1;simp[g5,HN.out]];rfl))
          go_wp2
          go_ret
          exact⟨ret_bool HE.out.symm,HB0.out.trans (HBR.out.trans HBX.out)⟩
   ·have hqe:q=m:=by omega
    have b3:decide ((q:Int)<(m:Int))=false:=by simp;omega
    subst hqe
    have HWL:=hid (HLW.out.no HBR.out)
    have btt:=BT.out.but HBR.out (fun f=>f)
    have w2:=btt.cell (o:=2) rfl
    clear btt
    unfold boxT at w2
    obtain⟨S,hS⟩:∃ S,smN l q=S:=⟨_,rfl⟩
    have HSS:=hid hS
    rw[hS] at hsm ⊢
    clear hS
    by_cases hm0:q=0
    ·have HE:Hid (okL s t l=true):=hid (by
      have h0:l = []:=List.eq_nil_of_length_eq_zero (by rw[HN.out];exact hm0)
      unfold okL;rw[h0];simp[okN])
     subst hm0
     go_wp2
     go_ret
     exact⟨ret_bool HE.out.symm,HB0.out.trans HBR.out⟩
    ·have hz1:decide (q=0)=false:=by simp[hm0]
     have hz2:((q:Int) == 0)=false:=by simp;omega
     have hz3:decide ((q:Int)=0)=false:=by simp;omega
     obtain⟨x,hx⟩:∃ x,l[q-1]? = some x:=⟨_,List.getElem?_eq_getElem (by rw[HN.out];omega)⟩
     obtain⟨b,off,rfl,_,p0,p1,p2,p3,p4⟩:=HWL.out.at1 hx
     have HE:Hid (okL s t l=if x.ti=true then decide (S<t.w) else decide (S=t.w)):=hid (by
      have hne:decide (l = [])=false:=by simp;intro h;rw[h] at hx;simp at hx
      unfold okL;rw[HN.out,HOK.out,hne,getD_some hx,HSS.out]
      have:decide (q≤8)=true:=by simp;omega
      rw[this];simp)
     have hq1:((q:Int)-1)=((q-1:Nat):Int):=by omega
     have hq2:((q-1:Nat):Int)<(q:Int):=by omega
     have hq3:(0:Int)≤((q-1:Nat):Int):=Int.natCast_nonneg _
     have hq4:IntKind.i64.wrap ((q:Int)-1)=((q-1:Nat):Int):=by rw[hq1];exact IntWalk.i64_in _ (by omega)
     clear hx
     obtain⟨x0,x1,x2,x3,x4⟩:=x
     dsimp only at p4 HE
     cases x4 with
     | true =>
      by_cases hf:S<t.w
      ·have df:decide (S<t.w)=true:=by simp[hf]
       rw[if_pos rfl,df] at HE
       go_wp2
       go_ret
       exact⟨ret_bool HE.out.symm,HB0.out.trans HBR.out⟩
      ·have df:decide (S<t.w)=false:=by simp[hf]
       rw[if_pos rfl,df] at HE
       go_wp2
       go_ret
       exact⟨ret_bool HE.out.symm,HB0.out.trans HBR.out⟩
     | false =>
      by_cases hf:S=t.w
      ·have df:decide (S=t.w)=true:=by simp[hf]
       have df':(S == t.w)=true:=by simp[hf]
       rw[if_neg (by simp),df] at HE
       go_wp2
       go_ret
       exact⟨ret_bool HE.out.symm,HB0.out.trans HBR.out⟩
      ·have df:decide (S=t.w)=false:=by simp[hf]
       have df':(S == t.w)=false:=by simp[hf]
       rw[if_neg (by simp),df] at HE
       go_wp2
       go_ret
       exact⟨ret_bool HE.out.symm,HB0.out.trans HBR.out⟩
end Go.Proofs.YtikcigjbhohboaaGreat.pln
end
section
namespace Go.Proofs.YtikcigjbhohboaaGreat.pln
open Go.Lib (hid)
open Go.ChangeShapes Go.WideShapes Go.ChangeAt Go.RowKit Go.Deep val
structure Rw (w wr:World) (v:Value) (zs:List Int):Prop where
 but:But No w wr
 own:Ov wr v zs
 new:∀ k,v.ownBlock=some k→w.heap.size≤k
theorem Rw.no {w wr w2:World} {v:Value} {zs:List Int} (h:Rw w wr v zs) (hb:But No wr w2):Rw w w2 v zs:=⟨h.but.trans hb,h.own.but hb (fun _ _ f=>f),h.new⟩
theorem Rw.start (w:World):Rw w w (.slice none 0 0) []:=⟨But.refl No w,Ov.nil w,own_none⟩
theorem Rw.app {w wr w2:World} {v:Value} {zs:List Int} {x:Int} {A:Option Addr} {c n:Nat} (h:Rw w wr v zs) (hn:n=zs.length+1) (ho:w2.ownsRow 0 3 1 (.slice A n c) n (zs.map (Value.int .i64) ++ [.int .i64 x])) (hg:wr.grownBy w2 v.ownBlock)
  (hat:(Value.slice A n c).ownBlock=v.ownBlock∨(Value.slice A n c).ownBlock=some wr.heap.size):Rw w w2 (.slice A n c) (zs ++ [x]):=by
 refine⟨h.but.grown hg (fun k e=>.inr (h.new k e)),?_,own_new h.new hat h.but.size⟩
 unfold Ov
 rw[List.length_append,List.map_append,show zs.length + [x].length=n by simp[hn]]
 exact ho
def whO (l:List Pc):Int:=if l.length=1∧(l.getD 0 pc0).ti=false then (l.getD 0 pc0).co else -1
theorem take_map {L:List (List Pc)} {q:Nat} {l:List Pc} (h:L[q]? = some l):(L.take (q+1)).map whO=(L.take q).map whO ++ [whO l]:=by
 rw[List.take_add_one,h,List.map_append];rfl
set_option maxRecDepth 100000 in
set_option maxHeartbeats 4000000 in
theorem rwhere_any (A:Option Addr) (n c:Nat) (L:List (List Pc)) (w:World) (h:RPl w A n L) (hn:n≤1000):Calls Tryz.prog 61 #[.slice A n c] w fun e w'=>∃ v,e=.returned v∧Rw w w' v (L.map whO):=by
 have HN:=hid h.len
 have HL:=hid h
 obtain⟨i3,hi0,hz0,hz1,hz2⟩:=info_parts info3
 have I3:Hid (Tryz.prog.info? 3=some i3∧i3.zero=some (.int .i64 0)∧i3.size=1∧i3.bytes=8):=⟨hi0,hz0,hz1,hz2⟩
 clear h hi0 hz0 hz1 hz2
 go_enter Tryz.func61,Tryz.ntmps61
 go_wp2_with fail
 go_loopw [3,4] (fun v i wr=>∃ (vv:Value) (q:Nat),v=vv∧i=.int .i64 (q:Int)∧q≤n∧Hid (Rw w wr vv ((L.take q).map whO))) (fun _ i _=>n-(intOf i).toNat)
 case atStart=>exact⟨_,0,rfl,rfl,by omega,Rw.start w⟩
 case round =>
  obtain⟨v,q,hv,rfl,hq,HR⟩:=hrel
  have hv':=hv.symm
  subst hv'
  clear hv
  have hq0:(0:Int)≤(q:Int):=Int.natCast_nonneg q
  by_cases hqn:q<n
  ·have hqn2:(q:Int)<(n:Int):=by omega
   obtain⟨l,hl⟩:∃ l,L[q]? = some l:=⟨_,List.getElem?_eq_getElem (by rw[HN.out];exact hqn)⟩
   obtain⟨b,off,A',c',rfl,_,e0,_,hpc⟩:=(HL.out.no HR.out.but).at1 hl
   have TM:=hid (take_map hl)
   have HLN:=hid (show ((L.take q).map whO).length=q by rw[List.length_map,List.length_take,HN.out];omega)
   clear hl
   by_cases h1:l.length=1
   ·obtain⟨x,rfl⟩:=List.length_eq_one_iff.1 h1
    obtain⟨b',off',rfl,_,p0,p1,p2,p3,p4⟩:=hpc.at1 (k:=0) (x:=x) rfl
    obtain⟨x0,x1,x2,x3,x4⟩:=x
    dsimp only[List.length_cons,List.length_nil] at e0 p0 p4
    simp only[Nat.zero_mul,Nat.add_zero,Nat.zero_add] at e0 p0 p4
    cases x4 with
    | true =>
     have HW:Hid (whO [⟨x0,x1,x2,x3,true⟩] = -1):=hid (by unfold whO;rw[if_neg (by simp)])
     have HRa:=hid (HR.out.no ((But.refl No wr).alloc (.cells #[.int .i64 (-1)] 3)))
     go_wp2_with (at_builtin;refine wpList_append_sh _ rfl _ _ 26 rfl 3 i3 _ 1 8 Tryz.underlying26 I3.out.1 I3.out.2.1 I3.out.2.2.1 I3.out.2.2.2 rfl (by omega) v q _ rfl (by have h9:=HRa.out.own;unfold Ov at h9;rw[HLN.out] at h9;exact h9) (wr.heap.size+1) (some ⟨wr.heap.size,0,none⟩) 1 1 [.int .i64 (-1)] rfl (one_reads wr (-1)) (one_cell (-1)) (by unfold maxLen;omega) (by omega) ?_;intro A5 c5 w5 hown5 hgrow5 hat5;have HR5:=hid (HRa.out.app (by rw[HLN.out]) hown5 hgrow5 hat5);clear hown5 hgrow5 hat5)
     go_roundw
     case rel=>exact⟨_,q+1,rfl,by go_num,by omega,by rw[TM.out,HW.out];exact HR5.out⟩
     case measure=>simp[intOf];omega
    | false =>
     have HW:Hid (whO [⟨x0,x1,x2,x3,false⟩]=x0):=hid (by unfold whO;rw[if_pos ⟨rfl,rfl⟩];rfl)
     have HRa:=hid (HR.out.no ((But.refl No wr).alloc (.cells #[.int .i64 x0] 3)))
     go_wp2_with (at_builtin;refine wpList_append_sh _ rfl _ _ 26 rfl 3 i3 _ 1 8 Tryz.underlying26 I3.out.1 I3.out.2.1 I3.out.2.2.1 I3.out.2.2.2 rfl (by omega) v q _ rfl (by have h9:=HRa.out.own;unfold Ov at h9;rw[HLN.out] at h9;exact h9) (wr.heap.size+1) (some ⟨wr.heap.size,0,none⟩) 1 1 [.int .i64 x0] rfl (one_reads wr x0) (one_cell x0) (by unfold maxLen;omega) (by omega) ?_;intro A5 c5 w5 hown5 hgrow5 hat5;have HR5:=hid (HRa.out.app (by rw[HLN.out]) hown5 hgrow5 hat5);clear hown5 hgrow5 hat5)
     go_roundw
     case rel=>exact⟨_,q+1,rfl,by go_num,by omega,by rw[TM.out,HW.out];exact HR5.out⟩
     case measure=>simp[intOf];omega
   ·have HW:Hid (whO l = -1):=hid (by unfold whO;rw[if_neg (by simp[h1])])
    have d1:decide (l.length=1)=false:=by simp[h1]
    have d1':((l.length:Int) == 1)=false:=by simp;omega
    have d1'':decide ((l.length:Int)=1)=false:=by simp;omega
    have HRa:=hid (HR.out.no ((But.refl No wr).alloc (.cells #[.int .i64 (-1)] 3)))
    clear hpc
    go_wp2_with (at_builtin;refine wpList_append_sh _ rfl _ _ 26 rfl 3 i3 _ 1 8 Tryz.underlying26 I3.out.1 I3.out.2.1 I3.out.2.2.1 I3.out.2.2.2 rfl (by omega) v q _ rfl (by have h9:=HRa.out.own;unfold Ov at h9;rw[HLN.out] at h9;exact h9) (wr.heap.size+1) (some ⟨wr.heap.size,0,none⟩) 1 1 [.int .i64 (-1)] rfl (one_reads wr (-1)) (one_cell (-1)) (by unfold maxLen;omega) (by omega) ?_;intro A5 c5 w5 hown5 hgrow5 hat5;have HR5:=hid (HRa.out.app (by rw[HLN.out]) hown5 hgrow5 hat5);clear hown5 hgrow5 hat5)
    go_roundw
    case rel=>exact⟨_,q+1,rfl,by go_num,by omega,by rw[TM.out,HW.out];exact HR5.out⟩
    case measure=>simp[intOf];omega
  ·have hqe:q=n:=by omega
   have b3:decide ((q:Int)<(n:Int))=false:=by simp;omega
   have htk:L.take q=L:=List.take_of_length_le (by rw[HN.out];omega)
   rw[htk] at HR
   go_wp2
   go_ret
   exact⟨_,rfl,HR.out⟩
end Go.Proofs.YtikcigjbhohboaaGreat.pln
end
section
namespace Go.Proofs.YtikcigjbhohboaaGreat.pln
open Go.Lib (hid)
open Go.ChangeShapes Go.WideShapes Go.ChangeAt Go.RowKit Go.Deep val
def aC (task:Int) (p:Pc) (i:Nat) (x:Pc):Bool:=decide (x.co=p.co) && (!x.ti && (!decide ((i:Int)=task) && (decide (x.de<p.de) || (decide (x.de=p.de) && decide ((i:Int)<task)))))
def aL (task:Int) (p:Pc) (i:Nat) (l:List Pc):Nat→Int
 | 0=>0
 | k+1=>aL task p i l k+if aC task p i (l.getD k pc0)=true then 1 else 0
def aN (task:Int) (p:Pc) (L:List (List Pc)):Nat→Int
 | 0=>0
 | i+1=>aN task p L i+aL task p i (L.getD i []) (L.getD i []).length
def aheadV (task:Int) (p:Pc) (L:List (List Pc)):Int:=aN task p L L.length
theorem aL_bd (task:Int) (p:Pc) (i:Nat) (l:List Pc):∀ k,0≤aL task p i l k∧aL task p i l k≤k
 | 0=>by rw[aL];omega
 | k+1=>by
  have:=aL_bd task p i l k
  rw[aL]
  split <;> omega
theorem aN_bd {task:Int} {p:Pc} {L:List (List Pc)} {B:Nat} (h:∀ l ∈ L,l.length≤B):∀ i,i≤L.length→0≤aN task p L i∧aN task p L i≤i*B
 | 0,_=>by rw[aN];simp
 | i+1,hi=>by
  have ih:=aN_bd (task:=task) (p:=p) h i (by omega)
  have hl:L[i]? = some L[i]:=List.getElem?_eq_getElem (by omega)
  have e:L.getD i []=L[i]:=by simp[List.getD,hl]
  have h1:=aL_bd task p i L[i] L[i].length
  have h2:=h L[i] (List.getElem_mem _)
  rw[aN,e]
  have h3:((i+1:Nat):Int)*(B:Int)=(i:Int)*B+B:=by rw[Int.natCast_add,Int.add_mul];simp
  rw[h3]
  omega
theorem aL_next {task:Int} {p:Pc} {i:Nat} {l:List Pc} {k:Nat} {x:Pc} (h:l[k]? = some x):aL task p i l (k+1)=aL task p i l k+if aC task p i x=true then 1 else 0:=by rw[aL,getD_some h]
theorem aN_next {task:Int} {p:Pc} {i:Nat} {L:List (List Pc)} {l:List Pc} (h:L[i]? = some l):aN task p L (i+1)=aN task p L i+aL task p i l l.length:=by
 have e:L.getD i []=l:=by simp[List.getD,h]
 rw[aN,e]
set_option maxRecDepth 100000 in
set_option maxHeartbeats 8000000 in
theorem rahead_any (A:Option Addr) (n c:Nat) (L:List (List Pc)) (task:Int) (p:Pc) (w:World) (h:RPl w A n L) (hn:n≤1000) (hB:∀ l ∈ L,l.length≤1000):Calls Tryz.prog 60 #[.slice A n c,.int .i64 task,pcV p] w fun e w'=>e=.returned (.int .i64 (aheadV task p L))∧But No w w':=by
 obtain⟨z0,z1,z2,z3,z4⟩:=p
 have HN:=hid h.len
 have hb0:But No w (w.alloc (.cells #[.int .i64 z0,.int .i64 z1,.int .i64 z2,.int .i64 z3,.bool z4] 42)):=(But.refl No w).alloc _
 have HL:=hid (h.no hb0)
 have HB0:=hid hb0
 have HBD:=hid hB
 have HZ:=hid (Blk.new w #[.int .i64 z0,.int .i64 z1,.int .i64 z2,.int .i64 z3,.bool z4] 42)
 unfold pcV
 dsimp only
 clear h hb0 hB
 go_enter Tryz.func60,Tryz.ntmps60
 go_wp2_with fail
 generalize w.alloc (.cells #[.int .i64 z0,.int .i64 z1,.int .i64 z2,.int .i64 z3,.bool z4] 42)=W0 at HL HB0 HZ ⊢
 go_loopw [7,8] (fun u i wr=>∃ q:Nat,u=.int .i64 (aN task ⟨z0,z1,z2,z3,z4⟩ L q)∧i=.int .i64 (q:Int)∧q≤n∧Hid (But No W0 wr)) (fun _ i _=>n-(intOf i).toNat)
 case atStart=>exact⟨0,rfl,rfl,by omega,But.refl No W0⟩
 case round =>
  obtain⟨q,rfl,rfl,hq,HBR⟩:=hrel
  have hq0:(0:Int)≤(q:Int):=Int.natCast_nonneg q
  have hbd:=aN_bd (task:=task) (p:=⟨z0,z1,z2,z3,z4⟩) HBD.out q (by rw[HN.out];exact hq)
  by_cases hqn:q<n
  ·have hqn2:(q:Int)<(n:Int):=by omega
   obtain⟨l,hl⟩:∃ l,L[q]? = some l:=⟨_,List.getElem?_eq_getElem (by rw[HN.out];exact hqn)⟩
   have hlb:=HBD.out l (List.mem_of_getElem? hl)
   obtain⟨b,off,A',c',rfl,_,e0,_,hpc⟩:=(HL.out.no HBR.out).at1 hl
   have HPC:=hid hpc
   have HAN:=hid (aN_next (task:=task) (p:=⟨z0,z1,z2,z3,z4⟩) hl)
   obtain⟨N,hN⟩:∃ N,aN task ⟨z0,z1,z2,z3,z4⟩ L q=N:=⟨_,rfl⟩
   rw[hN] at hbd HAN ⊢
   have HLL:=hid (show l.length=l.length from rfl)
   clear hl hpc hN
   obtain⟨m,hm⟩:∃ m,l.length=m:=⟨_,rfl⟩
   rw[hm] at e0 HPC hlb HAN
   have HM:=hid hm
   clear hm HLL
   have E0:=hid e0
   go_wp2_with fail
   go_loopw [7,9] (fun u i wr2=>∃ (k:Nat) (S:Int),u=.int .i64 S∧i=.int .i64 (k:Int)∧k≤m∧S=N+aL task ⟨z0,z1,z2,z3,z4⟩ q l k∧(0≤S∧S≤2000000)∧Hid (But No wr wr2)) (fun _ i _=>m-(intOf i).toNat)
   case atStart=>exact⟨0,N,rfl,rfl,by omega,by rw[aL];omega,by omega,But.refl No wr⟩
   case round =>
    obtain⟨k,S,rfl,rfl,hk,hS,hS2,HB2⟩:=hrel
    have hk0:(0:Int)≤(k:Int):=Int.natCast_nonneg k
    have e0:=cell_keep E0.out HB2.out
    by_cases hkm:k<m
    ·have hkm2:(k:Int)<(m:Int):=by omega
     obtain⟨x,hx⟩:∃ x,l[k]? = some x:=⟨_,List.getElem?_eq_getElem (by rw[HM.out];exact hkm)⟩
     obtain⟨b',off',rfl,_,p0,p1,p2,p3,p4⟩:=(HPC.out.no HB2.out).at1 hx
     have HAL:=hid (aL_next (task:=task) (p:=⟨z0,z1,z2,z3,z4⟩) (i:=q) hx)
     have hal:=aL_bd task ⟨z0,z1,z2,z3,z4⟩ q l k
     have HS:Hid (S-N=aL task ⟨z0,z1,z2,z3,z4⟩ q l k):=hid (by omega)
     rw[←HS.out] at hal
     have hb5:But No wr (wr.alloc (.cells #[.int .i64 x.co,.int .i64 x.bu,.int .i64 x.de,.int .i64 x.pr,.bool x.ti] 42)):=(But.refl No wr).alloc _
     have HB5:=hid (HB2.out.trans hb5)
     have hz:=HZ.out.but (HBR.out.trans HB5.out) (fun f=>f)
     have y0:=hz.cell (o:=0) rfl
     have y2:=hz.cell (o:=2) rfl
     have hxb:=Blk.new wr #[.int .i64 x.co,.int .i64 x.bu,.int .i64 x.de,.int .i64 x.pr,.bool x.ti] 42
     have v0:=hxb.cell (o:=0) rfl
     have v2:=hxb.cell (o:=2) rfl
     have v4:=hxb.cell (o:=4) rfl
     clear hx hb5 hz hS hxb
     obtain⟨x0,x1,x2,x3,x4⟩:=x
     dsimp only at p0 p1 p2 p3 p4 HB5 y0 y2
     dsimp only at v0 v2 v4
     have hSN:S-N≤1000:=by omega
     go_upto_region 9 with fail
     obtain⟨bx,hbx⟩:∃ bx,wr.heap.size=bx:=⟨_,rfl⟩
     generalize wr.alloc (.cells #[.int .i64 x0,.int .i64 x1,.int .i64 x2,.int .i64 x3,.bool x4] 42)=V at HB5 y0 y2 v0 v2 v4 ⊢
     rw[hbx] at v0 v2 v4 ⊢
     clear p0 p1 p2 p3 p4 hbx
     by_cases g1:x0=z0
     ·have d1:decide (x0=z0)=true:=by simp[g1]
      have d1':(x0 == z0)=true:=by simp[g1]
      cases x4 with
      | true =>
       have HC:Hid (aC task ⟨z0,z1,z2,z3,z4⟩ q ⟨x0,x1,x2,x3,true⟩=false):=hid (by unfold aC;simp[g1])
       rw[HC.out] at HAL
       rw[if_neg (by simp)] at HAL
       clear HC g1
       go_wp2
       go_roundw
       case rel=>exact⟨k+1,S,rfl,by go_num,by omega,by rw[HAL.out,←HS.out];omega,by omega,HB5.out⟩
       case measure=>simp[intOf];omega
      | false =>
       by_cases g3:(q:Int)=task
       ·have d3:((q:Int) != task)=false:=by simp[g3]
        have d3':decide ((q:Int)=task)=true:=by simp[g3]
        have HC:Hid (aC task ⟨z0,z1,z2,z3,z4⟩ q ⟨x0,x1,x2,x3,false⟩=false):=hid (by unfold aC;simp[g1,g3])
        rw[HC.out] at HAL
        rw[if_neg (by simp)] at HAL
        clear HC g1 g3
        go_wp2
        go_roundw
        case rel=>exact⟨k+1,S,rfl,by go_num,by omega,by rw[HAL.out,←HS.out];omega,by omega,HB5.out⟩
        case measure=>simp[intOf];omega
       ·have d3:((q:Int) != task)=true:=by simp[g3]
        have d3':decide ((q:Int)=task)=false:=by simp[g3]
        by_cases g4:x2<z2
        ·have d4:decide (x2<z2)=true:=by simp[g4]
         have HC:Hid (aC task ⟨z0,z1,z2,z3,z4⟩ q ⟨x0,x1,x2,x3,false⟩=true):=hid (by unfold aC;simp[g1,g3,g4])
         rw[HC.out] at HAL
         have u1_:IntKind.i64.wrap (S+1)=S+1:=IntWalk.i64_in (S+1) (by omega)
         rw[if_pos rfl] at HAL
         clear HC g1 g3 g4
         go_wp2
         go_roundw
         case rel=>exact⟨k+1,S+1,rfl,by go_num,by omega,by rw[HAL.out,←HS.out];omega,by omega,HB5.out⟩
         case measure=>simp[intOf];omega
        ·have d4:decide (x2<z2)=false:=by simp[g4]
         by_cases g5:x2=z2
         ·have d5:decide (x2=z2)=true:=by simp[g5]
          have d5':(x2 == z2)=true:=by simp[g5]
          by_cases g6:(q:Int)<task
          ·have d6:decide ((q:Int)<task)=true:=by simp[g6]
           have HC:Hid (aC task ⟨z0,z1,z2,z3,z4⟩ q ⟨x0,x1,x2,x3,false⟩=true):=hid (by unfold aC;simp[g1,g3,g5,g6])
           rw[HC.out] at HAL
           have u1_:IntKind.i64.wrap (S+1)=S+1:=IntWalk.i64_in (S+1) (by omega)
           rw[if_pos rfl] at HAL
           clear HC g1 g3 g4 g5 g6
           go_wp2
           go_roundw
           case rel=>exact⟨k+1,S+1,rfl,by go_num,by omega,by rw[HAL.out,←HS.out];omega,by omega,HB5.out⟩
           case measure=>simp[intOf];omega
          ·have d6:decide ((q:Int)<task)=false:=by simp[g6]
           have HC:Hid (aC task ⟨z0,z1,z2,z3,z4⟩ q ⟨x0,x1,x2,x3,false⟩=false):=hid (by unfold aC;simp[g1,g3,g5,g6])
           rw[HC.out] at HAL
           rw[if_neg (by simp)] at HAL
           clear HC g1 g3 g4 g5 g6
           go_wp2
           go_roundw
           case rel=>exact⟨k+1,S,rfl,by go_num,by omega,by rw[HAL.out,←HS.out];omega,by omega,HB5.out⟩
           case measure=>simp[intOf];omega
         ·have d5:decide (x2=z2)=false:=by simp[g5]
          have d5':(x2 == z2)=false:=by simp[g5]
          have HC:Hid (aC task ⟨z0,z1,z2,z3,z4⟩ q ⟨x0,x1,x2,x3,false⟩=false):=hid (by unfold aC;simp[g1,g3,g4,g5])
          rw[HC.out] at HAL
          rw[if_neg (by simp)] at HAL
          clear HC g1 g3 g4 g5
          go_wp2
          go_roundw
          case rel=>exact⟨k+1,S,rfl,by go_num,by omega,by rw[HAL.out,←HS.out];omega,by omega,HB5.out⟩
          case measure=>simp[intOf];omega
     ·have d1:decide (x0=z0)=false:=by simp[g1]
      have d1':(x0 == z0)=false:=by simp[g1]
      have HC:Hid (aC task ⟨z0,z1,z2,z3,z4⟩ q ⟨x0,x1,x2,x3,x4⟩=false):=hid (by unfold aC;simp[g1])
      rw[HC.out] at HAL
      rw[if_neg (by simp)] at HAL
      clear HC g1
      go_wp2
      go_roundw
      case rel=>exact⟨k+1,S,rfl,by go_num,by omega,by rw[HAL.out,←HS.out];omega,by omega,HB5.out⟩
      case measure=>simp[intOf];omega
    ·have hke:k=m:=by omega
     have b4:decide ((k:Int)<(m:Int))=false:=by simp;omega
     subst hke
     go_wp2
     go_roundw
     case rel=>exact⟨q+1,by rw[HAN.out,hS],by go_num,by omega,HBR.out.trans HB2.out⟩
     case measure=>simp[intOf];omega
  ·have hqe:q=n:=by omega
   have b3:decide ((q:Int)<(n:Int))=false:=by simp;omega
   have HV:Hid (aN task ⟨z0,z1,z2,z3,z4⟩ L q=aheadV task ⟨z0,z1,z2,z3,z4⟩ L):=hid (by unfold aheadV;rw[HN.out,hqe])
   rw[HV.out]
   go_wp2
   go_ret
   exact⟨rfl,HB0.out.trans HBR.out⟩
end Go.Proofs.YtikcigjbhohboaaGreat.pln
end
