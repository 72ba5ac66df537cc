/- PlaceSplits: the walk, and the walk upon the program's own calls. -/
import Derived.Test.YtlecikdjoekknaaGreatM05
import Derived.Test.YtlecikdjoekknaaGreatM17
import Derived.Test.YtlecikdjoekknaaGreatM37
import Derived.Test.YtlecikdjoekknaaGreatM39
import Derived.Test.YtlecikdjoekknaaGreatM42
import Derived.Test.YtlecikdjoekknaaGreatM43
import Derived.Test.YtlecikdjoekknaaGreatM44
import Derived.Test.YtlecikdjoekknaaGreatM52
section
namespace Go.Proofs.YtlecikdjoekknaaGreat.pln
set_option linter.unusedVariables false
set_option linter.unusedSimpArgs false
open Go.ChangeShapes Go.WideShapes Go.ChangeAt Go.RowKit Go.Deep val ter
theorem lf_sm (la d:Int) (l:List Pc):∀ k,lfN la d l k=d-smN l k-(k:Int)*(la-1)
 | 0=>by rw[lfN,smN];omega
 | k+1=>by
  rw[lfN,smN,lf_sm la d l k,Int.natCast_add,Int.add_mul]
  omega
theorem lf_in {la d:Int} {l:List Pc} {k:Nat} (hla:1≤la∧la≤50) (hd:1≤d∧d≤1099511627776) (hk:k≤8) (hs:0≤smN l k∧smN l k≤1099511627776) : -35184372088832≤lfN la d l k∧lfN la d l k≤35184372088832:=by
 rw[lf_sm]
 have h1:(0:Int)≤(k:Int)*(la-1):=Int.mul_nonneg (by omega) (by omega)
 have h2:(k:Int)*(la-1)≤8*49:=Int.mul_le_mul (by omega) (by omega) (by omega) (by omega)
 omega
namespace placeSplits
set_option maxRecDepth 100000 in
set_option maxHeartbeats 16000000 in
theorem walk (P:PlaceIs) (s:Sys) (A:Option Addr) (c:Nat) (w:World) (hs:RSys w A s.ts.length c s) :
  Calls Tryz.prog 8 #[sysV s A s.ts.length c] w fun e w'=>e=.returned (.bool true)∧But No w w':=by
 have CX:Hid (∀ W,Calls Tryz.prog 10 #[] W fun e w'=>e=.returned (.bool true)∧But No W w'):=Lib.hid (fun W=>examples_ok P W)
 have hB0:=(But.refl No w).alloc (.cells (boxS s A s.ts.length c) 24)
 have hS0:=Lib.hid (Blk.new w (boxS s A s.ts.length c) 24)
 have HB0:=Lib.hid hB0
 have BK:Hid (∀ W,But No (w.alloc (.cells (boxS s A s.ts.length c) 24)) W→S9 W w.heap.size s A s.ts.length c):=Lib.hid (fun W hb=>sys_cells (hS0.out.but hb (fun f=>f)))
 clear hB0 hS0
 rcases plc_ans s with⟨x,hx,hx0,hx1⟩ | ⟨hr,R,hp,hx,hbl,hrl,hpr,hc1,hc2⟩
 ·have CP:Hid (∀ W,But No w W→Calls Tryz.prog 14 #[sysV s A s.ts.length c] W fun e w'=>∃ A1 c1 B k,e=.returned (.tuple #[.slice A1 0 c1,.slice B 0 k,.int .i64 x])∧But No W w'):=Lib.hid (fun W hb=>(P s A _ c W (hs.no hb)).mono fun e w' ⟨A1,N1,c1,B,k,h1,h2,h3,h4⟩=>by
   rw[hx] at h1 h3
   obtain rfl:0=N1:=h3.len
   exact⟨A1,c1,B,k,h1,h2⟩)
  have hx2:(x != 0)=true:=by rw[bne,hx0];rfl
  clear hx hx1 hs P
  unfold sysV at CP ⊢
  unfold boxS at BK HB0
  go_enter Tryz.func8,Tryz.ntmps8
  go_upto_region 2 with(go_at_call 10;(with_reducible refine(CX.out _).mono ?_);rintro e w1 ⟨rfl,h1⟩)
  have H1:=Lib.hid h1
  obtain⟨c0,c1,c2,c3,c4,c5,c6,c7,c8⟩:=BK.out _ H1.out
  clear h1
  go_wp2_with (go_at_call 14;(with_reducible refine(CP.out _ (HB0.out.trans H1.out)).mono ?_);rintro e w2 ⟨A1,k1,B,k,rfl,h2⟩;have H2:=Lib.hid h2;clear h2)
  go_ret
  exact⟨rfl,HB0.out.trans (H1.out.trans H2.out)⟩
 ·have CP:Hid (∀ W,But No w W→Calls Tryz.prog 14 #[sysV s A s.ts.length c] W fun e w'=>∃ A1 c1 B k,e=.returned (.tuple #[.slice A1 s.ts.length c1,.slice B s.ts.length k,.int .i64 0])∧But No W w'∧RPl w' A1 s.ts.length R):=Lib.hid (fun W hb=>(P s A _ c W (hs.no hb)).mono fun e w' ⟨A1,N1,c1,B,k,h1,h2,h3,h4⟩=>by
   rw[hx] at h1 h3
   dsimp only at h1 h3
   rw[hbl] at h1
   obtain rfl:s.ts.length=N1:=by rw[←hrl];exact h3.len
   exact⟨A1,c1,B,k,h1,h2,h3⟩)
  have hla:=(right_nums hr).2.1
  have HROW:Hid (∀ i,i<s.ts.length→∃ l t,R[i]? = some l∧s.ts[i]? = some t∧l.length≤8∧(∀ k,k≤l.length → -35184372088832≤lfN s.la t.d l k∧lfN s.la t.d l k≤35184372088832)∧∀ k x,l[k]? = some x→(x.ti=true ↔ k+1≠l.length)∧(1≤x.bu∧x.bu≤1099511627776)∧(x.ti=true→x.de=x.bu∧t.secs = [])∧(x.ti=false→x.de=lfN s.la t.d l k)∧∀ j y,j<k→l[j]? = some y→y.co≠x.co):=Lib.hid (fun i hi=>by
   have e1:R[i]? = some (R[i]'(by omega)):=List.getElem?_eq_getElem _
   have e2:s.ts[i]? = some s.ts[i]:=List.getElem?_eq_getElem hi
   obtain⟨g1,g2,g3,g4⟩:=hp.row e1 e2
   obtain⟨_,_,hok⟩:=plR_parts hpr
   have ho:=okS_at hok e1
   rw[getT e2] at ho
   have hw:=(right_nums hr).2.2.2 _ (List.mem_of_getElem? e2)
   obtain⟨g6,_,g5,_⟩:=okL_sm ho hw.1.1
   refine⟨_,_,e1,e2,g2,fun k hk=>lf_in hla hw.2 (by omega) ⟨(g5 k hk).1,by have:=(g5 k hk).2;omega⟩,fun k x hk=>?_⟩
   obtain⟨a1,a2,a3,a4,a5⟩:=g4 k x hk
   have h8:=(List.getElem?_eq_some_iff.1 hk).1
   have h9:=g5 (k+1) (by omega)
   rw[smN_next hk] at h9
   have h7:=g5 k (by omega)
   exact⟨a1,⟨g6 x (List.mem_of_getElem? hk),by omega⟩,a3,a4,a5⟩)
  have HTK:Hid (∀ W,But No w W→RTsk W A s.ts.length s.ts):=Lib.hid (fun W hb=>(hs.no hb).ts)
  have hn24:=(right_len hr).2.2.2.1
  generalize hnn:s.ts.length=n at *
  clear hx hbl hrl hpr hc1 hc2 hs P hp
  unfold sysV at CP ⊢
  unfold boxS at BK HB0
  go_enter Tryz.func8,Tryz.ntmps8
  go_upto_region 2 with(go_at_call 10;(with_reducible refine(CX.out _).mono ?_);rintro e w1 ⟨rfl,h1⟩)
  have H1:=Lib.hid h1
  obtain⟨c0,c1,c2,c3,c4,c5,c6,c7,c8⟩:=BK.out _ H1.out
  clear h1
  go_upto_region 5 with(go_at_call 14;(with_reducible refine(CP.out _ (HB0.out.trans H1.out)).mono ?_);rintro e w2 ⟨A1,k1,B,k,rfl,h2,r2⟩)
  have H2:=Lib.hid (H1.out.trans h2)
  have R2:=Lib.hid r2
  clear c0 c1 c2 c3 c4 c5 c6 c7 c8 h2 r2
  obtain⟨c0,c1,c2,c3,c4,c5,c6,c7,c8⟩:=BK.out _ H2.out
  clear CX CP H1
  go_wp2_with fail
  go_loopw [7] (fun x wr=>∃ i:Nat,x=.int .i64 (i:Int)∧i≤n∧Hid (But No w2 wr)) (fun x _=>n-(intOf x).toNat)
  case atStart=>exact⟨0,rfl,by omega,But.refl No _⟩
  case round =>
   clear c0 c1 c2 c3 c4 c5 c6 c7 c8
   obtain⟨i,rfl,hi,HB6⟩:=hrel
   obtain⟨V1,rfl⟩:∃ V1,V1=wr:=⟨_,rfl⟩
   have hi0:(0:Int)≤(i:Int):=Int.natCast_nonneg i
   by_cases hin:i<n
   ·have hin2:(i:Int)<(n:Int):=by omega
    obtain⟨l,t,hl,ht,hl8,hlf,hrow⟩:=HROW.out i hin
    obtain⟨ba,oa,Aa,ca,eA,_,e0,_,ra⟩:=(R2.out.no HB6.out).at1 hl
    obtain⟨bt,ot,At,ct,eT,t0,t1,t2,t3,_⟩:=(HTK.out V1 (HB0.out.trans (H2.out.trans HB6.out))).at1 ht
    subst eA eT
    obtain⟨c0,c1,c2,c3,c4,c5,c6,c7,c8⟩:=BK.out _ (H2.out.trans HB6.out)
    have RA:=Lib.hid ra
    have HRW:=Lib.hid hrow
    have HT:=Lib.hid ht
    clear ra hrow hl ht
    obtain⟨m1,hm1⟩:∃ m1,l.length=m1:=⟨_,rfl⟩
    rw[hm1] at e0 RA hlf hl8 HRW
    have HML:=Lib.hid hm1
    obtain⟨sl,hsl⟩:∃ sl,t.secs.length=sl:=⟨_,rfl⟩
    rw[hsl] at t3
    have HSL:=Lib.hid hsl
    have hdl:lfN s.la t.d l 0=t.d:=rfl
    have HD:=Lib.hid hdl
    clear hm1 hsl hdl
    go_upto_region 11 with fail
    rw[←HD.out]
    clear c0 c1 c2 c3 c4 c5 c6 c7 c8 t1
    go_wp2_with fail
    go_loopw [8,9] (fun x y wr2=>∃ k:Nat,x=.int .i64 (lfN s.la t.d l k)∧y=.int .i64 (k:Int)∧k≤m1∧Hid (But No V1 wr2)) (fun _ y _=>m1-(intOf y).toNat)
    case atStart=>exact⟨0,rfl,rfl,by omega,But.refl No _⟩
    case round =>
     obtain⟨k,rfl,rfl,hk,HB8⟩:=hrel
     obtain⟨V2,rfl⟩:∃ V2,V2=wr:=⟨_,rfl⟩
     have hk0:(0:Int)≤(k:Int):=Int.natCast_nonneg k
     have e1:=cell_keep e0 HB8.out
     by_cases hkm:k<m1
     ·have hkm2:(k:Int)<(m1:Int):=by omega
      obtain⟨y,hy⟩:∃ y,l[k]? = some y:=⟨_,List.getElem?_eq_getElem (by rw[HML.out];exact hkm)⟩
      obtain⟨hti,hbu,htt,hnt,hco⟩:=HRW.out k y hy
      obtain⟨bc,oc,eC,_,p0,p1,p2,p3,p4⟩:=(RA.out.no HB8.out).at1 hy
      cases eC
      have hb1:=hlf k hk
      have hb2:=hlf (k+1) hkm
      have hnx:=lfN_next (la:=s.la) (d:=t.d) hy
      rw[hnx] at hb2
      have HNX:=Lib.hid hnx
      have HCO:=Lib.hid hco
      clear hnx hy hco
      generalize lfN s.la t.d l k=lf at hb1 hb2 HNX hnt ⊢
      obtain⟨y0,y1,y2,y3,y4⟩:=y
      dsimp only at p0 p1 p2 p3 p4 hb2 hti hbu htt hnt HCO HNX
      obtain⟨q,hq⟩:∃ q,m1=q+1:=⟨m1-1,by omega⟩
      have hq0:(0:Int)≤(q:Int):=Int.natCast_nonneg q
      have wr1:IntKind.i64.wrap ((m1:Int)-1)=(q:Int):=by rw[IntKind.wrap_i64];omega
      have HQ:=Lib.hid hq
      clear hq
      go_upto_region 15 with fail
      obtain⟨W5,hW5⟩:∃ W5,V2.alloc (.cells #[.int .i64 y0,.int .i64 y1,.int .i64 y2,.int .i64 y3,.bool y4] 40)=W5:=⟨_,rfl⟩
      obtain⟨bp,hbp⟩:∃ bp,V2.heap.size=bp:=⟨_,rfl⟩
      have HX5:Hid (Blk W5 bp #[.int .i64 y0,.int .i64 y1,.int .i64 y2,.int .i64 y3,.bool y4] 40):=Lib.hid (by rw[←hW5,←hbp];exact Blk.new V2 _ _)
      have hb5:But No V2 W5:=by rw[←hW5];exact(But.refl No V2).alloc _
      rw[hW5,hbp]
      have HB5:Hid (But No V1 W5):=Lib.hid (HB8.out.trans hb5)
      clear p0 p1 p2 p3 p4 hW5 hbp hb5 e1
      by_cases hkq:k=q
      ·have k1:((k:Int) == (q:Int))=true:=by rw[hkq];simp
       have h4:y4=false:=by
        cases e:y4 with
        | false=>rfl
        | true=>exact absurd (hti.1 e) (by have:=HQ.out;omega)
       subst h4
       have h5:=hnt rfl
       subst h5
       have b1:(y2 != y2)=false:=by simp
       clear hti htt hnt hkq
       have p0:W5.cell? ⟨bp,0,none⟩=some (.int .i64 y0):=HX5.out.cell rfl
       have p1:W5.cell? ⟨bp,1,none⟩=some (.int .i64 y1):=HX5.out.cell rfl
       have p2:W5.cell? ⟨bp,2,none⟩=some (.int .i64 y2):=HX5.out.cell rfl
       have p3:W5.cell? ⟨bp,3,none⟩=some (.int .i64 y3):=HX5.out.cell rfl
       have p4:W5.cell? ⟨bp,4,none⟩=some (.bool false):=HX5.out.cell rfl
       have t3':=cell_keep t3 HB5.out
       have e2:=cell_keep e0 HB5.out
       obtain⟨c0,c1,c2,c3,c4,c5,c6,c7,c8⟩:=BK.out _ (H2.out.trans (HB6.out.trans HB5.out))
       go_wp2_with fail
       go_loopw [12] (fun x wr3=>∃ j:Nat,x=.int .i64 (j:Int)∧j≤k∧Hid (But No W5 wr3)) (fun x _=>k-(intOf x).toNat)
       case atStart=>exact⟨0,rfl,by omega,But.refl No _⟩
       case round =>
        clear c0 c1 c2 c3 c4 c5 c6 c7 c8 p0 p1 p2 p3 p4 t3' e2
        obtain⟨j,rfl,hj,HBJ⟩:=hrel
        have hj0:(0:Int)≤(j:Int):=Int.natCast_nonneg j
        have HXJ:=Lib.hid (HX5.out.but HBJ.out (fun f=>f))
        have HBK:Hid (But No V1 wr):=Lib.hid (HB5.out.trans HBJ.out)
        by_cases hjk:j<k
        ·have hjk2:(j:Int)<(k:Int):=by omega
         have e2:=cell_keep e0 HBK.out
         obtain⟨z,hz⟩:∃ z,l[j]? = some z:=⟨_,List.getElem?_eq_getElem (by rw[HML.out];omega)⟩
         obtain⟨bc,oc,eC,_,q0,_⟩:=(RA.out.no HBK.out).at1 hz
         cases eC
         have hne:=HCO.out j z hjk hz
         have hneb:(z.co == y0)=false:=by rw[beq_eq_false_iff_ne];exact hne
         have hjm:(j:Int)<(m1:Int):=by omega
         have v0:wr.cell? ⟨bp,0,none⟩=some (.int .i64 y0):=HXJ.out.cell rfl
         clear hz
         go_wp2_with fail
         go_quiet (fail)
         go_wp2
         go_roundw
         case rel=>exact⟨j+1,by first | rfl | go_num,by omega,by first | exact HBJ.out | exact HBJ.out.drew | exact HBJ.out.drewN _⟩
         case measure=>simp[intOf];omega
        ·have hjk2:¬(j:Int)<(k:Int):=by omega
         have v1:wr.cell? ⟨bp,1,none⟩=some (.int .i64 y1):=HXJ.out.cell rfl
         obtain⟨c0,c1,c2,c3,c4,c5,c6,c7,c8⟩:=BK.out _ (H2.out.trans (HB6.out.trans HBK.out))
         go_wp2_with fail
         go_roundw
         case rel=>exact⟨k+1,by rw[HNX.out],by first | rfl | go_num,by omega,HBK.out⟩
         case measure=>simp[intOf];omega
      ·have k1:((k:Int) == (q:Int))=false:=by rw[beq_eq_false_iff_ne];omega
       have h4:y4=true:=hti.2 (by have:=HQ.out;omega)
       subst h4
       obtain⟨h5,h6⟩:=htt rfl
       subst h5
       obtain rfl:sl=0:=by rw[←HSL.out,h6];rfl
       obtain⟨y1,rfl⟩:∃ y1,y1=y2:=⟨_,rfl⟩
       have b1:(y1 != y1)=false:=by simp
       clear hti htt hnt h6
       have p0:W5.cell? ⟨bp,0,none⟩=some (.int .i64 y0):=HX5.out.cell rfl
       have p1:W5.cell? ⟨bp,1,none⟩=some (.int .i64 y1):=HX5.out.cell rfl
       have p2:W5.cell? ⟨bp,2,none⟩=some (.int .i64 y1):=HX5.out.cell rfl
       have p3:W5.cell? ⟨bp,3,none⟩=some (.int .i64 y3):=HX5.out.cell rfl
       have p4:W5.cell? ⟨bp,4,none⟩=some (.bool true):=HX5.out.cell rfl
       have t3':=cell_keep t3 HB5.out
       have e2:=cell_keep e0 HB5.out
       obtain⟨c0,c1,c2,c3,c4,c5,c6,c7,c8⟩:=BK.out _ (H2.out.trans (HB6.out.trans HB5.out))
       go_wp2_with fail
       go_loopw [12] (fun x wr3=>∃ j:Nat,x=.int .i64 (j:Int)∧j≤k∧Hid (But No W5 wr3)) (fun x _=>k-(intOf x).toNat)
       case atStart=>exact⟨0,rfl,by omega,But.refl No _⟩
       case round =>
        clear c0 c1 c2 c3 c4 c5 c6 c7 c8 p0 p1 p2 p3 p4 t3' e2
        obtain⟨j,rfl,hj,HBJ⟩:=hrel
        have hj0:(0:Int)≤(j:Int):=Int.natCast_nonneg j
        have HXJ:=Lib.hid (HX5.out.but HBJ.out (fun f=>f))
        have HBK:Hid (But No V1 wr):=Lib.hid (HB5.out.trans HBJ.out)
        by_cases hjk:j<k
        ·have hjk2:(j:Int)<(k:Int):=by omega
         have e2:=cell_keep e0 HBK.out
         obtain⟨z,hz⟩:∃ z,l[j]? = some z:=⟨_,List.getElem?_eq_getElem (by rw[HML.out];omega)⟩
         obtain⟨bc,oc,eC,_,q0,_⟩:=(RA.out.no HBK.out).at1 hz
         cases eC
         have hne:=HCO.out j z hjk hz
         have hneb:(z.co == y0)=false:=by rw[beq_eq_false_iff_ne];exact hne
         have hjm:(j:Int)<(m1:Int):=by omega
         have v0:wr.cell? ⟨bp,0,none⟩=some (.int .i64 y0):=HXJ.out.cell rfl
         clear hz
         go_wp2_with fail
         go_quiet (fail)
         go_wp2
         go_roundw
         case rel=>exact⟨j+1,by first | rfl | go_num,by omega,by first | exact HBJ.out | exact HBJ.out.drew | exact HBJ.out.drewN _⟩
         case measure=>simp[intOf];omega
        ·have hjk2:¬(j:Int)<(k:Int):=by omega
         have v1:wr.cell? ⟨bp,1,none⟩=some (.int .i64 y1):=HXJ.out.cell rfl
         obtain⟨c0,c1,c2,c3,c4,c5,c6,c7,c8⟩:=BK.out _ (H2.out.trans (HB6.out.trans HBK.out))
         go_wp2_with fail
         go_roundw
         case rel=>exact⟨k+1,by rw[HNX.out],by first | rfl | go_num,by omega,HBK.out⟩
         case measure=>simp[intOf];omega
     ·have hkm2:¬(k:Int)<(m1:Int):=by omega
      go_wp2
      go_roundw
      case rel=>exact⟨i+1,by first | rfl | go_num,by omega,by first | exact HB6.out.trans HB8.out | exact(HB6.out.trans HB8.out).drew | exact(HB6.out.trans HB8.out).drewN _⟩
      case measure=>simp[intOf];omega
   ·have hin2:¬(i:Int)<(n:Int):=by omega
    go_wp2
    go_ret
    exact⟨rfl,HB0.out.trans (H2.out.trans HB6.out)⟩
end placeSplits
end Go.Proofs.YtlecikdjoekknaaGreat.pln
end
section
namespace Go.Proofs.YtlecikdjoekknaaGreat.placeSplits
open val pln
theorem walk (s:Sys) (A:Option Addr) (c:Nat) (w:World) (hs:RSys w A s.ts.length c s) :
  Calls Tryz.prog 8 #[sysV s A s.ts.length c] w fun e w'=>e=.returned (.bool true)∧But No w w' :=
 pln.placeSplits.walk place_is s A c w hs
end Go.Proofs.YtlecikdjoekknaaGreat.placeSplits
end
