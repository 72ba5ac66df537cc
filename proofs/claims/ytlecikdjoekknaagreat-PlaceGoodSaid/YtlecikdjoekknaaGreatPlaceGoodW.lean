/- PlaceGood: the walk, and the walk upon the program's own calls. -/
import Derived.Test.YtlecikdjoekknaaGreatM05
import Derived.Test.YtlecikdjoekknaaGreatM17
import Derived.Test.YtlecikdjoekknaaGreatM37
import Derived.Test.YtlecikdjoekknaaGreatM39
import Derived.Test.YtlecikdjoekknaaGreatM42
import Derived.Test.YtlecikdjoekknaaGreatM43
import Derived.Test.YtlecikdjoekknaaGreatM44
import Derived.Test.YtlecikdjoekknaaGreatM52
section
namespace Go.Proofs.YtlecikdjoekknaaGreat.pln
set_option linter.unusedVariables false
set_option linter.unusedSimpArgs false
open Go.ChangeShapes Go.WideShapes Go.ChangeAt Go.RowKit Go.Deep val ter
theorem ret_beq {a b:Bool} (h:a=b):(a == b)=true:=by rw[h];simp
namespace placeGood
set_option maxRecDepth 100000 in
set_option maxHeartbeats 16000000 in
theorem walk (P:PlaceIs) (CK:CheckIs) (s:Sys) (A:Option Addr) (c:Nat) (w:World) (hs:RSys w A s.ts.length c s) :
  Calls Tryz.prog 4 #[sysV s A s.ts.length c] w fun e w'=>e=.returned (.bool true)∧But No w w':=by
 have CX:Hid (∀ W,Calls Tryz.prog 10 #[] W fun e w'=>e=.returned (.bool true)∧But No W w'):=Lib.hid (fun W=>examples_ok P W)
 have CR:Hid (∀ W,But No w W→Calls Tryz.prog 16 #[sysV s A s.ts.length c] W fun e w'=>e=.returned (.bool (right s))∧But No W w'):=Lib.hid (fun W hb=>right_any s A _ c W (hs.no hb))
 have hB0:=(But.refl No w).alloc (.cells (boxS s A s.ts.length c) 24)
 have hS0:=Lib.hid (Blk.new w (boxS s A s.ts.length c) 24)
 have HB0:=Lib.hid hB0
 have BK:Hid (∀ W,But No (w.alloc (.cells (boxS s A s.ts.length c) 24)) W→S9 W w.heap.size s A s.ts.length c):=Lib.hid (fun W hb=>sys_cells (hS0.out.but hb (fun f=>f)))
 clear hB0 hS0
 rcases plc_ans s with⟨x,hx,hx0,hx1⟩ | ⟨hr,R,hp,hx,hbl,hrl,hpr,hc1,hc2⟩
 ·have CP:Hid (∀ W,But No w W→Calls Tryz.prog 14 #[sysV s A s.ts.length c] W fun e w'=>∃ A1 c1 B k,e=.returned (.tuple #[.slice A1 0 c1,.slice B 0 k,.int .i64 x])∧But No W w'):=Lib.hid (fun W hb=>(P s A _ c W (hs.no hb)).mono fun e w' ⟨A1,N1,c1,B,k,h1,h2,h3,h4⟩=>by
   rw[hx] at h1 h3
   obtain rfl:0=N1:=h3.len
   exact⟨A1,c1,B,k,h1,h2⟩)
  have HE:Hid (((x == 1) == !right s)=true):=Lib.hid (ret_beq hx1)
  have hx2:(x != 0)=true:=by rw[bne,hx0];rfl
  clear hx hx1 hs P CK
  unfold sysV at CR CP ⊢
  unfold boxS at BK HB0
  go_enter Tryz.func4,Tryz.ntmps4
  go_upto_region 2 with(go_at_call 10;(with_reducible refine(CX.out _).mono ?_);rintro e w1 ⟨rfl,h1⟩)
  have H1:=Lib.hid h1
  obtain⟨c0,c1,c2,c3,c4,c5,c6,c7,c8⟩:=BK.out _ H1.out
  clear h1
  go_upto_region 4 with(go_at_call 14;(with_reducible refine(CP.out _ (HB0.out.trans H1.out)).mono ?_);rintro e w2 ⟨A1,k1,B,k,rfl,h2⟩)
  have H2:=Lib.hid (H1.out.trans h2)
  clear c0 c1 c2 c3 c4 c5 c6 c7 c8 h2
  obtain⟨c0,c1,c2,c3,c4,c5,c6,c7,c8⟩:=BK.out _ H2.out
  go_wp2_with (go_at_call 16;(with_reducible refine(CR.out _ (HB0.out.trans H2.out)).mono ?_);rintro e w3 ⟨rfl,h3⟩;have H3:=Lib.hid h3;clear h3)
  rw[HE.out]
  go_ret
  exact⟨rfl,HB0.out.trans (H2.out.trans H3.out)⟩
 ·have CP:Hid (∀ W,But No w W→Calls Tryz.prog 14 #[sysV s A s.ts.length c] W fun e w'=>∃ A1 c1 B k,e=.returned (.tuple #[.slice A1 s.ts.length c1,.slice B s.ts.length k,.int .i64 0])∧But No W w'∧RPl w' A1 s.ts.length R∧Rl w' B s.ts.length (chkV s R).1):=Lib.hid (fun W hb=>(P s A _ c W (hs.no hb)).mono fun e w' ⟨A1,N1,c1,B,k,h1,h2,h3,h4⟩=>by
   rw[hx] at h1 h3 h4
   dsimp only at h1 h3 h4
   rw[hbl] at h1 h4
   obtain rfl:s.ts.length=N1:=by rw[←hrl];exact h3.len
   exact⟨A1,c1,B,k,h1,h2,h3,h4⟩)
  have CRI:Hid (∀ W A1 c1,But No w W→RPl W A1 s.ts.length R→Calls Tryz.prog 17 #[sysV s A s.ts.length c,.slice A1 s.ts.length c1] W fun e w'=>e=.returned (.bool true)∧But No W w'):=Lib.hid (fun W A1 c1 hb h=>by have:=right_is s A _ c A1 _ c1 R W (hs.no hb) h;rwa [hpr] at this)
  have CC:Hid (∀ W A1 c1,But No w W→RPl W A1 s.ts.length R→Calls Tryz.prog 18 #[sysV s A s.ts.length c,.slice A1 s.ts.length c1] W fun e w'=>∃ B k,e=.returned (.tuple #[.slice B s.ts.length k,.int .i64 (-1),.int .i64 0])∧But No W w'∧Rl w' B s.ts.length (chkV s R).1):=Lib.hid (fun W A1 c1 hb h=>(CK s A _ c A1 _ c1 R W (hs.no hb) h).mono fun e w' ⟨v,h1,h2,h3⟩=>by
   obtain⟨B,k,rfl,_⟩:=h3.slice
   have h4:=(h3.rl (by rw[hbl];have:=(right_len hr).2.2.2.1;omega)).1
   rw[hc1,hc2,hbl] at h1
   rw[hbl] at h4
   exact⟨B,k,h1,h2,h4⟩)
  have CN:Hid (∀ B k D q W,Rl W B s.ts.length (chkV s R).1→Rl W D s.ts.length (chkV s R).1→Calls Tryz.prog 13 #[.slice B s.ts.length k,.slice D s.ts.length q] W fun e w'=>e=.returned (.bool true)∧But No W w'):=Lib.hid (fun B k D q W h1 h2=>(numbers_any B D _ _ k q _ _ W h1 h2).mono fun e w' ⟨h3,h4⟩=>⟨by rw[h3];simp,h4⟩)
  have HROW:Hid (∀ i,i<s.ts.length→∃ l t,R[i]? = some l∧s.ts[i]? = some t∧0<l.length∧l.length≤8∧smN l l.length=t.w∧(∀ k,k≤l.length→0≤smN l k∧smN l k≤1099511627776)∧(∀ p,l[l.length-1]? = some p→p.ti=false)):=Lib.hid (fun i hi=>by
   have e1:R[i]? = some (R[i]'(by omega)):=List.getElem?_eq_getElem _
   have e2:s.ts[i]? = some s.ts[i]:=List.getElem?_eq_getElem hi
   obtain⟨g1,g2,g3,g4⟩:=hp.row e1 e2
   obtain⟨_,_,hok⟩:=plR_parts hpr
   have ho:=okS_at hok e1
   rw[getT e2] at ho
   have hw:=((right_nums hr).2.2.2 _ (List.mem_of_getElem? e2)).1
   have g5:=(okL_sm ho hw.1).2.2.1
   refine⟨_,_,e1,e2,List.length_pos_iff.2 g1,g2,g3,fun k hk=>⟨(g5 k hk).1,by have:=(g5 k hk).2;omega⟩,fun p hp2=>?_⟩
   have h0:=List.length_pos_iff.2 g1
   have h9:=(g4 _ p hp2).1
   cases hti:p.ti with
   | false=>rfl
   | true=>exact absurd (h9.1 hti) (by omega))
  have HBD:Hid (∀ (W:World) A1 i t,RPl W A1 s.ts.length R→s.ts[i]? = some t→∃ b,(chkV s R).1.getD i 0=b∧1≤b∧b≤t.d):=Lib.hid (fun W A1 i t h ht=>by
   obtain⟨b,h1,h2,h3⟩:=hp.bound h ht
   exact⟨b,by simp[List.getD,h1],h2,h3⟩)
  have HTK:Hid (∀ W,But No w W→RTsk W A s.ts.length s.ts):=Lib.hid (fun W hb=>(hs.no hb).ts)
  have hn24:=(right_len hr).2.2.2.1
  generalize (chkV s R).1=zs at CP CC CN HBD
  generalize hnn:s.ts.length=n at *
  clear hx hbl hrl hpr hc1 hc2 hs P CK hp CR
  unfold sysV at CP CRI CC ⊢
  unfold boxS at BK HB0
  go_enter Tryz.func4,Tryz.ntmps4
  go_upto_region 2 with(go_at_call 10;(with_reducible refine(CX.out _).mono ?_);rintro e w1 ⟨rfl,h1⟩)
  have H1:=Lib.hid h1
  obtain⟨c0,c1,c2,c3,c4,c5,c6,c7,c8⟩:=BK.out _ H1.out
  clear h1
  go_upto_region 5 with(go_at_call 14;(with_reducible refine(CP.out _ (HB0.out.trans H1.out)).mono ?_);rintro e w2 ⟨A1,k1,B,k,rfl,h2,r2,l2⟩)
  have H2:=Lib.hid (H1.out.trans h2)
  have R2:=Lib.hid r2
  have L2:=Lib.hid l2
  clear c0 c1 c2 c3 c4 c5 c6 c7 c8 h2 r2 l2
  obtain⟨c0,c1,c2,c3,c4,c5,c6,c7,c8⟩:=BK.out _ H2.out
  have CRI2:=Lib.hid (CRI.out w2 A1 k1 (HB0.out.trans H2.out) R2.out)
  go_upto_region 7 with(go_at_call 17;(with_reducible refine CRI2.out.mono ?_);rintro e w3 ⟨rfl,h3⟩;have H3:=Lib.hid h3;clear h3 c0 c1 c2 c3 c4 c5 c6 c7 c8;obtain⟨c0,c1,c2,c3,c4,c5,c6,c7,c8⟩:=BK.out _ (H2.out.trans H3.out))
  have CC2:=Lib.hid (CC.out w3 A1 k1 (HB0.out.trans (H2.out.trans H3.out)) (R2.out.no H3.out))
  go_upto_region 8 with(go_at_call 18;(with_reducible refine CC2.out.mono ?_);rintro e w4 ⟨D,q4,rfl,h4,l4⟩)
  have H4:=Lib.hid (H3.out.trans h4)
  have L4:=Lib.hid l4
  clear h4 l4 c0 c1 c2 c3 c4 c5 c6 c7 c8
  have CN2:=Lib.hid (CN.out B k D q4 w4 (L2.out.no H4.out) L4.out)
  go_wp2_with (go_at_call 13;(with_reducible refine CN2.out.mono ?_);rintro e w5 ⟨rfl,h5⟩;have H5:=Lib.hid (H4.out.trans h5);clear h5)
  have HB5:Hid (But No w w5):=Lib.hid (HB0.out.trans (H2.out.trans H5.out))
  clear CX CP CRI CC CN CRI2 CC2 CN2 L4 H1 H3
  go_loopw [11] (fun x wr=>∃ i:Nat,x=.int .i64 (i:Int)∧i≤n∧Hid (But No w5 wr)) (fun x _=>n-(intOf x).toNat)
  case atStart=>exact⟨0,rfl,by omega,But.refl No _⟩
  case round =>
   obtain⟨i,rfl,hi,HB6⟩:=hrel
   have hi0:(0:Int)≤(i:Int):=Int.natCast_nonneg i
   by_cases hin:i<n
   ·have hin2:(i:Int)<(n:Int):=by omega
    have HB7:=Lib.hid (H5.out.trans HB6.out)
    obtain⟨l,t,hl,ht,hl0,hl8,hsm,hsb,hlast⟩:=HROW.out i hin
    obtain⟨bd,hbd,hbd1,hbd2⟩:=HBD.out w2 A1 i t R2.out ht
    obtain⟨ba,oa,Aa,ca,eA,_,e0,_,ra⟩:=(R2.out.no HB7.out).at1 hl
    obtain⟨bt,ot,At,ct,eT,t0,t1,t2,t3,_⟩:=(HTK.out wr (HB0.out.trans (H2.out.trans HB7.out))).at1 ht
    obtain⟨bz,oz,eB,_,hz⟩:=(L2.out.no HB7.out).at_ (by omega)
    have z0:=hz i hin
    rw[hbd] at z0
    subst eA eT eB
    have RA:=Lib.hid ra
    have hlm:=ra.max
    clear hz ra hbd
    obtain⟨q,hq⟩:∃ q,l.length=q+1:=⟨l.length-1,by omega⟩
    obtain⟨y,hy⟩:∃ y,l[q]? = some y:=⟨_,List.getElem?_eq_getElem (by omega)⟩
    have hyt:=hlast y (by rw[hq];exact hy)
    have HY:=Lib.hid hy
    have HL:=Lib.hid (And.intro hl ht)
    clear hlast hy hl ht
    have hq0:(0:Int)≤(q:Int):=Int.natCast_nonneg q
    have HLL:Hid (l.length=q+1):=Lib.hid hq
    obtain⟨m1,hm1⟩:∃ m1,l.length=m1:=⟨_,rfl⟩
    rw[hm1] at e0 RA hlm hsm hsb hq hl0 hl8
    have hqm:q<m1:=by omega
    have hqi:(q:Int)<(m1:Int):=by omega
    have wr1:IntKind.i64.wrap ((m1:Int)-1)=(q:Int):=by rw[IntKind.wrap_i64];omega
    have m0:((m1:Int) == 0)=false:=by rw[beq_eq_false_iff_ne];omega
    have m00:¬(m1:Int)=0:=by omega
    have HQ:=Lib.hid (And.intro hq hm1)
    clear hq hm1
    go_wp2_with fail
    go_loopw [12,13] (fun x y wr2=>∃ k:Nat,x=.int .i64 (smN l k)∧y=.int .i64 (k:Int)∧k≤m1∧Hid (But No wr wr2)) (fun _ y _=>m1-(intOf y).toNat)
    case atStart=>exact⟨0,rfl,rfl,by omega,But.refl No _⟩
    case round =>
     obtain⟨k,rfl,rfl,hk,HB8⟩:=hrel
     have hk0:(0:Int)≤(k:Int):=Int.natCast_nonneg k
     have e1:=cell_keep e0 HB8.out
     by_cases hkm:k<m1
     ·have hkm2:(k:Int)<(m1:Int):=by omega
      obtain⟨y,hy⟩:∃ y,l[k]? = some y:=⟨_,List.getElem?_eq_getElem (by rw[HQ.out.2];omega)⟩
      obtain⟨bc,oc,rfl,_,p0,p1,p2,p3,p4⟩:=(RA.out.no HB8.out).at1 hy
      have hb1:=hsb k hk
      have hb2:=hsb (k+1) hkm
      have hnx:=smN_next hy
      rw[hnx] at hb2
      generalize smN l k=a at hb1 hb2 hnx ⊢
      obtain⟨y0,y1,y2,y3,y4⟩:=y
      dsimp only at p0 p1 p2 p3 p4 hb2 hnx
      clear hy
      go_wp2_with fail
      go_roundw
      case rel=>exact⟨k+1,by rw[hnx],by first | rfl | go_num,by omega,HB8.out⟩
      case measure=>simp[intOf];omega
     ·have hkm2:¬(k:Int)<(m1:Int):=by omega
      obtain rfl:k=m1:=by omega
      rw[hsm]
      have b1:(t.w != t.w)=false:=by simp
      have b2:decide (bd<1)=false:=by simp;omega
      have b3:decide (t.d<bd)=false:=by simp;omega
      have b4:¬bd<1:=by omega
      have b5:¬t.d<bd:=by omega
      have t1:=cell_keep t1 HB8.out
      have t2:=cell_keep t2 HB8.out
      have z0:=cell_keep z0 HB8.out
      obtain⟨bc,oc,rfl,_,p0,p1,p2,p3,p4⟩:=(RA.out.no HB8.out).at1 HY.out
      rw[hyt] at p4
      obtain⟨c0,c1,c2,c3,c4,c5,c6,c7,c8⟩:=BK.out _ (H2.out.trans (HB7.out.trans HB8.out))
      go_wp2_with fail
      go_quiet (fail)
      go_wp2
      go_roundw
      case rel=>exact⟨i+1,by first | rfl | go_num,by omega,by first | exact HB6.out.trans HB8.out | exact(HB6.out.trans HB8.out).drew | exact(HB6.out.trans HB8.out).drewN _⟩
      case measure=>simp[intOf];omega
   ·have hin2:¬(i:Int)<(n:Int):=by omega
    go_wp2
    go_ret
    exact⟨rfl,HB5.out.trans HB6.out⟩
end placeGood
end Go.Proofs.YtlecikdjoekknaaGreat.pln
end
section
namespace Go.Proofs.YtlecikdjoekknaaGreat.placeGood
open val pln
theorem walk (s:Sys) (A:Option Addr) (c:Nat) (w:World) (hs:RSys w A s.ts.length c s) :
  Calls Tryz.prog 4 #[sysV s A s.ts.length c] w fun e w'=>e=.returned (.bool true)∧But No w w' :=
 pln.placeGood.walk place_is check_is s A c w hs
end Go.Proofs.YtlecikdjoekknaaGreat.placeGood
end
