/- Part 46 of a proof: PlR14. -/
import Derived.Test.YtjfaiaipojfhgaaGreatR23
section
namespace Go.Proofs.YtjfaiaipojfhgaaGreat.pln
open Go.Lib (hid)
open Go.ChangeShapes Go.WideShapes Go.ChangeAt Go.RowKit Go.Deep val ter
def oV (s:Sys) (L:List (List Pc)) (i k:Int):Int × Bool:=if plR s L=true∧0≤i∧0≤k then match L[i.toNat]?.bind (fun l=>l[k.toNat]?)with | some x=>(ownV s L i.toNat x,true) | none=>(0,false) else (0,false)
theorem oV_no {s:Sys} {L:List (List Pc)} {i k:Int} (h:¬(plR s L=true∧0≤i∧0≤k)):oV s L i k=(0,false):=if_neg h
theorem oV_none {s:Sys} {L:List (List Pc)} {i k:Int} (h:L[i.toNat]?.bind (fun l=>l[k.toNat]?)=none):oV s L i k=(0,false):=by
 unfold oV
 split
 ·rw[h]
 ·rfl
theorem oV_some {s:Sys} {L:List (List Pc)} {i k:Nat} {l:List Pc} {x:Pc} (h:plR s L=true) (hi:L[i]? = some l) (hk:l[k]? = some x):oV s L (i:Int) (k:Int)=(ownV s L i x,true):=by
 unfold oV
 rw[if_pos ⟨h,by omega,by omega⟩,Int.toNat_natCast,Int.toNat_natCast,hi]
 show (match l[k]? with | some x=>(ownV s L i x,true) | none=>(0,false))=_
 rw[hk]
theorem pl_bu {s:Sys} {L:List (List Pc)} (h:plR s L=true) {i k:Nat} {l:List Pc} {x:Pc} (hi:L[i]? = some l) (hk:l[k]? = some x):0≤x.bu∧x.bu≤1099511627776:=by
 obtain⟨hr,hlen,hok⟩:=plR_parts h
 obtain⟨t,ht⟩:∃ t,s.ts[i]? = some t:=⟨_,List.getElem?_eq_getElem (by have:=(List.getElem?_eq_some_iff.1 hi).1;omega)⟩
 have h5:=okS_at hok hi
 rw[getT ht] at h5
 have h6:=okL_bu h5 hk
 have h7:=((right_nums hr).2.2.2 t (List.mem_of_getElem? ht)).1
 omega
set_option maxRecDepth 100000 in
set_option maxHeartbeats 4000000 in
theorem rOwn_any (s:Sys) (A:Option Addr) (n c:Nat) (A':Option Addr) (N c':Nat) (L:List (List Pc)) (i k:Int) (w:World) (hs:RSys w A n c s) (hl:RPl w A' N L):Calls Tryz.prog 18 #[sysV s A n c,.slice A' N c',.int .i64 i,.int .i64 k] w fun e w'=>e=.returned (.tuple #[.int .i64 (oV s L i k).1,.bool (oV s L i k).2])∧But No w w':=by
 have hb0:But No w (w.alloc (.cells (boxS s A n c) 24)):=(But.refl No w).alloc _
 have HB0:=hid hb0
 have BS:=hid (Blk.new w (boxS s A n c) 24)
 have BK:Hid (∀ W,But No (w.alloc (.cells (boxS s A n c) 24)) W→S9 W w.heap.size s A n c):=hid (fun W hb=>sys_cells (BS.out.but hb (fun f=>f)))
 obtain⟨k0,k1,k2,k3,k4,k5,k6,k7,k8⟩:=BK.out _ (But.refl No _)
 have HN:=hid hl.len
 have hNm:=hl.max
 have CR:=hid (rplan_any s A n c A' N c' L _ (hs.no hb0) (hl.no hb0))
 have HL:=hid (hl.no hb0)
 have CO:Hid (∀ W (i k:Nat) ls x,But No w W→right s=true→N≤24→L[i]? = some ls→ls[k]? = some x→(0≤x.bu∧x.bu≤1099511627776)→Calls Tryz.prog 33 #[sysV s A n c,.slice A' N c',.int .i64 (i:Int),.int .i64 (k:Int)] W fun e w'=>e=.returned (.int .i64 (ownV s L i x))∧But No W w'):=hid (fun W i k ls x hb hr hN h1 h2 h3=>rown_any s A n c A' N c' L i k ls x W (hs.no hb) (hl.no hb) hr hN h1 h2 h3)
 clear hs hl hb0
 unfold sysV at CR CO ⊢
 unfold boxS at *
 cases hr:plR s L with
 | false =>
  rw[hr] at CR
  have HV:=hid (oV_no (s:=s) (L:=L) (i:=i) (k:=k) (by rw[hr];simp))
  generalize oV s L i k=V at HV ⊢
  go_enter Tryz.func18,Tryz.ntmps18
  go_wp2_with (go_at_call 20;(with_reducible refine CR.out.mono ?_);rintro e w1 ⟨rfl,hb1⟩;have HBK:=hid hb1;have HB1:=hid (HB0.out.trans hb1);obtain⟨k0,k1,k2,k3,k4,k5,k6,k7,k8⟩:=BK.out _ hb1;clear hb1)
  go_ret2
  exact⟨by rw[HV.out];rfl,HB1.out⟩
 | true =>
  rw[hr] at CR
  by_cases hi0:i<0
  ·have q1:decide (i<0)=true:=by simp[hi0]
   have HV:=hid (oV_no (s:=s) (L:=L) (i:=i) (k:=k) (by omega))
   generalize oV s L i k=V at HV ⊢
   go_enter Tryz.func18,Tryz.ntmps18
   go_wp2_with (go_at_call 20;(with_reducible refine CR.out.mono ?_);rintro e w1 ⟨rfl,hb1⟩;have HBK:=hid hb1;have HB1:=hid (HB0.out.trans hb1);obtain⟨k0,k1,k2,k3,k4,k5,k6,k7,k8⟩:=BK.out _ hb1;clear hb1)
   go_ret2
   exact⟨by rw[HV.out];rfl,HB1.out⟩
  ·have q1:decide (i<0)=false:=by simp;omega
   obtain⟨j,rfl⟩:∃ j:Nat,i=(j:Int):=⟨i.toNat,by omega⟩
   by_cases hiN:N≤j
   ·have q2:decide ((N:Int)≤(j:Int))=true:=by simp;omega
    have HV:=hid (oV_none (s:=s) (L:=L) (i:=(j:Int)) (k:=k) (by rw[Int.toNat_natCast,List.getElem?_eq_none_iff.2 (by rw[HN.out];exact hiN)];rfl))
    generalize oV s L (j:Int) k=V at HV ⊢
    go_enter Tryz.func18,Tryz.ntmps18
    go_wp2_with (go_at_call 20;(with_reducible refine CR.out.mono ?_);rintro e w1 ⟨rfl,hb1⟩;have HBK:=hid hb1;have HB1:=hid (HB0.out.trans hb1);obtain⟨k0,k1,k2,k3,k4,k5,k6,k7,k8⟩:=BK.out _ hb1;clear hb1)
    go_ret2
    exact⟨by rw[HV.out];rfl,HB1.out⟩
   ·have q2:decide ((N:Int)≤(j:Int))=false:=by simp;omega
    by_cases hk0:k<0
    ·have q3:decide (k<0)=true:=by simp[hk0]
     have HV:=hid (oV_no (s:=s) (L:=L) (i:=(j:Int)) (k:=k) (by omega))
     generalize oV s L (j:Int) k=V at HV ⊢
     go_enter Tryz.func18,Tryz.ntmps18
     go_wp2_with (go_at_call 20;(with_reducible refine CR.out.mono ?_);rintro e w1 ⟨rfl,hb1⟩;have HBK:=hid hb1;have HB1:=hid (HB0.out.trans hb1);obtain⟨k0,k1,k2,k3,k4,k5,k6,k7,k8⟩:=BK.out _ hb1;clear hb1)
     go_ret2
     exact⟨by rw[HV.out];rfl,HB1.out⟩
    ·have q3:decide (k<0)=false:=by simp;omega
     obtain⟨m,rfl⟩:∃ m:Nat,k=(m:Int):=⟨k.toNat,by omega⟩
     obtain⟨l,hl⟩:∃ l,L[j]? = some l:=⟨_,List.getElem?_eq_getElem (by rw[HN.out];omega)⟩
     have hj0:(0:Int)≤(j:Int):=Int.natCast_nonneg j
     have hj1:(j:Int)<(N:Int):=by omega
     obtain⟨b,off,A1,c1,hA,_,e0,_,_⟩:=HL.out.at1 hl
     subst hA
     have HE0:=hid e0
     clear e0
     by_cases hkl:l.length≤m
     ·have q4:decide ((l.length:Int)≤(m:Int))=true:=by simp;omega
      have HV:=hid (oV_none (s:=s) (L:=L) (i:=(j:Int)) (k:=(m:Int)) (by rw[Int.toNat_natCast,Int.toNat_natCast,hl];exact List.getElem?_eq_none_iff.2 hkl))
      generalize oV s L (j:Int) (m:Int)=V at HV ⊢
      go_enter Tryz.func18,Tryz.ntmps18
      go_wp2_with (go_at_call 20;(with_reducible refine CR.out.mono ?_);rintro e w1 ⟨rfl,hb1⟩;have HBK:=hid hb1;have HB1:=hid (HB0.out.trans hb1);obtain⟨k0,k1,k2,k3,k4,k5,k6,k7,k8⟩:=BK.out _ hb1;have e0:=cell_keep HE0.out hb1;clear hb1)
      go_ret2
      exact⟨by rw[HV.out];rfl,HB1.out⟩
     ·have q4:decide ((l.length:Int)≤(m:Int))=false:=by simp;omega
      obtain⟨x,hx⟩:∃ x,l[m]? = some x:=⟨_,List.getElem?_eq_getElem (by omega)⟩
      have HV:=hid (oV_some hr hl hx)
      have CO2:=hid (fun W hb=>CO.out W j m l x hb (plR_parts hr).1 (by have:=(plR_small hr).1;have:=HN.out;omega) hl hx (pl_bu hr hl hx))
      generalize oV s L (j:Int) (m:Int)=V at HV ⊢
      generalize ownV s L j x=O at HV CO2
      clear hl hx CO
      go_enter Tryz.func18,Tryz.ntmps18
      go_wp2_with (first | (go_at_call 20;(with_reducible refine CR.out.mono ?_);rintro e w1 ⟨rfl,hb1⟩;have HBK:=hid hb1;have HB1:=hid (HB0.out.trans hb1);obtain⟨k0,k1,k2,k3,k4,k5,k6,k7,k8⟩:=BK.out _ hb1;have e0:=cell_keep HE0.out hb1;clear hb1) | (go_at_call 33;(with_reducible refine(CO2.out _ HB1.out).mono ?_);rintro e w2 ⟨rfl,hb2⟩;have HB2:=hid (HB1.out.trans hb2);clear hb2))
      go_ret2
      exact⟨by rw[HV.out];rfl,HB2.out⟩
end Go.Proofs.YtjfaiaipojfhgaaGreat.pln
end
