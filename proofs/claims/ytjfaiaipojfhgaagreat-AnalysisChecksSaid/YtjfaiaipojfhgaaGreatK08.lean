/- Part 8 of a proof: ReR1 ReR2. -/
import Derived.Deep.DeepCutAuto
import Derived.Test.YtjfaiaipojfhgaaGreatK04
import Derived.Test.YtjfaiaipojfhgaaGreatK05
section
namespace Go.Proofs.YtjfaiaipojfhgaaGreat.rsp
open Go.Lib (hid)
open Go.ChangeShapes Go.WideShapes Go.ChangeAt Go.RowKit Go.Deep
theorem retp {a b c d:Int} (h:a=c) (k:b=d):Ending.returned (.tuple #[.int .i64 a,.int .i64 b])=.returned (.tuple #[.int .i64 c,.int .i64 d]):=by rw[h,k]
set_option maxRecDepth 100000 in
theorem rup_any (n d:Int) (hn:0≤n) (hd:1≤d) (hr:n≤9223372036854775807) (hr2:d≤9223372036854775807) (w:World):Calls Tryz.prog 113 #[.int .i64 n,.int .i64 d] w fun e w'=>e=.returned (.int .i64 (up n d))∧w'=w:=by
 have hb:=up_bd hn hd
 have q1:n.tdiv d=n/d:=Int.tdiv_eq_ediv_of_nonneg (by omega)
 have q2:n.tmod d=n % d:=Int.tmod_eq_emod_of_nonneg (by omega)
 have hq0:0≤n/d:=Int.ediv_nonneg (by omega) (by omega)
 have hq1:n/d≤n:=Int.ediv_le_self _ (by omega)
 by_cases h:0<n % d
 ·have HU:Hid (up n d=n/d+1):=hid (by unfold up;rw[if_pos h])
  have hu:n/d+1≤n:=by have:=HU.out;omega
  have b1:decide (0<n % d)=true:=by simp[h]
  have hd0:d≠0:=by omega
  obtain⟨q,hq⟩:∃ q,n/d=q:=⟨_,rfl⟩
  obtain⟨r,hrr⟩:∃ r,n % d=r:=⟨_,rfl⟩
  rw[hq] at q1 hq0 hq1 HU hu
  rw[hrr] at q2 h b1
  clear hb hq hrr
  go_enter Tryz.func113,Tryz.ntmps113
  go_wp2
  go_ret
  exact⟨ret1 HU.out.symm,rfl⟩
 ·have HU:Hid (up n d=n/d):=hid (by unfold up;rw[if_neg h];omega)
  have b1:decide (0<n % d)=false:=by simp;omega
  have hd0:d≠0:=by omega
  obtain⟨q,hq⟩:∃ q,n/d=q:=⟨_,rfl⟩
  obtain⟨r,hrr⟩:∃ r,n % d=r:=⟨_,rfl⟩
  rw[hq] at q1 hq0 hq1 HU
  rw[hrr] at q2 h b1
  clear hb hq hrr
  go_enter Tryz.func113,Tryz.ntmps113
  go_wp2
  go_ret
  exact⟨ret1 HU.out.symm,rfl⟩
theorem radd_good (a b:Int) (ha:0≤a) (hb:0≤b) (h:a+b≤9223372036854775807) (w:World):Calls Tryz.prog 108 #[.int .i64 a,.int .i64 b] w fun e w'=>e=.returned (.tuple #[.int .i64 (a+b),.int .i64 0])∧w'=w :=
 (qar.radd_any a b (by unfold inR;omega) (by unfold inR;omega) w).mono fun e w' ⟨h1,h2⟩=>⟨by rw[h1,qar.exV_in (by unfold inR;omega),qar.exE_in (by unfold inR;omega)],h2.symm⟩
theorem radd_bad (a b:Int) (ha:0≤a) (hb:0≤b) (ha':a≤9223372036854775807) (hb':b≤9223372036854775807) (h:9223372036854775807<a+b) (w:World):Calls Tryz.prog 108 #[.int .i64 a,.int .i64 b] w fun e w'=>e=.returned (.tuple #[.int .i64 0,.int .i64 2])∧w'=w :=
 (qar.radd_any a b (by unfold inR;omega) (by unfold inR;omega) w).mono fun e w' ⟨h1,h2⟩=>⟨by rw[h1,qar.exV_out (by unfold inR;omega),qar.exE_out (by unfold inR;omega)],h2.symm⟩
set_option maxRecDepth 100000 in
theorem rmore_good (s m k:Int) (hs:0≤s) (hm:0≤m) (hk:0≤k) (hs':s≤4611686018427387904) (hm':m≤9223372036854775807) (hk':k≤9223372036854775807) (h:s+m*k≤4611686018427387904) (w:World):Calls Tryz.prog 112 #[.int .i64 s,.int .i64 m,.int .i64 k] w fun e w'=>e=.returned (.tuple #[.int .i64 (s+m*k),.bool true])∧w'=w:=by
 have h0:0≤m*k:=Int.mul_nonneg hm hk
 have CM:Hid (∀ W,Calls Tryz.prog 133 #[.int .i64 m,.int .i64 k] W fun e w'=>e=.returned (.tuple #[.int .i64 (m*k),.int .i64 0])∧w'=W):=fun W =>
  (qar.rmul_any m k (by unfold inR;omega) (by unfold inR;omega) W).mono fun e w' ⟨h1,h2⟩=>⟨by rw[h1,qar.exV_in (by unfold inR;omega),qar.exE_in (by unfold inR;omega)],h2.symm⟩
 have CA:Hid (∀ W,Calls Tryz.prog 108 #[.int .i64 s,.int .i64 (m*k)] W fun e w'=>e=.returned (.tuple #[.int .i64 (s+m*k),.int .i64 0])∧w'=W):=fun W=>radd_good s (m*k) hs h0 (by omega) W
 generalize m*k=z at *
 have b1:decide (s+z≤4611686018427387904)=true:=by simp[h]
 clear h h0 hm hk hm' hk' hs hs'
 go_enter Tryz.func112,Tryz.ntmps112
 go_wp2_with (first | (go_at_call 133;(with_reducible refine(CM.out _).mono ?_);rintro e w1 ⟨rfl,rfl⟩) | (go_at_call 108;(with_reducible refine(CA.out _).mono ?_);rintro e w2 ⟨rfl,rfl⟩))
 go_ret2
 exact⟨rfl,rfl⟩
set_option maxRecDepth 100000 in
theorem rmore_bad (s m k:Int) (hs:0≤s) (hm:0≤m) (hk:0≤k) (hs':s≤4611686018427387904) (hm':m≤9223372036854775807) (hk':k≤9223372036854775807) (h:4611686018427387904<s+m*k) (w:World):Calls Tryz.prog 112 #[.int .i64 s,.int .i64 m,.int .i64 k] w fun e w'=>(∃ v:Int,e=.returned (.tuple #[.int .i64 v,.bool false]))∧w'=w:=by
 have h0:0≤m*k:=Int.mul_nonneg hm hk
 by_cases hz:m*k≤9223372036854775807
 ·by_cases hx:s+m*k≤9223372036854775807
  ·have CM:Hid (∀ W,Calls Tryz.prog 133 #[.int .i64 m,.int .i64 k] W fun e w'=>e=.returned (.tuple #[.int .i64 (m*k),.int .i64 0])∧w'=W):=fun W =>
    (qar.rmul_any m k (by unfold inR;omega) (by unfold inR;omega) W).mono fun e w' ⟨h1,h2⟩=>⟨by rw[h1,qar.exV_in (by unfold inR;omega),qar.exE_in (by unfold inR;omega)],h2.symm⟩
   have CA:Hid (∀ W,Calls Tryz.prog 108 #[.int .i64 s,.int .i64 (m*k)] W fun e w'=>e=.returned (.tuple #[.int .i64 (s+m*k),.int .i64 0])∧w'=W):=fun W=>radd_good s (m*k) hs h0 (by omega) W
   generalize m*k=z at *
   have b1:decide (s+z≤4611686018427387904)=false:=by simp;omega
   clear h h0 hm hk hm' hk' hs hs' hz hx
   go_enter Tryz.func112,Tryz.ntmps112
   go_wp2_with (first | (go_at_call 133;(with_reducible refine(CM.out _).mono ?_);rintro e w1 ⟨rfl,rfl⟩) | (go_at_call 108;(with_reducible refine(CA.out _).mono ?_);rintro e w2 ⟨rfl,rfl⟩))
   go_ret2
   exact⟨⟨_,rfl⟩,rfl⟩
  ·have CM:Hid (∀ W,Calls Tryz.prog 133 #[.int .i64 m,.int .i64 k] W fun e w'=>e=.returned (.tuple #[.int .i64 (m*k),.int .i64 0])∧w'=W):=fun W =>
    (qar.rmul_any m k (by unfold inR;omega) (by unfold inR;omega) W).mono fun e w' ⟨h1,h2⟩=>⟨by rw[h1,qar.exV_in (by unfold inR;omega),qar.exE_in (by unfold inR;omega)],h2.symm⟩
   have CA:Hid (∀ W,Calls Tryz.prog 108 #[.int .i64 s,.int .i64 (m*k)] W fun e w'=>e=.returned (.tuple #[.int .i64 0,.int .i64 2])∧w'=W):=fun W=>radd_bad s (m*k) hs h0 (by omega) (by omega) (by omega) W
   generalize m*k=z at *
   clear h h0 hm hk hm' hk' hs hs' hz hx
   go_enter Tryz.func112,Tryz.ntmps112
   go_wp2_with (first | (go_at_call 133;(with_reducible refine(CM.out _).mono ?_);rintro e w1 ⟨rfl,rfl⟩) | (go_at_call 108;(with_reducible refine(CA.out _).mono ?_);rintro e w2 ⟨rfl,rfl⟩))
   go_ret2
   exact⟨⟨_,rfl⟩,rfl⟩
 ·have CM:Hid (∀ W,Calls Tryz.prog 133 #[.int .i64 m,.int .i64 k] W fun e w'=>e=.returned (.tuple #[.int .i64 0,.int .i64 2])∧w'=W):=fun W =>
   (qar.rmul_any m k (by unfold inR;omega) (by unfold inR;omega) W).mono fun e w' ⟨h1,h2⟩=>⟨by rw[h1,qar.exV_out (by unfold inR;omega),qar.exE_out (by unfold inR;omega)],h2.symm⟩
  clear h h0 hm hk hm' hk' hs hs' hz
  go_enter Tryz.func112,Tryz.ntmps112
  go_wp2_with (go_at_call 133;(with_reducible refine(CM.out _).mono ?_);rintro e w1 ⟨rfl,rfl⟩)
  go_ret2
  exact⟨⟨_,rfl⟩,rfl⟩
set_option maxRecDepth 100000 in
set_option maxHeartbeats 4000000 in
theorem rloads_any (A:Option Addr) (n c:Nat) (l:List Ld) (w:World) (h:RLd w A n l):Calls Tryz.prog 111 #[.slice A n c] w fun e w'=>e=.returned (.bool (okLs l))∧But No w w':=by
 have HN:=hid h.len
 have HL:=hid h
 have hmax:=h.max
 clear h
 go_enter Tryz.func111,Tryz.ntmps111
 go_wp2_with fail
 go_loopw [3] (fun i wr=>∃ q:Nat,i=.int .i64 (q:Int)∧q≤n∧Hid (∀ j x,j<q→l[j]? = some x→okD x=true)∧Hid (But No w wr)) (fun i _=>n-(intOf i).toNat)
 case atStart=>exact⟨0,rfl,by omega,fun j x hj=>absurd hj (by omega),But.refl No w⟩
 case round =>
  obtain⟨q,rfl,hq,HG,HBR⟩:=hrel
  by_cases hqn:q<n
  ·have hqn2:(q:Int)<(n:Int):=by omega
   have hq0:(0:Int)≤(q:Int):=Int.natCast_nonneg q
   obtain⟨x,hx⟩:∃ x,l[q]? = some x:=⟨_,List.getElem?_eq_getElem (by rw[HN.out];exact hqn)⟩
   obtain⟨b,off,rfl,_,e0,e1,e2⟩:=(HL.out.no HBR.out).at1 hx
   have HX:=hid hx
   clear hx
   obtain⟨x0,x1,x2⟩:=x
   simp only at e0 e1 e2
   by_cases g0:x0<0
   ·have HV:Hid (okLs l=false):=hid (by
     cases e:okLs l with
     | false=>rfl
     | true =>
      have:=okD_iff.1 ((okLs_iff.1 e).2 _ (List.mem_of_getElem? HX.out))
      dsimp only at this
      omega)
    have k0:decide (x0<0)=true:=by simp[g0]
    go_wp2
    go_ret
    exact⟨ret_bool HV.out.symm,HBR.out.alloc _⟩
   ·have k0:decide (x0<0)=false:=by simp;omega
    by_cases g1:1099511627776<x0
    ·have HV:Hid (okLs l=false):=hid (by
      cases e:okLs l with
      | false=>rfl
      | true =>
       have:=okD_iff.1 ((okLs_iff.1 e).2 _ (List.mem_of_getElem? HX.out))
       dsimp only at this
       omega)
     have k1:decide (1099511627776<x0)=true:=by simp[g1]
     go_wp2
     go_ret
     exact⟨ret_bool HV.out.symm,HBR.out.alloc _⟩
    ·have k1:decide (1099511627776<x0)=false:=by simp;omega
     by_cases g2:x1<1
     ·have HV:Hid (okLs l=false):=hid (by
       cases e:okLs l with
       | false=>rfl
       | true =>
        have:=okD_iff.1 ((okLs_iff.1 e).2 _ (List.mem_of_getElem? HX.out))
        dsimp only at this
        omega)
      have k2:decide (x1<1)=true:=by simp[g2]
      go_wp2
      go_ret
      exact⟨ret_bool HV.out.symm,HBR.out.alloc _⟩
     ·have k2:decide (x1<1)=false:=by simp;omega
      by_cases g3:1099511627776<x1
      ·have HV:Hid (okLs l=false):=hid (by
        cases e:okLs l with
        | false=>rfl
        | true =>
         have:=okD_iff.1 ((okLs_iff.1 e).2 _ (List.mem_of_getElem? HX.out))
         dsimp only at this
         omega)
       have k3:decide (1099511627776<x1)=true:=by simp[g3]
       go_wp2
       go_ret
       exact⟨ret_bool HV.out.symm,HBR.out.alloc _⟩
      ·have k3:decide (1099511627776<x1)=false:=by simp;omega
       by_cases g4:x2<0
       ·have HV:Hid (okLs l=false):=hid (by
         cases e:okLs l with
         | false=>rfl
         | true =>
          have:=okD_iff.1 ((okLs_iff.1 e).2 _ (List.mem_of_getElem? HX.out))
          dsimp only at this
          omega)
        have k4:decide (x2<0)=true:=by simp[g4]
        go_wp2
        go_ret
        exact⟨ret_bool HV.out.symm,HBR.out.alloc _⟩
       ·have k4:decide (x2<0)=false:=by simp;omega
        by_cases g5:1099511627776<x2
        ·have HV:Hid (okLs l=false):=hid (by
          cases e:okLs l with
          | false=>rfl
          | true =>
           have:=okD_iff.1 ((okLs_iff.1 e).2 _ (List.mem_of_getElem? HX.out))
           dsimp only at this
           omega)
         have k5:decide (1099511627776<x2)=true:=by simp[g5]
         go_wp2
         go_ret
         exact⟨ret_bool HV.out.symm,HBR.out.alloc _⟩
        ·have k5:decide (1099511627776<x2)=false:=by simp;omega
         have HK:Hid (okD ⟨x0,x1,x2⟩=true):=hid (okD_iff.2 (by dsimp only;omega))
         clear g0 g1 g2 g3 g4 g5
         go_wp2
         go_roundw
         case rel =>
          refine⟨q+1,by go_num,by omega,fun j y hj hy=>?_,HBR.out.alloc _⟩
          rcases Nat.lt_succ_iff_lt_or_eq.1 hj with e | e
          ·exact HG.out j y e hy
          ·subst e;rw[HX.out] at hy;cases hy;exact HK.out
         case measure=>simp[intOf];omega
  ·have hqn2:¬((q:Int)<(n:Int)):=by omega
   obtain rfl:q=n:=by omega
   by_cases g:q≤72
   ·have HV:Hid (okLs l=true):=hid (okLs_iff.2 ⟨by rw[HN.out];exact g,fun x hx=>by
     obtain⟨j,hj⟩:=List.mem_iff_getElem?.1 hx
     exact HG.out j x (by have:=(List.getElem?_eq_some_iff.1 hj).1;rw[HN.out] at this;exact this) hj⟩)
    have k1:decide (q≤72)=true:=by simp[g]
    have k2:decide ((q:Int)≤72)=true:=by simp;omega
    go_wp2
    go_ret
    exact⟨ret_bool HV.out.symm,HBR.out⟩
   ·have HV:Hid (okLs l=false):=hid (by cases e:okLs l with | false=>rfl | true=>have:=(okLs_iff.1 e).1;have:=HN.out;omega)
    have k1:decide (q≤72)=false:=by simp;omega
    have k2:decide ((q:Int)≤72)=false:=by simp;omega
    go_wp2
    go_ret
    exact⟨ret_bool HV.out.symm,HBR.out⟩
set_option maxRecDepth 100000 in
set_option maxHeartbeats 4000000 in
theorem rright_any (A:Option Addr) (n c:Nat) (a:List Ld) (B:Option Addr) (m d:Nat) (b:List Ld) (own bl rl:Int) (w:World) (h:RLd w A n a) (h':RLd w B m b):Calls Tryz.prog 83 #[.int .i64 own,.int .i64 bl,.int .i64 rl,.slice A n c,.slice B m d] w fun e w'=>e=.returned (.bool (right own bl rl a b))∧But No w w':=by
 have CA:Hid (∀ W,But No w W→Calls Tryz.prog 111 #[.slice A n c] W fun e w'=>e=.returned (.bool (okLs a))∧But No W w'):=fun W hb=>rloads_any A n c a W (h.no hb)
 have CB:Hid (∀ W,But No w W→Calls Tryz.prog 111 #[.slice B m d] W fun e w'=>e=.returned (.bool (okLs b))∧But No W w'):=fun W hb=>rloads_any B m d b W (h'.no hb)
 clear h h'
 obtain⟨r,hr⟩:∃ r,right own bl rl a b=r:=⟨_,rfl⟩
 rw[hr]
 have HR:Hid (right own bl rl a b=r):=hid hr
 obtain⟨u,hu⟩:∃ u,okLs a=u:=⟨_,rfl⟩
 obtain⟨v,hv⟩:∃ v,okLs b=v:=⟨_,rfl⟩
 have HQ:Hid (r=(u && (v && (inT 0 own && (inT 0 bl && inT 0 rl))))):=hid (by rw[←hr,←hu,←hv];rfl)
 rw[hu] at CA
 rw[hv] at CB
 clear hr HR hu hv
 cases u with
 | false =>
  have HV:Hid (r=false):=hid (by rw[HQ.out];rfl)
  go_enter Tryz.func83,Tryz.ntmps83
  go_upto_region 2 with(go_at_call 111;(with_reducible refine(CA.out _ (But.refl No w)).mono ?_);rintro e w1 ⟨rfl,hb1⟩;have HB1:=hid hb1;clear hb1)
  go_wp2_with (go_at_call 111;(with_reducible refine(CB.out _ HB1.out).mono ?_);rintro e w2 ⟨rfl,hb2⟩;have HB2:=hid hb2;clear hb2)
  go_ret
  exact⟨ret_bool HV.out.symm,HB1.out.trans HB2.out⟩
 | true =>
  cases v with
  | false =>
   have HV:Hid (r=false):=hid (by rw[HQ.out];rfl)
   go_enter Tryz.func83,Tryz.ntmps83
   go_upto_region 2 with(go_at_call 111;(with_reducible refine(CA.out _ (But.refl No w)).mono ?_);rintro e w1 ⟨rfl,hb1⟩;have HB1:=hid hb1;clear hb1)
   go_wp2_with (go_at_call 111;(with_reducible refine(CB.out _ HB1.out).mono ?_);rintro e w2 ⟨rfl,hb2⟩;have HB2:=hid hb2;clear hb2)
   go_ret
   exact⟨ret_bool HV.out.symm,HB1.out.trans HB2.out⟩
  | true =>
   by_cases g0:0≤own
   ·have k0:decide (0≤own)=true:=by simp[g0]
    by_cases g1:own≤1099511627776
    ·have k1:decide (own≤1099511627776)=true:=by simp[g1]
     by_cases g2:0≤bl
     ·have k2:decide (0≤bl)=true:=by simp[g2]
      by_cases g3:bl≤1099511627776
      ·have k3:decide (bl≤1099511627776)=true:=by simp[g3]
       by_cases g4:0≤rl
       ·have k4:decide (0≤rl)=true:=by simp[g4]
        by_cases g5:rl≤1099511627776
        ·have k5:decide (rl≤1099511627776)=true:=by simp[g5]
         have HV:Hid (r=true):=hid (by rw[HQ.out,inT_true.2 ⟨g0,g1⟩,inT_true.2 ⟨g2,g3⟩,inT_true.2 ⟨g4,g5⟩];rfl)
         clear g0 g1 g2 g3 g4 g5
         go_enter Tryz.func83,Tryz.ntmps83
         go_upto_region 2 with(go_at_call 111;(with_reducible refine(CA.out _ (But.refl No w)).mono ?_);rintro e w1 ⟨rfl,hb1⟩;have HB1:=hid hb1;clear hb1)
         go_wp2_with (go_at_call 111;(with_reducible refine(CB.out _ HB1.out).mono ?_);rintro e w2 ⟨rfl,hb2⟩;have HB2:=hid hb2;clear hb2)
         go_ret
         exact⟨ret_bool HV.out.symm,HB1.out.trans HB2.out⟩
        ·have k5:decide (rl≤1099511627776)=false:=by simp;omega
         have HV:Hid (r=false):=hid (by
                 have E:inT 0 rl=false:=inT_false.2 (by omega)
                 rw[HQ.out,E];simp)
         go_enter Tryz.func83,Tryz.ntmps83
         go_upto_region 2 with(go_at_call 111;(with_reducible refine(CA.out _ (But.refl No w)).mono ?_);rintro e w1 ⟨rfl,hb1⟩;have HB1:=hid hb1;clear hb1)
         go_wp2_with (go_at_call 111;(with_reducible refine(CB.out _ HB1.out).mono ?_);rintro e w2 ⟨rfl,hb2⟩;have HB2:=hid hb2;clear hb2)
         go_ret
         exact⟨ret_bool HV.out.symm,HB1.out.trans HB2.out⟩
       ·have k4:decide (0≤rl)=false:=by simp;omega
        have HV:Hid (r=false):=hid (by
                have E:inT 0 rl=false:=inT_false.2 (by omega)
                rw[HQ.out,E];simp)
        go_enter Tryz.func83,Tryz.ntmps83
        go_upto_region 2 with(go_at_call 111;(with_reducible refine(CA.out _ (But.refl No w)).mono ?_);rintro e w1 ⟨rfl,hb1⟩;have HB1:=hid hb1;clear hb1)
        go_wp2_with (go_at_call 111;(with_reducible refine(CB.out _ HB1.out).mono ?_);rintro e w2 ⟨rfl,hb2⟩;have HB2:=hid hb2;clear hb2)
        go_ret
        exact⟨ret_bool HV.out.symm,HB1.out.trans HB2.out⟩
      ·have k3:decide (bl≤1099511627776)=false:=by simp;omega
       have HV:Hid (r=false):=hid (by
               have E:inT 0 bl=false:=inT_false.2 (by omega)
               rw[HQ.out,E];simp)
       go_enter Tryz.func83,Tryz.ntmps83
       go_upto_region 2 with(go_at_call 111;(with_reducible refine(CA.out _ (But.refl No w)).mono ?_);rintro e w1 ⟨rfl,hb1⟩;have HB1:=hid hb1;clear hb1)
       go_wp2_with (go_at_call 111;(with_reducible refine(CB.out _ HB1.out).mono ?_);rintro e w2 ⟨rfl,hb2⟩;have HB2:=hid hb2;clear hb2)
       go_ret
       exact⟨ret_bool HV.out.symm,HB1.out.trans HB2.out⟩
     ·have k2:decide (0≤bl)=false:=by simp;omega
      have HV:Hid (r=false):=hid (by
              have E:inT 0 bl=false:=inT_false.2 (by omega)
              rw[HQ.out,E];simp)
      go_enter Tryz.func83,Tryz.ntmps83
      go_upto_region 2 with(go_at_call 111;(with_reducible refine(CA.out _ (But.refl No w)).mono ?_);rintro e w1 ⟨rfl,hb1⟩;have HB1:=hid hb1;clear hb1)
      go_wp2_with (go_at_call 111;(with_reducible refine(CB.out _ HB1.out).mono ?_);rintro e w2 ⟨rfl,hb2⟩;have HB2:=hid hb2;clear hb2)
      go_ret
      exact⟨ret_bool HV.out.symm,HB1.out.trans HB2.out⟩
    ·have k1:decide (own≤1099511627776)=false:=by simp;omega
     have HV:Hid (r=false):=hid (by
             have E:inT 0 own=false:=inT_false.2 (by omega)
             rw[HQ.out,E];simp)
     go_enter Tryz.func83,Tryz.ntmps83
     go_upto_region 2 with(go_at_call 111;(with_reducible refine(CA.out _ (But.refl No w)).mono ?_);rintro e w1 ⟨rfl,hb1⟩;have HB1:=hid hb1;clear hb1)
     go_wp2_with (go_at_call 111;(with_reducible refine(CB.out _ HB1.out).mono ?_);rintro e w2 ⟨rfl,hb2⟩;have HB2:=hid hb2;clear hb2)
     go_ret
     exact⟨ret_bool HV.out.symm,HB1.out.trans HB2.out⟩
   ·have k0:decide (0≤own)=false:=by simp;omega
    have HV:Hid (r=false):=hid (by
            have E:inT 0 own=false:=inT_false.2 (by omega)
            rw[HQ.out,E];simp)
    go_enter Tryz.func83,Tryz.ntmps83
    go_upto_region 2 with(go_at_call 111;(with_reducible refine(CA.out _ (But.refl No w)).mono ?_);rintro e w1 ⟨rfl,hb1⟩;have HB1:=hid hb1;clear hb1)
    go_wp2_with (go_at_call 111;(with_reducible refine(CB.out _ HB1.out).mono ?_);rintro e w2 ⟨rfl,hb2⟩;have HB2:=hid hb2;clear hb2)
    go_ret
    exact⟨ret_bool HV.out.symm,HB1.out.trans HB2.out⟩
end Go.Proofs.YtjfaiaipojfhgaaGreat.rsp
end
section
namespace Go.Proofs.YtjfaiaipojfhgaaGreat.rsp
open Go.Lib (hid)
open Go.ChangeShapes Go.WideShapes Go.ChangeAt Go.RowKit Go.Deep
def Fits (s:Int) (f:Ld→Int) (l:List Ld) (q:Nat) (S:Int) (ok:Bool) (all:Prop):Prop:=(ok=true∧S=sN s f l q∧S≤4611686018427387904)∨(ok=false∧all)
theorem wi_arg {own bl rl:Int} {a b:List Ld} {n:Int} (h:¬(right own bl rl a b=true∧0≤n∧n≤4611686018427387904)):wiE own bl rl a b n=1∧wiV own bl rl a b n=0:=by
 rcases wi_cases own bl rl a b n with⟨e,v,_⟩ | ⟨h1,_⟩ | ⟨h1,_⟩
 ·exact⟨e,v⟩
 ·exact absurd h1 h
 ·exact absurd h1 h
theorem wi_over {own bl rl:Int} {a b:List Ld} {n:Int} (h:right own bl rl a b=true∧0≤n∧n≤4611686018427387904) (hs:4611686018427387904<wiS own bl rl a b n):wiE own bl rl a b n=2∧wiV own bl rl a b n=0:=by
 rcases wi_cases own bl rl a b n with⟨_,_,h1⟩ | ⟨_,_,e,v⟩ | ⟨_,h1,_⟩
 ·exact absurd h h1
 ·exact⟨e,v⟩
 ·omega
theorem wi_good {own bl rl:Int} {a b:List Ld} {n:Int} (h:right own bl rl a b=true∧0≤n∧n≤4611686018427387904) (hs:wiS own bl rl a b n≤4611686018427387904):wiE own bl rl a b n=0∧wiV own bl rl a b n=wiS own bl rl a b n:=by
 rcases wi_cases own bl rl a b n with⟨_,_,h1⟩ | ⟨_,h1,_⟩ | ⟨_,_,e,v⟩
 ·exact absurd h h1
 ·omega
 ·exact⟨e,v⟩
set_option maxRecDepth 100000 in
set_option maxHeartbeats 8000000 in
theorem rwithin_any (A:Option Addr) (n c:Nat) (a:List Ld) (B:Option Addr) (m d:Nat) (b:List Ld) (own bl rl t:Int) (w:World) (h:RLd w A n a) (h':RLd w B m b):Calls Tryz.prog 84 #[.int .i64 own,.int .i64 bl,.int .i64 rl,.slice A n c,.slice B m d,.int .i64 t] w fun e w'=>e=.returned (.tuple #[.int .i64 (wiV own bl rl a b t),.int .i64 (wiE own bl rl a b t)])∧But No w w':=by
 have HNA:=hid h.len
 have HNB:=hid h'.len
 have HLA:=hid h
 have HLB:=hid h'
 have CR:Hid (∀ W,But No w W→Calls Tryz.prog 83 #[.int .i64 own,.int .i64 bl,.int .i64 rl,.slice A n c,.slice B m d] W fun e w'=>e=.returned (.bool (right own bl rl a b))∧But No W w'):=fun W hb=>rright_any A n c a B m d b own bl rl W (h.no hb) (h'.no hb)
 clear h h'
 cases hrt:right own bl rl a b with
 | false =>
  have HE:=hid (wi_arg (own:=own) (bl:=bl) (rl:=rl) (a:=a) (b:=b) (n:=t) (by rw[hrt];simp))
  rw[hrt] at CR
  clear hrt
  go_enter Tryz.func84,Tryz.ntmps84
  go_wp2_with (go_at_call 83;(with_reducible refine(CR.out _ (But.refl No w)).mono ?_);rintro e w1 ⟨rfl,hb1⟩;have HB1:=hid hb1;clear hb1)
  go_ret2
  exact⟨retp HE.out.2.symm HE.out.1.symm,HB1.out⟩
 | true =>
  by_cases t0:t<0
  ·have HE:=hid (wi_arg (own:=own) (bl:=bl) (rl:=rl) (a:=a) (b:=b) (n:=t) (by omega))
   have b1:decide (t<0)=true:=by simp[t0]
   rw[hrt] at CR
   clear hrt
   go_enter Tryz.func84,Tryz.ntmps84
   go_wp2_with (go_at_call 83;(with_reducible refine(CR.out _ (But.refl No w)).mono ?_);rintro e w1 ⟨rfl,hb1⟩;have HB1:=hid hb1;clear hb1)
   go_ret2
   exact⟨retp HE.out.2.symm HE.out.1.symm,HB1.out⟩
  ·have b1:decide (t<0)=false:=by simp;omega
   by_cases t1:4611686018427387904<t
   ·have HE:=hid (wi_arg (own:=own) (bl:=bl) (rl:=rl) (a:=a) (b:=b) (n:=t) (by omega))
    have b2:decide (4611686018427387904<t)=true:=by simp[t1]
    rw[hrt] at CR
    clear hrt
    go_enter Tryz.func84,Tryz.ntmps84
    go_wp2_with (go_at_call 83;(with_reducible refine(CR.out _ (But.refl No w)).mono ?_);rintro e w1 ⟨rfl,hb1⟩;have HB1:=hid hb1;clear hb1)
    go_ret2
    exact⟨retp HE.out.2.symm HE.out.1.symm,HB1.out⟩
   ·have b2:decide (4611686018427387904<t)=false:=by simp;omega
    have HRT:=hid (show right own bl rl a b=true∧0≤t∧t≤4611686018427387904 from ⟨hrt,by omega,by omega⟩)
    obtain⟨ha,hb,⟨o0,o1⟩,⟨l0,l1⟩,r0,r1⟩:=right_iff.1 hrt
    have HOA:=hid (okLs_iff.1 ha).2
    have HOB:=hid (okLs_iff.1 hb).2
    have ht0:0≤t:=by omega
    have ht1:t≤4611686018427387904:=by omega
    have hn72:n≤72:=by have:=(okLs_iff.1 ha).1;rw[HNA.out] at this;exact this
    have hm72:m≤72:=by have:=(okLs_iff.1 hb).1;rw[HNB.out] at this;exact this
    have HPA:Hid (∀ x ∈ a,0≤fA t x):=hid (fun x hx=>fA_pos ht0 (HOA.out x hx))
    have HPB:Hid (∀ x ∈ b,0≤fB rl t x):=hid (fun x hx=>fB_pos ht0 r0 (HOB.out x hx))
    have HZB:Hid (wiA own bl a t≤wiS own bl rl a b t):=hid (by unfold wiS;exact sN_ge HPB.out (Nat.le_refl _))
    have HBAD:Hid (∀ q,q≤n→4611686018427387904<sN (own+bl) (fA t) a q→4611686018427387904<wiS own bl rl a b t):=hid (fun q hq h=>by
     have h1:=sN_mono (s:=own+bl) HPA.out (i:=q) (j:=a.length) (by rw[HNA.out];omega) (Nat.le_refl _)
     have h2:=HZB.out
     unfold wiA at h2
     omega)
    rw[hrt] at CR
    clear hrt ha hb t0 t1
    go_enter Tryz.func84,Tryz.ntmps84
    go_upto_region 6 with(go_at_call 83;(with_reducible refine(CR.out _ (But.refl No w)).mono ?_);rintro e w1 ⟨rfl,hb1⟩;have HB1:=hid hb1;clear hb1)
    clear CR
    have HLA:=hid (HLA.out.no HB1.out)
    have HLB:=hid (HLB.out.no HB1.out)
    go_wp2_with fail
    go_loopw [15,16,17] (fun s o i wr=>∃ (S:Int) (ok:Bool) (q:Nat),s=.int .i64 S∧o=.bool ok∧i=.int .i64 (q:Int)∧q≤n∧Hid (Fits (own+bl) (fA t) a q S ok (4611686018427387904<wiS own bl rl a b t))∧Hid (But No w1 wr)) (fun _ _ i _=>n-(intOf i).toNat)
    case atStart=>exact⟨own+bl,true,0,rfl,rfl,rfl,by omega,.inl ⟨rfl,rfl,by omega⟩,But.refl No w1⟩
    case round =>
     obtain⟨Z,ok,q,rfl,rfl,rfl,hq,HST,HBR⟩:=hrel
     have hq0:(0:Int)≤(q:Int):=Int.natCast_nonneg q
     rcases HST.out with⟨rfl,hS,hS1⟩ | ⟨rfl,hbad⟩
     ·by_cases hqn:q<n
      ·have hqn2:(q:Int)<(n:Int):=by omega
       have b3:decide ((q:Int)<(n:Int))=true:=by simp;omega
       obtain⟨x,hx⟩:∃ x,a[q]? = some x:=⟨_,List.getElem?_eq_getElem (by rw[HNA.out];exact hqn)⟩
       obtain⟨k,off,rfl,_,e0,e1,e2⟩:=(HLA.out.no HBR.out).at1 hx
       have hxok:=HOA.out x (List.mem_of_getElem? hx)
       obtain⟨⟨hw0,hw1⟩,⟨hp0,hp1⟩,hj0,hj1⟩:=okD_iff.1 hxok
       have hS0:0≤Z:=by rw[hS];have:=sN_ge (s:=(own+bl)) (f:=(fA t)) (l:=a) HPA.out (i:=q) (by rw[HNA.out];omega);omega
       have sn:=sN_succ (s:=(own+bl)) (f:=(fA t)) hx
       rw[←hS] at sn
       have HO:=hid (fun h:4611686018427387904<sN (own+bl) (fA t) a (q+1)=>HBAD.out (q+1) (by omega) h)
       clear hx hxok hS HST
       obtain⟨x0,x1,x2⟩:=x
       dsimp only at e0 e1 e2 hw0 hw1 hp0 hp1 hj0 hj1
       have hub:=up_bd (n:=t+x2) (d:=x1) (by omega) hp0
       have CU:Hid (∀ W,Calls Tryz.prog 113 #[.int .i64 (t+x2),.int .i64 x1] W fun e w'=>e=.returned (.int .i64 (up (t+x2) x1))∧w'=W):=hid (fun W=>rup_any (t+x2) x1 (by omega) hp0 (by omega) (by omega) W)
       have hf:(fA t) ⟨x0,x1,x2⟩=(up (t+x2) x1)*x0:=rfl
       rw[hf] at sn
       obtain⟨u,hu⟩:∃ u,up (t+x2) x1=u:=⟨_,rfl⟩
       rw[hu] at hub CU sn
       clear hf hu
       obtain⟨P1,hP1⟩:∃ P1,Z+u*x0=P1:=⟨_,rfl⟩
       have HP:=hid hP1
       rw[hP1] at sn
       have SN:=hid sn.symm
       clear hP1 sn
       have KEEP:Hid (∀ w',But No wr w'→(w'.cell? ⟨k,off+q*3,none⟩=some (.int .i64 x0)∧w'.cell? ⟨k,off+q*3+1,none⟩=some (.int .i64 x1)∧w'.cell? ⟨k,off+q*3+2,none⟩=some (.int .i64 x2))∧But No wr w'):=hid (fun w' hb=>⟨⟨cell_keep e0 hb,cell_keep e1 hb,cell_keep e2 hb⟩,hb⟩)
       have W9:Hid (IntKind.i64.wrap (t+x2)=t+x2):=hid (IntWalk.i64_in (t+x2) (by omega))
       have W8:Hid (IntKind.i64.wrap (u+1)=u+1):=hid (IntWalk.i64_in (u+1) (by omega))
       have hP0:0≤t+x2∧t+x2≤9223372036854775807:=by omega
       by_cases g:P1≤4611686018427387904
       ·have HPL:=hid g
        have CM:Hid (∀ W,Calls Tryz.prog 112 #[.int .i64 Z,.int .i64 u,.int .i64 x0] W fun e w'=>e=.returned (.tuple #[.int .i64 P1,.bool true])∧w'=W):=hid (fun W=>by have:=rmore_good Z u x0 (by omega) (by omega) (by omega) (by omega) (by omega) (by omega) (by rw[HP.out];exact g) W;rw[HP.out] at this;exact this)
        clear g hub
        go_upto_region 9 with fail
        go_region_held3 (fun w'=>(w'.cell? ⟨k,off+q*3,none⟩=some (.int .i64 x0)∧w'.cell? ⟨k,off+q*3+1,none⟩=some (.int .i64 x1)∧w'.cell? ⟨k,off+q*3+2,none⟩=some (.int .i64 x2))∧But No wr w')
         (first | exact KEEP.out _ (But.refl No wr) | exact KEEP.out _ (But.refl No wr).drew)
         (first | ((try rw[W9.out]);go_at_call 113;((with_reducible refine(CU.out _).mono ?_);rintro e wC ⟨rfl,rfl⟩)) | ((try rw[W8.out]);go_at_call 112;((with_reducible refine(CM.out _).mono ?_);rintro e wC ⟨rfl,rfl⟩)))
        rename_i hHeld
        obtain⟨_,hg9⟩:=hHeld
        have HB8:=hid (HBR.out.trans hg9)
        clear hg9
        go_wp2
        go_roundw
        case rel=>exact⟨P1,true,q+1,rfl,rfl,by go_num,by omega,.inl ⟨rfl,SN.out,HPL.out⟩,HB8.out⟩
        case measure=>simp[intOf];omega
       ·have HO:Hid (4611686018427387904<wiS own bl rl a b t):=hid (HO.out (by rw[←SN.out];omega))
        have CM:Hid (∀ W,Calls Tryz.prog 112 #[.int .i64 Z,.int .i64 u,.int .i64 x0] W fun e w'=>(∃ v:Int,e=.returned (.tuple #[.int .i64 v,.bool false]))∧w'=W):=hid (fun W=>rmore_bad Z u x0 (by omega) (by omega) (by omega) (by omega) (by omega) (by omega) (by rw[HP.out];omega) W)
        clear g hub
        go_upto_region 9 with fail
        go_region_held3 (fun w'=>(w'.cell? ⟨k,off+q*3,none⟩=some (.int .i64 x0)∧w'.cell? ⟨k,off+q*3+1,none⟩=some (.int .i64 x1)∧w'.cell? ⟨k,off+q*3+2,none⟩=some (.int .i64 x2))∧But No wr w')
         (first | exact KEEP.out _ (But.refl No wr) | exact KEEP.out _ (But.refl No wr).drew)
         (first | ((try rw[W9.out]);go_at_call 113;((with_reducible refine(CU.out _).mono ?_);rintro e wC ⟨rfl,rfl⟩)) | ((try rw[W8.out]);go_at_call 112;((with_reducible refine(CM.out _).mono ?_);rintro e wC ⟨⟨v9,rfl⟩,rfl⟩)))
        rename_i hHeld
        obtain⟨_,hg9⟩:=hHeld
        have HB8:=hid (HBR.out.trans hg9)
        clear hg9
        go_wp2
        go_roundw
        case rel=>exact⟨_,false,q+1,rfl,rfl,by go_num,by omega,.inr ⟨rfl,HO.out⟩,HB8.out⟩
        case measure=>simp[intOf];omega
      ·have b3:decide ((q:Int)<(n:Int))=false:=by simp;omega
       obtain rfl:q=n:=by omega
       have HZ:Hid (Z=wiA own bl a t):=hid (by rw[hS];unfold wiA;rw[HNA.out])
       have hZ0:0≤Z:=by rw[hS];have:=sN_ge (s:=own+bl) HPA.out (i:=q) (by rw[HNA.out];omega);omega
       have hZ1:=hS1
       clear hS hS1 HST HBAD
       have HBAD:Hid (∀ q,q≤m→4611686018427387904<sN Z (fB rl t) b q→4611686018427387904<wiS own bl rl a b t):=hid (fun q hq h=>by
        have h1:=sN_mono (s:=Z) HPB.out (i:=q) (j:=b.length) (by rw[HNB.out];omega) (Nat.le_refl _)
        have h2:wiS own bl rl a b t=sN Z (fB rl t) b b.length:=by rw[HZ.out];rfl
        omega)
       have HLB:=hid (HLB.out.no HBR.out)
       go_wp2_with fail
       go_loopw [15,16,18] (fun s o i w3=>∃ (S:Int) (ok:Bool) (q:Nat),s=.int .i64 S∧o=.bool ok∧i=.int .i64 (q:Int)∧q≤m∧Hid (Fits Z (fB rl t) b q S ok (4611686018427387904<wiS own bl rl a b t))∧Hid (But No wr w3)) (fun _ _ i _=>m-(intOf i).toNat)
       case atStart=>exact⟨Z,true,0,rfl,rfl,rfl,by omega,.inl ⟨rfl,rfl,hZ1⟩,But.refl No wr⟩
       case round =>
        obtain⟨S,ok,q,rfl,rfl,rfl,hq,HST,HBS⟩:=hrel
        have hq0:(0:Int)≤(q:Int):=Int.natCast_nonneg q
        rcases HST.out with⟨rfl,hS,hS1⟩ | ⟨rfl,hbad⟩
        ·by_cases hqn:q<m
         ·have hqn2:(q:Int)<(m:Int):=by omega
          have b3:decide ((q:Int)<(m:Int))=true:=by simp;omega
          obtain⟨x,hx⟩:∃ x,b[q]? = some x:=⟨_,List.getElem?_eq_getElem (by rw[HNB.out];exact hqn)⟩
          obtain⟨k,off,rfl,_,e0,e1,e2⟩:=(HLB.out.no HBS.out).at1 hx
          have hxok:=HOB.out x (List.mem_of_getElem? hx)
          obtain⟨⟨hw0,hw1⟩,⟨hp0,hp1⟩,hj0,hj1⟩:=okD_iff.1 hxok
          have hS0:0≤S:=by rw[hS];have:=sN_ge (s:=Z) (f:=(fB rl t)) (l:=b) HPB.out (i:=q) (by rw[HNB.out];omega);omega
          have sn:=sN_succ (s:=Z) (f:=(fB rl t)) hx
          rw[←hS] at sn
          have HO:=hid (fun h:4611686018427387904<sN Z (fB rl t) b (q+1)=>HBAD.out (q+1) (by omega) h)
          clear hx hxok hS HST
          obtain⟨x0,x1,x2⟩:=x
          dsimp only at e0 e1 e2 hw0 hw1 hp0 hp1 hj0 hj1
          have hub:=up_bd (n:=t+x2) (d:=x1) (by omega) hp0
          have CU:Hid (∀ W,Calls Tryz.prog 113 #[.int .i64 (t+x2),.int .i64 x1] W fun e w'=>e=.returned (.int .i64 (up (t+x2) x1))∧w'=W):=hid (fun W=>rup_any (t+x2) x1 (by omega) hp0 (by omega) (by omega) W)
          have hf:(fB rl t) ⟨x0,x1,x2⟩=(up (t+x2) x1+1)*rl:=rfl
          rw[hf] at sn
          obtain⟨u,hu⟩:∃ u,up (t+x2) x1=u:=⟨_,rfl⟩
          rw[hu] at hub CU sn
          clear hf hu
          obtain⟨P1,hP1⟩:∃ P1,S+(u+1)*rl=P1:=⟨_,rfl⟩
          have HP:=hid hP1
          rw[hP1] at sn
          have SN:=hid sn.symm
          clear hP1 sn
          have KEEP:Hid (∀ w',But No wr w'→(w'.cell? ⟨k,off+q*3,none⟩=some (.int .i64 x0)∧w'.cell? ⟨k,off+q*3+1,none⟩=some (.int .i64 x1)∧w'.cell? ⟨k,off+q*3+2,none⟩=some (.int .i64 x2))∧But No wr w'):=hid (fun w' hb=>⟨⟨cell_keep e0 hb,cell_keep e1 hb,cell_keep e2 hb⟩,hb⟩)
          have W9:Hid (IntKind.i64.wrap (t+x2)=t+x2):=hid (IntWalk.i64_in (t+x2) (by omega))
          have W8:Hid (IntKind.i64.wrap (u+1)=u+1):=hid (IntWalk.i64_in (u+1) (by omega))
          have hP0:0≤t+x2∧t+x2≤9223372036854775807:=by omega
          by_cases g:P1≤4611686018427387904
          ·have HPL:=hid g
           have CM:Hid (∀ W,Calls Tryz.prog 112 #[.int .i64 S,.int .i64 (u+1),.int .i64 rl] W fun e w'=>e=.returned (.tuple #[.int .i64 P1,.bool true])∧w'=W):=hid (fun W=>by have:=rmore_good S (u+1) rl (by omega) (by omega) (by omega) (by omega) (by omega) (by omega) (by rw[HP.out];exact g) W;rw[HP.out] at this;exact this)
           clear g hub
           go_upto_region 13 with fail
           go_region_held3 (fun w'=>(w'.cell? ⟨k,off+q*3,none⟩=some (.int .i64 x0)∧w'.cell? ⟨k,off+q*3+1,none⟩=some (.int .i64 x1)∧w'.cell? ⟨k,off+q*3+2,none⟩=some (.int .i64 x2))∧But No wr w')
            (first | exact KEEP.out _ (But.refl No wr) | exact KEEP.out _ (But.refl No wr).drew)
            (first | ((try rw[W9.out]);go_at_call 113;((with_reducible refine(CU.out _).mono ?_);rintro e wC ⟨rfl,rfl⟩)) | ((try rw[W8.out]);go_at_call 112;((with_reducible refine(CM.out _).mono ?_);rintro e wC ⟨rfl,rfl⟩)))
           rename_i hHeld
           obtain⟨_,hg9⟩:=hHeld
           have HB8:=hid (HBS.out.trans hg9)
           clear hg9
           go_wp2
           go_roundw
           case rel=>exact⟨P1,true,q+1,rfl,rfl,by go_num,by omega,.inl ⟨rfl,SN.out,HPL.out⟩,HB8.out⟩
           case measure=>simp[intOf];omega
          ·have HO:Hid (4611686018427387904<wiS own bl rl a b t):=hid (HO.out (by rw[←SN.out];omega))
           have CM:Hid (∀ W,Calls Tryz.prog 112 #[.int .i64 S,.int .i64 (u+1),.int .i64 rl] W fun e w'=>(∃ v:Int,e=.returned (.tuple #[.int .i64 v,.bool false]))∧w'=W):=hid (fun W=>rmore_bad S (u+1) rl (by omega) (by omega) (by omega) (by omega) (by omega) (by omega) (by rw[HP.out];omega) W)
           clear g hub
           go_upto_region 13 with fail
           go_region_held3 (fun w'=>(w'.cell? ⟨k,off+q*3,none⟩=some (.int .i64 x0)∧w'.cell? ⟨k,off+q*3+1,none⟩=some (.int .i64 x1)∧w'.cell? ⟨k,off+q*3+2,none⟩=some (.int .i64 x2))∧But No wr w')
            (first | exact KEEP.out _ (But.refl No wr) | exact KEEP.out _ (But.refl No wr).drew)
            (first | ((try rw[W9.out]);go_at_call 113;((with_reducible refine(CU.out _).mono ?_);rintro e wC ⟨rfl,rfl⟩)) | ((try rw[W8.out]);go_at_call 112;((with_reducible refine(CM.out _).mono ?_);rintro e wC ⟨⟨v9,rfl⟩,rfl⟩)))
           rename_i hHeld
           obtain⟨_,hg9⟩:=hHeld
           have HB8:=hid (HBS.out.trans hg9)
           clear hg9
           go_wp2
           go_roundw
           case rel=>exact⟨_,false,q+1,rfl,rfl,by go_num,by omega,.inr ⟨rfl,HO.out⟩,HB8.out⟩
           case measure=>simp[intOf];omega
         ·have b3:decide ((q:Int)<(m:Int))=false:=by simp;omega
          obtain rfl:q=m:=by omega
          have hsum:wiS own bl rl a b t=S:=by rw[hS,HZ.out];unfold wiS;rw[HNB.out]
          have HE:=hid (wi_good HRT.out (by rw[hsum];exact hS1))
          rw[hsum] at HE
          clear hsum hS hS1 HST
          go_wp2
          go_ret2
          exact⟨retp HE.out.2.symm HE.out.1.symm,(HB1.out.trans HBR.out).trans HBS.out⟩
        ·have HX:=hid hbad
         clear hbad HST
         by_cases hqn:q<m
         ·have b3:decide ((q:Int)<(m:Int))=true:=by simp;omega
          have HE:=hid (wi_over HRT.out HX.out)
          go_wp2
          go_ret2
          exact⟨retp HE.out.2.symm HE.out.1.symm,(HB1.out.trans HBR.out).trans HBS.out⟩
         ·have b3:decide ((q:Int)<(m:Int))=false:=by simp;omega
          have HE:=hid (wi_over HRT.out HX.out)
          go_wp2
          go_ret2
          exact⟨retp HE.out.2.symm HE.out.1.symm,(HB1.out.trans HBR.out).trans HBS.out⟩
     ·have HX:=hid hbad
      clear hbad HST
      by_cases hqn:q<n
      ·have b3:decide ((q:Int)<(n:Int))=true:=by simp;omega
       have HE:=hid (wi_over HRT.out HX.out)
       clear HBAD
       go_wp2_with fail
       go_loopw [15,16,18] (fun s o i w3=>s=.int .i64 Z∧o=.bool false∧i=.int .i64 0∧Hid (But No wr w3)) (fun _ _ _ _=>0)
       case atStart=>exact⟨rfl,rfl,rfl,But.refl No wr⟩
       case round =>
        obtain⟨rfl,rfl,rfl,HBS⟩:=hrel
        by_cases h0:0<m
        ·have b5:decide ((0:Int)<(m:Int))=true:=by simp;omega
         go_wp2
         go_ret2
         exact⟨retp HE.out.2.symm HE.out.1.symm,(HB1.out.trans HBR.out).trans HBS.out⟩
        ·have b5:decide ((0:Int)<(m:Int))=false:=by simp;omega
         go_wp2
         go_ret2
         exact⟨retp HE.out.2.symm HE.out.1.symm,(HB1.out.trans HBR.out).trans HBS.out⟩
      ·have b3:decide ((q:Int)<(n:Int))=false:=by simp;omega
       have HE:=hid (wi_over HRT.out HX.out)
       clear HBAD
       go_wp2_with fail
       go_loopw [15,16,18] (fun s o i w3=>s=.int .i64 Z∧o=.bool false∧i=.int .i64 0∧Hid (But No wr w3)) (fun _ _ _ _=>0)
       case atStart=>exact⟨rfl,rfl,rfl,But.refl No wr⟩
       case round =>
        obtain⟨rfl,rfl,rfl,HBS⟩:=hrel
        by_cases h0:0<m
        ·have b5:decide ((0:Int)<(m:Int))=true:=by simp;omega
         go_wp2
         go_ret2
         exact⟨retp HE.out.2.symm HE.out.1.symm,(HB1.out.trans HBR.out).trans HBS.out⟩
        ·have b5:decide ((0:Int)<(m:Int))=false:=by simp;omega
         go_wp2
         go_ret2
         exact⟨retp HE.out.2.symm HE.out.1.symm,(HB1.out.trans HBR.out).trans HBS.out⟩
end Go.Proofs.YtjfaiaipojfhgaaGreat.rsp
end
