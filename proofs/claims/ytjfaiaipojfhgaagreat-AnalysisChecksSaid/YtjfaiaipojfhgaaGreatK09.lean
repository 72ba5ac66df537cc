/- Part 9 of a proof: ReR3. -/
import Derived.Test.YtjfaiaipojfhgaaGreatK08
section
namespace Go.Proofs.YtjfaiaipojfhgaaGreat.rsp
open Go.Lib (hid)
open Go.ChangeShapes Go.WideShapes Go.ChangeAt Go.RowKit Go.Deep
set_option maxRecDepth 100000 in
set_option maxHeartbeats 8000000 in
theorem rbound_any (A:Option Addr) (n c:Nat) (a:List Ld) (B:Option Addr) (m d:Nat) (b:List Ld) (own bl rl limit:Int) (w:World) (h:RLd w A n a) (h':RLd w B m b):Calls Tryz.prog 60 #[.int .i64 own,.int .i64 bl,.int .i64 rl,.slice A n c,.slice B m d,.int .i64 limit] w fun e w'=>e=.returned (.tuple #[.int .i64 (bnP own bl rl a b limit).1,.int .i64 (bnP own bl rl a b limit).2])∧But No w w':=by
 have CR:Hid (∀ W,But No w W→Calls Tryz.prog 83 #[.int .i64 own,.int .i64 bl,.int .i64 rl,.slice A n c,.slice B m d] W fun e w'=>e=.returned (.bool (right own bl rl a b))∧But No W w'):=fun W hb=>rright_any A n c a B m d b own bl rl W (h.no hb) (h'.no hb)
 have CW:Hid (∀ t W,But No w W→Calls Tryz.prog 84 #[.int .i64 own,.int .i64 bl,.int .i64 rl,.slice A n c,.slice B m d,.int .i64 t] W fun e w'=>e=.returned (.tuple #[.int .i64 (wiV own bl rl a b t),.int .i64 (wiE own bl rl a b t)])∧But No W w'):=fun t W hb=>rwithin_any A n c a B m d b own bl rl t W (h.no hb) (h'.no hb)
 clear h h'
 cases hrt:right own bl rl a b with
 | false =>
  have HE:Hid (bnP own bl rl a b limit=(0,1)):=hid (by unfold bnP;rw[if_neg (by rw[hrt];simp)])
  rw[hrt] at CR
  clear hrt
  go_enter Tryz.func60,Tryz.ntmps60
  go_wp2_with (go_at_call 83;(with_reducible refine(CR.out _ (But.refl No w)).mono ?_);rintro e w1 ⟨rfl,hb1⟩;have HB1:=hid hb1;clear hb1)
  go_ret2
  exact⟨retp (by rw[HE.out]) (by rw[HE.out]),HB1.out⟩
 | true =>
  by_cases t0:limit<1
  ·have HE:Hid (bnP own bl rl a b limit=(0,1)):=hid (by unfold bnP;rw[if_neg (by omega)])
   have b1:decide (limit<1)=true:=by simp[t0]
   rw[hrt] at CR
   clear hrt
   go_enter Tryz.func60,Tryz.ntmps60
   go_wp2_with (go_at_call 83;(with_reducible refine(CR.out _ (But.refl No w)).mono ?_);rintro e w1 ⟨rfl,hb1⟩;have HB1:=hid hb1;clear hb1)
   go_ret2
   exact⟨retp (by rw[HE.out]) (by rw[HE.out]),HB1.out⟩
  ·have b1:decide (limit<1)=false:=by simp;omega
   by_cases t1:1099511627776<limit
   ·have HE:Hid (bnP own bl rl a b limit=(0,1)):=hid (by unfold bnP;rw[if_neg (by omega)])
    have b2:decide (1099511627776<limit)=true:=by simp[t1]
    rw[hrt] at CR
    clear hrt
    go_enter Tryz.func60,Tryz.ntmps60
    go_wp2_with (go_at_call 83;(with_reducible refine(CR.out _ (But.refl No w)).mono ?_);rintro e w1 ⟨rfl,hb1⟩;have HB1:=hid hb1;clear hb1)
    go_ret2
    exact⟨retp (by rw[HE.out]) (by rw[HE.out]),HB1.out⟩
   ·have b2:decide (1099511627776<limit)=false:=by simp;omega
    have hl0:1≤limit:=by omega
    have hl1:limit≤1099511627776:=by omega
    have HRT:=hid hrt
    have HGO:Hid (bnGo own bl rl a b limit 5000 1=bnP own bl rl a b limit):=hid (by unfold bnP;rw[if_pos ⟨hrt,hl0,hl1⟩])
    generalize bnP own bl rl a b limit=Z at HGO ⊢
    rw[hrt] at CR
    clear hrt t0 t1
    go_enter Tryz.func60,Tryz.ntmps60
    go_upto_region 6 with(go_at_call 83;(with_reducible refine(CR.out _ (But.refl No w)).mono ?_);rintro e w1 ⟨rfl,hb1⟩;have HB1:=hid hb1;clear hb1)
    clear CR
    go_wp2_with fail
    go_loopw [15,16] (fun v s wr=>∃ (mv:Int) (q:Nat),v=.int .i64 mv∧s=.int .i64 (q:Int)∧q≤5000∧1≤mv∧mv≤1099511627776∧Hid (bnGo own bl rl a b limit (5000-q) mv=Z)∧Hid (But No w wr)) (fun _ s _=>5000-(intOf s).toNat)
    case atStart=>exact⟨1,0,rfl,rfl,by omega,by omega,by omega,HGO.out,HB1.out⟩
    case round =>
     obtain⟨mv,q,rfl,rfl,hq,hm1,hm2,HG,HBR⟩:=hrel
     have hq0:(0:Int)≤(q:Int):=Int.natCast_nonneg q
     by_cases hq5:q<5000
     ·have b3:decide ((q:Int)<5000)=true:=by simp;omega
      have HG':Hid ((if wiE own bl rl a b mv≠0 then ((0:Int),wiE own bl rl a b mv) else if wiV own bl rl a b mv≤mv then (mv,0) else if limit<wiV own bl rl a b mv then (0,12) else bnGo own bl rl a b limit (5000-(q+1)) (wiV own bl rl a b mv))=Z):=hid (by
       have h9:=HG.out
       rw[show 5000-q=(5000-(q+1))+1 by omega,bnGo] at h9
       exact h9)
      have CW:Hid (∀ W,But No w W→Calls Tryz.prog 84 #[.int .i64 own,.int .i64 bl,.int .i64 rl,.slice A n c,.slice B m d,.int .i64 mv] W fun e w'=>e=.returned (.tuple #[.int .i64 (wiV own bl rl a b mv),.int .i64 (wiE own bl rl a b mv)])∧But No W w'):=hid (fun W hb=>CW.out mv W hb)
      have HC:=hid (wi_cases own bl rl a b mv)
      generalize wiV own bl rl a b mv=V at CW HG' HC
      generalize wiE own bl rl a b mv=E at CW HG' HC
      have hE:E=0∨E=1∨E=2:=by rcases HC.out with⟨e,_⟩ | ⟨_,_,e,_⟩ | ⟨_,_,e,_⟩ <;> omega
      have hV:inR V:=by
       rcases HC.out with⟨_,e,_⟩ | ⟨_,_,_,e⟩ | ⟨⟨h1,h2,_⟩,h3,_,e⟩
       ·rw[e];unfold inR;omega
       ·rw[e];unfold inR;omega
       ·rw[e];have:=wi_pos h1 h2;unfold inR;omega
      clear HG HC
      by_cases he:E=0
      ·have q1:(E != 0)=false:=by simp[he]
       rw[if_neg (by simp[he])] at HG'
       clear he hE
       by_cases h1:V≤mv
       ·have q2:decide (V≤mv)=true:=by simp[h1]
        rw[if_pos h1] at HG'
        clear h1
        go_wp2_with (go_at_call 84;(with_reducible refine(CW.out _ HBR.out).mono ?_);rintro e w2 ⟨rfl,hb2⟩;have HB2:=hid (HBR.out.trans hb2);clear hb2)
        go_ret2
        exact⟨retp (by rw[←HG'.out]) (by rw[←HG'.out]),HB2.out⟩
       ·have q2:decide (V≤mv)=false:=by simp;omega
        rw[if_neg h1] at HG'
        by_cases h2:limit<V
        ·have q3:decide (limit<V)=true:=by simp[h2]
         rw[if_pos h2] at HG'
         clear h1 h2
         go_wp2_with (go_at_call 84;(with_reducible refine(CW.out _ HBR.out).mono ?_);rintro e w2 ⟨rfl,hb2⟩;have HB2:=hid (HBR.out.trans hb2);clear hb2)
         go_ret2
         exact⟨retp (by rw[←HG'.out]) (by rw[←HG'.out]),HB2.out⟩
        ·have q3:decide (limit<V)=false:=by simp;omega
         rw[if_neg h2] at HG'
         have hV1:1≤V:=by omega
         have hV2:V≤1099511627776:=by omega
         clear h1 h2
         go_wp2_with (go_at_call 84;(with_reducible refine(CW.out _ HBR.out).mono ?_);rintro e w2 ⟨rfl,hb2⟩;have HB2:=hid (HBR.out.trans hb2);clear hb2)
         go_roundw
         case rel=>exact⟨V,q+1,rfl,by go_num,by omega,hV1,hV2,HG'.out,HB2.out⟩
         case measure=>simp[intOf];omega
      ·have q1:(E != 0)=true:=by simp[he]
       rw[if_pos he] at HG'
       clear he hE
       go_wp2_with (go_at_call 84;(with_reducible refine(CW.out _ HBR.out).mono ?_);rintro e w2 ⟨rfl,hb2⟩;have HB2:=hid (HBR.out.trans hb2);clear hb2)
       go_ret2
       exact⟨retp (by rw[←HG'.out]) (by rw[←HG'.out]),HB2.out⟩
     ·have b3:decide ((q:Int)<5000)=false:=by simp;omega
      have HG':Hid (((0:Int),(11:Int))=Z):=hid (by
       have h9:=HG.out
       rw[show 5000-q=0 by omega,bnGo] at h9
       exact h9)
      go_wp2
      go_ret2
      exact⟨retp (by rw[←HG'.out]) (by rw[←HG'.out]),HBR.out⟩
end Go.Proofs.YtjfaiaipojfhgaaGreat.rsp
end
