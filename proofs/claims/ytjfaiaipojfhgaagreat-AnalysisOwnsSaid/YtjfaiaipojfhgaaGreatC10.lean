/- Part 10 of a proof: ReC. -/
import Derived.Test.YtjfaiaipojfhgaaGreatC09
section
namespace Go.Proofs.YtjfaiaipojfhgaaGreat.rsp
open Go.Lib (hid)
open Go.ChangeShapes Go.WideShapes Go.ChangeAt Go.RowKit Go.Deep
set_option maxRecDepth 100000 in
set_option maxHeartbeats 4000000 in
theorem settle_any (own bl rl limit:Int) (A:Option Addr) (m c:Nat) (a:List Ld) (B:Option Addr) (k d:Nat) (b:List Ld) (w:World) (hA:RLd w A m a) (hB:RLd w B k b) (hr:right own bl rl a b=true) (hl0:1≤limit) (hl1:limit≤1099511627776) :
  Calls Tryz.prog 104 #[.func (.func 105) #[jobV own bl rl A m c B k d] #[],.int .i64 limit] w fun e w'=>e=.returned (.tuple #[.int .i64 (bnP own bl rl a b limit).1,.int .i64 (bnP own bl rl a b limit).2])∧But No w w':=by
 have CW:Hid (∀ t W,0≤t→t≤4611686018427387904→But No w W→Calls Tryz.prog 105 #[jobV own bl rl A m c B k d,.int .i64 t] W fun e w'=>e=.returned (.tuple #[.int .i64 (wiV own bl rl a b t),.int .i64 (wiE own bl rl a b t)])∧But No W w'):=hid (fun t W h0 h1 hb=>jwithin_any own bl rl t A m c a B k d b W (hA.no hb) (hB.no hb) hr h0 h1)
 have HGO:Hid (bnGo own bl rl a b limit 5000 1=bnP own bl rl a b limit):=hid (by unfold bnP;rw[if_pos ⟨hr,hl0,hl1⟩])
 generalize bnP own bl rl a b limit=Z at HGO ⊢
 generalize jobV own bl rl A m c B k d=JV at CW ⊢
 clear hA hB hr
 go_enter Tryz.func104,Tryz.ntmps104
 go_wp2_with fail
 go_loopw [6,9] (fun v s wr=>∃ (mv:Int) (q:Nat),v=.int .i64 mv∧s=.int .i64 (q:Int)∧q≤5000∧1≤mv∧mv≤1099511627776∧Hid (bnGo own bl rl a b limit (5000-q) mv=Z)∧Hid (But No w wr)) (fun _ s _=>5000-(intOf s).toNat)
 case atStart=>exact⟨1,0,rfl,rfl,by omega,by omega,by omega,HGO.out,But.refl No w⟩
 case round =>
  obtain⟨mv,q,rfl,rfl,hq,hm1,hm2,HG,HBR⟩:=hrel
  have hq0:(0:Int)≤(q:Int):=Int.natCast_nonneg q
  by_cases hq5:q<5000
  ·have b3:decide ((q:Int)<5000)=true:=by simp;omega
   have HG':Hid ((if wiE own bl rl a b mv≠0 then ((0:Int),wiE own bl rl a b mv) else if wiV own bl rl a b mv≤mv then (mv,0) else if limit<wiV own bl rl a b mv then (0,12) else bnGo own bl rl a b limit (5000-(q+1)) (wiV own bl rl a b mv))=Z):=hid (by
    have h9:=HG.out
    rw[show 5000-q=(5000-(q+1))+1 by omega,bnGo] at h9
    exact h9)
   have CW:Hid (∀ W,But No w W→Calls Tryz.prog 105 #[JV,.int .i64 mv] W fun e w'=>e=.returned (.tuple #[.int .i64 (wiV own bl rl a b mv),.int .i64 (wiE own bl rl a b mv)])∧But No W w'):=hid (fun W hb=>CW.out mv W (by omega) (by omega) hb)
   have HC:=hid (wi_cases own bl rl a b mv)
   generalize wiV own bl rl a b mv=V at CW HG' HC
   generalize wiE own bl rl a b mv=E at CW HG' HC
   have hE:E=0∨E=1∨E=2:=by rcases HC.out with⟨e,_⟩ | ⟨_,_,e,_⟩ | ⟨_,_,e,_⟩ <;> omega
   have hV:inR V:=by
    rcases HC.out with⟨_,e,_⟩ | ⟨_,_,_,e⟩ | ⟨⟨h1,h2,_⟩,h3,_,e⟩
    ·rw[e];unfold inR;omega
    ·rw[e];unfold inR;omega
    ·rw[e];have:=wi_pos h1 h2;unfold inR;omega
   clear HG HC
   by_cases he:E=0
   ·have q1:(E != 0)=false:=by simp[he]
    rw[if_neg (by simp[he])] at HG'
    clear he hE
    by_cases h1:V≤mv
    ·have q2:decide (V≤mv)=true:=by simp[h1]
     rw[if_pos h1] at HG'
     clear h1
     go_wp2_with (go_at_call 105;(with_reducible refine(CW.out _ HBR.out).mono ?_);rintro e w2 ⟨rfl,hb2⟩;have HB2:=hid (HBR.out.trans hb2);clear hb2)
     go_ret2
     exact⟨retp (by rw[←HG'.out]) (by rw[←HG'.out]),HB2.out⟩
    ·have q2:decide (V≤mv)=false:=by simp;omega
     rw[if_neg h1] at HG'
     by_cases h2:limit<V
     ·have q3:decide (limit<V)=true:=by simp[h2]
      rw[if_pos h2] at HG'
      clear h1 h2
      go_wp2_with (go_at_call 105;(with_reducible refine(CW.out _ HBR.out).mono ?_);rintro e w2 ⟨rfl,hb2⟩;have HB2:=hid (HBR.out.trans hb2);clear hb2)
      go_ret2
      exact⟨retp (by rw[←HG'.out]) (by rw[←HG'.out]),HB2.out⟩
     ·have q3:decide (limit<V)=false:=by simp;omega
      rw[if_neg h2] at HG'
      have hV1:1≤V:=by omega
      have hV2:V≤1099511627776:=by omega
      clear h1 h2
      go_wp2_with (go_at_call 105;(with_reducible refine(CW.out _ HBR.out).mono ?_);rintro e w2 ⟨rfl,hb2⟩;have HB2:=hid (HBR.out.trans hb2);clear hb2)
      go_roundw
      case rel=>exact⟨V,q+1,rfl,by go_num,by omega,hV1,hV2,HG'.out,HB2.out⟩
      case measure=>simp[intOf];omega
   ·have q1:(E != 0)=true:=by simp[he]
    rw[if_pos he] at HG'
    clear he hE
    go_wp2_with (go_at_call 105;(with_reducible refine(CW.out _ HBR.out).mono ?_);rintro e w2 ⟨rfl,hb2⟩;have HB2:=hid (HBR.out.trans hb2);clear hb2)
    go_ret2
    exact⟨retp (by rw[←HG'.out]) (by rw[←HG'.out]),HB2.out⟩
  ·have b3:decide ((q:Int)<5000)=false:=by simp;omega
   have HG':Hid (((0:Int),(11:Int))=Z):=hid (by
    have h9:=HG.out
    rw[show 5000-q=0 by omega,bnGo] at h9
    exact h9)
   go_wp2
   go_ret2
   exact⟨retp (by rw[←HG'.out]) (by rw[←HG'.out]),HBR.out⟩
set_option maxRecDepth 100000 in
set_option maxHeartbeats 4000000 in
theorem bound_any (A:Option Addr) (m c:Nat) (a:List Ld) (B:Option Addr) (k d:Nat) (b:List Ld) (own bl rl limit:Int) (w:World) (hA:RLd w A m a) (hB:RLd w B k b) (_:inR own) (_:inR bl) (_:inR rl) (_:inR limit):Calls Tryz.prog 77 #[.int .i64 own,.int .i64 bl,.int .i64 rl,.slice A m c,.slice B k d,.int .i64 limit] w fun e w'=>e=.returned (.tuple #[.int .i64 (bnP own bl rl a b limit).1,.int .i64 (bnP own bl rl a b limit).2])∧But No w w':=by
 have HBO:Hid (But No w (w.alloc (.cells #[.int .i64 own,.int .i64 bl,.int .i64 rl,.slice A m c,.slice B k d] 166))):=hid ((But.refl No w).alloc _)
 have BK:=hid (Blk.new w #[.int .i64 own,.int .i64 bl,.int .i64 rl,.slice A m c,.slice B k d] 166)
 have CR:Hid (∀ W,But No w W→Calls Tryz.prog 102 #[jobV own bl rl A m c B k d] W fun e w'=>e=.returned (.bool (right own bl rl a b))∧But No W w'):=hid (fun W hb=>jright_any own bl rl A m c a B k d b W (hA.no hb) (hB.no hb))
 have c0:=(Blk.new w #[.int .i64 own,.int .i64 bl,.int .i64 rl,.slice A m c,.slice B k d] 166).cell (o:=0) rfl
 have c1:=(Blk.new w #[.int .i64 own,.int .i64 bl,.int .i64 rl,.slice A m c,.slice B k d] 166).cell (o:=1) rfl
 have c2:=(Blk.new w #[.int .i64 own,.int .i64 bl,.int .i64 rl,.slice A m c,.slice B k d] 166).cell (o:=2) rfl
 have c3:=(Blk.new w #[.int .i64 own,.int .i64 bl,.int .i64 rl,.slice A m c,.slice B k d] 166).cell (o:=3) rfl
 have c4:=(Blk.new w #[.int .i64 own,.int .i64 bl,.int .i64 rl,.slice A m c,.slice B k d] 166).cell (o:=4) rfl
 have hmf:∀ (fn:Fn) (first cap:Array Value) (w:World),(Instr.makeFunc fn first cap).run Tryz.prog w=.ok (.func fn first cap) w:=fun _ _ _ _=>rfl
 have CI:Hid (∀ W,Calls Tryz.prog 103 #[.int .i64 1,.int .i64 limit] W fun e w'=>e=.returned (.bool (inT 1 limit))∧w'=W):=hid (fun W=>inside_any 1 limit W)
 by_cases hg:right own bl rl a b=true∧1≤limit∧limit≤1099511627776
 ·have CW:Hid (∀ W,But No w W→Calls Tryz.prog 104 #[.func (.func 105) #[jobV own bl rl A m c B k d] #[],.int .i64 limit] W fun e w'=>e=.returned (.tuple #[.int .i64 (bnP own bl rl a b limit).1,.int .i64 (bnP own bl rl a b limit).2])∧But No W w'):=hid (fun W hb=>settle_any own bl rl limit A m c a B k d b W (hA.no hb) (hB.no hb) hg.1 hg.2.1 hg.2.2)
  generalize (bnP own bl rl a b limit).1=V at CW ⊢
  generalize (bnP own bl rl a b limit).2=E at CW ⊢
  rw[inT_true.2 hg.2] at CI
  rw[hg.1] at CR
  unfold jobV at CR CW
  clear hg hA hB
  go_enter Tryz.func77,Tryz.ntmps77
  go_wp2_with (first | (go_at_call 102;(with_reducible refine(CR.out _ HBO.out).mono ?_);rintro e w1 ⟨rfl,hb1⟩;have BK1:=BK.out.but hb1 (fun f=>f);have c0:=BK1.cell (o:=0) rfl;have c1:=BK1.cell (o:=1) rfl;have c2:=BK1.cell (o:=2) rfl;have c3:=BK1.cell (o:=3) rfl;have c4:=BK1.cell (o:=4) rfl;have HB1:=hid (HBO.out.trans hb1);clear hb1 BK1) | (go_at_call 103;(with_reducible refine(CI.out _).mono ?_);rintro e wI ⟨rfl,rfl⟩) | (go_at_call 104;(with_reducible refine(CW.out _ HB1.out).mono ?_);rintro e w2 ⟨rfl,hb2⟩;have HB2:=hid (HB1.out.trans hb2);clear hb2))
  go_ret2
  exact⟨rfl,HB2.out⟩
 ·have HE:Hid (bnP own bl rl a b limit=(0,1)):=hid (by unfold bnP;rw[if_neg hg])
  generalize bnP own bl rl a b limit=Z at HE ⊢
  cases hr:right own bl rl a b with
  | false =>
   rw[hr] at CR
   unfold jobV at CR
   clear hr hg hA hB
   go_enter Tryz.func77,Tryz.ntmps77
   go_wp2_with (go_at_call 102;(with_reducible refine(CR.out _ HBO.out).mono ?_);rintro e w1 ⟨rfl,hb1⟩;have BK1:=BK.out.but hb1 (fun f=>f);have c0:=BK1.cell (o:=0) rfl;have c1:=BK1.cell (o:=1) rfl;have c2:=BK1.cell (o:=2) rfl;have c3:=BK1.cell (o:=3) rfl;have c4:=BK1.cell (o:=4) rfl;have HB1:=hid (HBO.out.trans hb1);clear hb1 BK1)
   go_ret2
   exact⟨retp (by rw[HE.out]) (by rw[HE.out]),HB1.out⟩
  | true =>
   have hi:inT 1 limit=false:=by
    cases e:inT 1 limit with
    | false=>rfl
    | true=>exact absurd ⟨hr,inT_true.1 e⟩ hg
   rw[hi] at CI
   rw[hr] at CR
   unfold jobV at CR
   clear hr hg hA hB hi
   go_enter Tryz.func77,Tryz.ntmps77
   go_wp2_with (first | (go_at_call 102;(with_reducible refine(CR.out _ HBO.out).mono ?_);rintro e w1 ⟨rfl,hb1⟩;have BK1:=BK.out.but hb1 (fun f=>f);have c0:=BK1.cell (o:=0) rfl;have c1:=BK1.cell (o:=1) rfl;have c2:=BK1.cell (o:=2) rfl;have c3:=BK1.cell (o:=3) rfl;have c4:=BK1.cell (o:=4) rfl;have HB1:=hid (HBO.out.trans hb1);clear hb1 BK1) | (go_at_call 103;(with_reducible refine(CI.out _).mono ?_);rintro e wI ⟨rfl,rfl⟩))
   go_ret2
   exact⟨retp (by rw[HE.out]) (by rw[HE.out]),HB1.out⟩
end Go.Proofs.YtjfaiaipojfhgaaGreat.rsp
end
