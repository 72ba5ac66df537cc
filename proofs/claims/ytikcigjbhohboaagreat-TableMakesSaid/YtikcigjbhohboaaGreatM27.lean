/- Part 27 of a proof: PaS3. -/
import Derived.Test.YtikcigjbhohboaaGreatM26
section
namespace Go.Proofs.YtikcigjbhohboaaGreat.pln
open Go.Lib (hid)
open Go.ChangeShapes Go.WideShapes Go.ChangeAt Go.RowKit Go.Deep val Go.Sort Go.Shelf
set_option maxRecDepth 100000 in
set_option maxHeartbeats 4000000 in
theorem sym_left {P:Program} {K:Nat} {enc:Pt→List Value} (L:SlP P K) (blk off cap a m b:Nat) (d0 d:Array Pt) (w0 w:World) (g:Nat) (cb:Array Value) (eg:∀ args w,(callFunc g args).run P w=.ok (.enter g args) w) (hcmp:CmpLays P g cb enc K cmpP blk off d0.size w0)
  (R:RowK enc K w0 blk off d0) (hs:d0.size=d.size) (S:SWK enc K w0 blk off d w) (_:a<m) (hmb:m<b) (hb:b≤d.size) (hsz:d.size≤1000) (h1:Srt a m d) (h2:Srt m b d) (h3:Bfo a m b d) (e1:m=a+1) :
  Calls P 163 #[.slice (some ⟨blk,off,none⟩) d.size cap,.int .i64 (a:Int),.int .i64 (m:Int),.int .i64 (b:Int),.func (.func g) #[] cb] w fun e w'=>e=.returned (.tuple #[])∧∃ d',SWK enc K w0 blk off d' w'∧PermIn a b d d'∧Srt a b d':=by
 have mixed:=L.mixed;have aE:=L.aE;have zE:=L.zE;have uS:=run_underlying L.tS;have t0:=L.t0;have a0:=L.a0;have z0:=L.z0;have v0:=L.v0;have t3:=L.t3;have a3:=L.a3;have z3:=L.z3;have v3:=L.v3;have t4:=L.t4;have a4:=L.a4;have z4:=L.z4;have v4:=L.v4;have tS:=L.tS;have aS:=L.aS;have zS:=L.zS;have vS:=L.vS;have tC:=L.tC;have aC:=L.aC;have zC:=L.zC;have vC:=L.vC;have tU:=L.tU;have aU:=L.aU;have zU:=L.zU;have vU:=L.vU
 have S0:Hid (SWK enc K w0 blk off d w):=S
 have HC:=hid hcmp
 have H1:=hid h1
 have H2:=hid h2
 have H3:=hid h3
 clear S hcmp h1 h2 h3
 have q0:(m:Int)-(a:Int)=1:=by omega
 have E1:=hid e1
 clear e1
 have za:(a:Int)<(d.size:Int):=by omega
 have za0:(0:Int)≤(a:Int):=by omega
 have ra:IntKind.i64.wrap (a:Int)=(a:Int):=by rw[IntKind.wrap_i64];omega
 go_enter L.f117,Tryz.ntmps163
 go_wp2
 go_loopg [10,11] (b-a) (fun gg s10 s11 wr=>∃ (i j:Nat),s10=.int .i64 (i:Int)∧s11=.int .i64 (j:Int)∧m≤i∧i≤j∧j≤b∧j-i≤gg∧Hid (SWK enc K w0 blk off d wr)∧Hid (∀ k,m≤k→k<i→d[k]!.p.de<d[a]!.p.de)∧Hid (∀ k,j≤k→k<b→d[a]!.p.de≤d[k]!.p.de))
 case atStart=>exact⟨m,b,rfl,rfl,Nat.le_refl _,by omega,Nat.le_refl _,by omega,S0.out,fun k h1 h2=>by omega,fun k h1 h2=>by omega⟩
 case round =>
  clear S0
  obtain⟨i,j,rfl,rfl,hai,hij',hjb,hgg,S1,HL,HH⟩:=hrel
  by_cases hlt:i<j
  ·have hltz:(i:Int)<(j:Int):=by omega
   obtain⟨su,hsu⟩:∃ su,i+j=su:=⟨_,rfl⟩
   obtain⟨h,hh⟩:∃ h,su/2=h:=⟨_,rfl⟩
   have hij:i≤h∧h<j:=by omega
   have u1:IntKind.u64.wrap (su:Int)=(su:Int):=by rw[IntKind.wrap_u64];omega
   have u2:(su:Int)/2=(h:Int):=by omega
   have u3:IntKind.i64.wrap (h:Int)=(h:Int):=by rw[IntKind.wrap_i64];omega
   have u4:(i:Int)+(j:Int)=(su:Int):=by omega
   have z1:(h:Int)<(d.size:Int):=by omega
   have z2:(0:Int)≤(h:Int):=by omega
   have lx:=S1.out.ld R (by omega) P h (by omega)
   have ly:=S1.out.ld R (by omega) P a (by omega)
   have hcg:=fun n os=>S1.out.cmp HC.out (by omega) d[h]! d[a]! n os
   have SG:Hid (∀ n os,SWK enc K w0 blk off d (grow (wr.drewN n) os)):=hid (fun n os=>S1.out.grown n os)
   obtain⟨cf,hcf⟩:∃ cf,cmpP d[h]! d[a]! = cf:=⟨_,rfl⟩
   have HLT:Hid (cf<0 ↔ d[h]!.p.de<d[a]!.p.de):=hid (by rw[←hcf];exact cmpP_lt _ _)
   rw[hcf] at hcg
   generalize enc d[h]! = cX at lx hcg
   generalize enc d[a]! = cY at ly hcg
   clear hcf
   by_cases hlv:cf<0
   ·have hld:decide (cf<0)=true:=decide_eq_true hlv
    have HN:Hid (∀ k,m≤k→k<h+1→d[k]!.p.de<d[a]!.p.de):=hid (fun k h1 h2=>by
     have e:=HLT.out.1 hlv
     by_cases ek:k=h
     ·subst ek;exact e
     ·have:=(H2.out k h (by omega) (by omega) (by omega)).le;omega)
    clear hh hsu
    go_wp2_with fail
    go_quiet_grown (first | (go_at_fn g;refine Calls.grown_of (hcg _ _)))
    go_wp2
    go_roundg (j-(h+1))
    case measure=>omega
    case rel=>exact⟨h+1,j,by go_num,rfl,by omega,by omega,hjb,Nat.le_refl _,SG.out nq osq,HN.out,HH.out⟩
   ·have hld:decide (cf<0)=false:=decide_eq_false hlv
    have HN:Hid (∀ k,h≤k→k<b→d[a]!.p.de≤d[k]!.p.de):=hid (fun k h1 h2=>by
     have e:=mt HLT.out.2 hlv
     by_cases ek:k=h
     ·subst ek;omega
     ·have:=(H2.out h k (by omega) (by omega) (by omega)).le;omega)
    clear hh hsu
    go_wp2_with fail
    go_quiet_grown (first | (go_at_fn g;refine Calls.grown_of (hcg _ _)))
    go_wp2
    go_roundg (h-i)
    case measure=>omega
    case rel=>exact⟨i,h,rfl,rfl,hai,by omega,by omega,Nat.le_refl _,SG.out nq osq,HL.out,HN.out⟩
  ·have hltz:¬(i:Int)<(j:Int):=by omega
   obtain rfl:i=j:=by omega
   have e1:=E1.out
   obtain⟨ip,rfl⟩:∃ ip,i=ip+1:=⟨i-1,by omega⟩
   have q5:((ip:Int)+1)-1=(ip:Int):=by omega
   have q6:(((ip+1:Nat):Int))-1=(ip:Int):=by omega
   have HDN:Hid (∀ dk,Mv1 a ip d dk→Srt a b dk):=hid (fun dk h=>Mv1.done (i:=ip+1) h (by omega) hjb (by rw[←e1];exact H2.out) (by rw[←e1];exact H3.out) (fun k h1 h2=>HL.out k (by omega) h2) HH.out)
   have him:a≤ip∧ip<b:=by omega
   clear e1 HL HH
   go_wp2
   go_loopg [13] (b-a) (fun gg s13 wr=>∃ (k:Nat) (dk:Array Pt),s13=.int .i64 (k:Int)∧a≤k∧k≤ip∧ip-k≤gg∧dk.size=d.size∧Hid (SWK enc K w0 blk off dk wr)∧Hid (PermIn a b d dk)∧Hid (Mv1 a k d dk))
   case atStart=>exact⟨a,d,rfl,Nat.le_refl _,him.1,by omega,rfl,S1.out,permIn_refl _ _ _,Mv1.start a d⟩
   case round =>
    clear S1
    obtain⟨k,dk,rfl,hak,hki,hgg,hds,S1,HP,HM⟩:=hrel
    by_cases hlt:k<ip
    ·have hltz:(k:Int)<(ip:Int):=by omega
     have hk1:(k:Int)+1=((k+1:Nat):Int):=by omega
     have HN:=hid (HM.out.step hak (by omega))
     have HPN:=hid (permIn_trans _ _ _ _ _ HP.out (swp_permIn dk a b k (k+1) (by omega) (by omega) (by omega) (by omega) (by omega)))
     obtain⟨k1,hk9⟩:∃ k1,k+1=k1:=⟨_,rfl⟩
     rw[hk9] at hk1 HN HPN
     have z3:(k:Int)<(d.size:Int):=by omega
     have z4:(k1:Int)<(d.size:Int):=by omega
     have z5:(0:Int)≤(k:Int):=by omega
     have z6:(0:Int)≤(k1:Int):=by omega
     have z7:IntKind.i64.wrap (k1:Int)=(k1:Int):=by rw[IntKind.wrap_i64];omega
     have z8:IntKind.i64.wrap ((k:Int)+1)=(k1:Int):=by rw[hk1];exact z7
     have S2:Hid (SWK enc K w0 blk off (swp dk k k1) ((wr.drew.setCells blk (off+k*K) (enc dk[k1]!)).setCells blk (off+k1*K) (enc dk[k]!))):=S1.out.swapped R k k1 (by omega) (by omega)
     have l44a:=S1.out.ld1 R (by omega) P k (by omega)
     have l44b:=S1.out.ld1 R (by omega) P k1 (by omega)
     have s44a:=S1.out.st1 R (by omega) P k (by omega) dk[k1]!
     have s44b:=S1.out.st2 R (by omega) P k k1 (by omega) (by omega) dk[k1]! dk[k]!
     have n44a:(enc dk[k]!).length=K:=R.hk _
     have n44b:(enc dk[k1]!).length=K:=R.hk _
     generalize enc dk[k]! = cI44 at S2 l44a s44b n44a
     generalize enc dk[k1]! = cJ44 at S2 l44b s44a s44b n44b
     clear S1
     go_wp2_with fail
     go_big_region_o
     clear l44a l44b s44a s44b
     generalize (wr.drew.setCells blk (off+k*K) cJ44).setCells blk (off+k1*K) cI44=w2 at S2 ⊢
     go_wp2
     go_roundg (ip-k1)
     case measure=>omega
     case rel=>exact⟨k1,swp dk k k1,by first | rfl | go_num,by omega,by omega,Nat.le_refl _,by rw[size_swp];exact hds,S2.out,HPN.out,HN.out⟩
    ·have hltz:¬(k:Int)<(ip:Int):=by omega
     obtain rfl:k=ip:=by omega
     have HF:=hid (HDN.out dk HM.out)
     go_wp2
     refine bodyPost_ret (results_none rfl _ _ _) rfl ?_
     exact⟨rfl,dk,S1.out,HP.out,HF.out⟩
set_option maxRecDepth 100000 in
set_option maxHeartbeats 4000000 in
theorem sym_right {P:Program} {K:Nat} {enc:Pt→List Value} (L:SlP P K) (blk off cap a m b:Nat) (d0 d:Array Pt) (w0 w:World) (g:Nat) (cb:Array Value) (eg:∀ args w,(callFunc g args).run P w=.ok (.enter g args) w) (hcmp:CmpLays P g cb enc K cmpP blk off d0.size w0)
  (R:RowK enc K w0 blk off d0) (hs:d0.size=d.size) (S:SWK enc K w0 blk off d w) (ham:a<m) (_:m<b) (hb:b≤d.size) (hsz:d.size≤1000) (h1:Srt a m d) (_:Srt m b d) (h3:Bfo a m b d) (e0:m≠a+1) (e1:b=m+1) :
  Calls P 163 #[.slice (some ⟨blk,off,none⟩) d.size cap,.int .i64 (a:Int),.int .i64 (m:Int),.int .i64 (b:Int),.func (.func g) #[] cb] w fun e w'=>e=.returned (.tuple #[])∧∃ d',SWK enc K w0 blk off d' w'∧PermIn a b d d'∧Srt a b d':=by
 have mixed:=L.mixed;have aE:=L.aE;have zE:=L.zE;have uS:=run_underlying L.tS;have t0:=L.t0;have a0:=L.a0;have z0:=L.z0;have v0:=L.v0;have t3:=L.t3;have a3:=L.a3;have z3:=L.z3;have v3:=L.v3;have t4:=L.t4;have a4:=L.a4;have z4:=L.z4;have v4:=L.v4;have tS:=L.tS;have aS:=L.aS;have zS:=L.zS;have vS:=L.vS;have tC:=L.tC;have aC:=L.aC;have zC:=L.zC;have vC:=L.vC;have tU:=L.tU;have aU:=L.aU;have zU:=L.zU;have vU:=L.vU
 have S0:Hid (SWK enc K w0 blk off d w):=S
 have HC:=hid hcmp
 have H1:=hid h1
 have H3:=hid h3
 clear S hcmp h1 h3
 have q0:((m:Int)-(a:Int) == 1)=false:=by rw[beq_eq_false_iff_ne];omega
 have q1:(b:Int)-(m:Int)=1:=by omega
 have E1:=hid e1
 have za:(m:Int)<(d.size:Int):=by omega
 have za0:(0:Int)≤(m:Int):=by omega
 have ra:IntKind.i64.wrap (m:Int)=(m:Int):=by rw[IntKind.wrap_i64];omega
 have hmb:m<b:=by omega
 clear e1 e0
 go_enter L.f117,Tryz.ntmps163
 go_wp2
 go_loopg [14,15] (b-a) (fun gg s10 s11 wr=>∃ (i j:Nat),s10=.int .i64 (i:Int)∧s11=.int .i64 (j:Int)∧a≤i∧i≤j∧j≤m∧j-i≤gg∧Hid (SWK enc K w0 blk off d wr)∧Hid (∀ k,a≤k→k<i→d[k]!.p.de≤d[m]!.p.de)∧Hid (∀ k,j≤k→k<m→d[m]!.p.de<d[k]!.p.de))
 case atStart=>exact⟨a,m,rfl,rfl,Nat.le_refl _,by omega,Nat.le_refl _,by omega,S0.out,fun k h1 h2=>by omega,fun k h1 h2=>by omega⟩
 case round =>
  clear S0
  obtain⟨i,j,rfl,rfl,hai,hij',hjb,hgg,S1,HL,HH⟩:=hrel
  by_cases hlt:i<j
  ·have hltz:(i:Int)<(j:Int):=by omega
   obtain⟨su,hsu⟩:∃ su,i+j=su:=⟨_,rfl⟩
   obtain⟨h,hh⟩:∃ h,su/2=h:=⟨_,rfl⟩
   have hij:i≤h∧h<j:=by omega
   have u1:IntKind.u64.wrap (su:Int)=(su:Int):=by rw[IntKind.wrap_u64];omega
   have u2:(su:Int)/2=(h:Int):=by omega
   have u3:IntKind.i64.wrap (h:Int)=(h:Int):=by rw[IntKind.wrap_i64];omega
   have u4:(i:Int)+(j:Int)=(su:Int):=by omega
   have z1:(h:Int)<(d.size:Int):=by omega
   have z2:(0:Int)≤(h:Int):=by omega
   have lx:=S1.out.ld R (by omega) P m (by omega)
   have ly:=S1.out.ld R (by omega) P h (by omega)
   have hcg:=fun n os=>S1.out.cmp HC.out (by omega) d[m]! d[h]! n os
   have SG:Hid (∀ n os,SWK enc K w0 blk off d (grow (wr.drewN n) os)):=hid (fun n os=>S1.out.grown n os)
   obtain⟨cf,hcf⟩:∃ cf,cmpP d[m]! d[h]! = cf:=⟨_,rfl⟩
   have HLT:Hid (cf<0 ↔ d[m]!.p.de<d[h]!.p.de):=hid (by rw[←hcf];exact cmpP_lt _ _)
   rw[hcf] at hcg
   generalize enc d[m]! = cX at lx hcg
   generalize enc d[h]! = cY at ly hcg
   clear hcf
   by_cases hlv:cf<0
   ·have hld:decide (cf<0)=true:=decide_eq_true hlv
    have HN:Hid (∀ k,h≤k→k<m→d[m]!.p.de<d[k]!.p.de):=hid (fun k h1 h2=>by
     have e:=HLT.out.1 hlv
     by_cases ek:k=h
     ·subst ek;exact e
     ·have:=(H1.out h k (by omega) (by omega) (by omega)).le;omega)
    clear hh hsu
    go_wp2_with fail
    go_quiet_grown (first | (go_at_fn g;refine Calls.grown_of (hcg _ _)))
    go_wp2
    go_roundg (h-i)
    case measure=>omega
    case rel=>exact⟨i,h,rfl,rfl,hai,by omega,by omega,Nat.le_refl _,SG.out nq osq,HL.out,HN.out⟩
   ·have hld:decide (cf<0)=false:=decide_eq_false hlv
    have HN:Hid (∀ k,a≤k→k<h+1→d[k]!.p.de≤d[m]!.p.de):=hid (fun k h1 h2=>by
     have e:=mt HLT.out.2 hlv
     by_cases ek:k=h
     ·subst ek;omega
     ·have:=(H1.out k h (by omega) (by omega) (by omega)).le;omega)
    clear hh hsu
    go_wp2_with fail
    go_quiet_grown (first | (go_at_fn g;refine Calls.grown_of (hcg _ _)))
    go_wp2
    go_roundg (j-(h+1))
    case measure=>omega
    case rel=>exact⟨h+1,j,by go_num,rfl,by omega,by omega,hjb,Nat.le_refl _,SG.out nq osq,HN.out,HH.out⟩
  ·have hltz:¬(i:Int)<(j:Int):=by omega
   obtain rfl:i=j:=by omega
   have HDN:Hid (∀ dk,Mv2 m i d dk→Srt a b dk):=hid (fun dk h=>by
    have e1:=E1.out
    rw[e1]
    exact Mv2.done (i:=i) h hai hjb H1.out (by rw[←e1];exact H3.out) HL.out HH.out)
   clear HL HH
   go_wp2
   go_loopg [17] (b-a) (fun gg s13 wr=>∃ (k:Nat) (dk:Array Pt),s13=.int .i64 (k:Int)∧i≤k∧k≤m∧k-i≤gg∧dk.size=d.size∧Hid (SWK enc K w0 blk off dk wr)∧Hid (PermIn a b d dk)∧Hid (Mv2 m k d dk))
   case atStart=>exact⟨m,d,rfl,hjb,Nat.le_refl _,by omega,rfl,S1.out,permIn_refl _ _ _,Mv2.start m d⟩
   case round =>
    clear S1
    obtain⟨k,dk,rfl,hak,hki,hgg,hds,S1,HP,HM⟩:=hrel
    by_cases hlt:i<k
    ·have hltz:(i:Int)<(k:Int):=by omega
     obtain⟨k1,hk9⟩:∃ k1,k=k1+1:=⟨k-1,by omega⟩
     have hk1:(k:Int)-1=(k1:Int):=by omega
     have HN:Hid (Mv2 m k1 d (swp dk k k1)):=hid (by subst hk9;exact HM.out.step hki (by omega))
     have HPN:=hid (permIn_trans _ _ _ _ _ HP.out (swp_permIn dk a b k k1 (by omega) (by omega) (by omega) (by omega) (by omega)))
     have z3:(k:Int)<(d.size:Int):=by omega
     have z4:(k1:Int)<(d.size:Int):=by omega
     have z5:(0:Int)≤(k:Int):=by omega
     have z6:(0:Int)≤(k1:Int):=by omega
     have z7:IntKind.i64.wrap (k1:Int)=(k1:Int):=by rw[IntKind.wrap_i64];omega
     have z8:IntKind.i64.wrap ((k:Int)-1)=(k1:Int):=by rw[hk1];exact z7
     have hk8:i≤k1∧k1≤m∧k1<k:=by omega
     have hk7:k<d.size:=by omega
     clear hk9
     have S2:Hid (SWK enc K w0 blk off (swp dk k k1) ((wr.drew.setCells blk (off+k*K) (enc dk[k1]!)).setCells blk (off+k1*K) (enc dk[k]!))):=S1.out.swapped R k k1 (by omega) (by omega)
     have l44a:=S1.out.ld1 R (by omega) P k (by omega)
     have l44b:=S1.out.ld1 R (by omega) P k1 (by omega)
     have s44a:=S1.out.st1 R (by omega) P k (by omega) dk[k1]!
     have s44b:=S1.out.st2 R (by omega) P k k1 (by omega) (by omega) dk[k1]! dk[k]!
     have n44a:(enc dk[k]!).length=K:=R.hk _
     have n44b:(enc dk[k1]!).length=K:=R.hk _
     generalize enc dk[k]! = cI44 at S2 l44a s44b n44a
     generalize enc dk[k1]! = cJ44 at S2 l44b s44a s44b n44b
     clear S1
     go_wp2_with fail
     go_big_region_o
     clear l44a l44b s44a s44b
     generalize (wr.drew.setCells blk (off+k*K) cJ44).setCells blk (off+k1*K) cI44=w2 at S2 ⊢
     go_wp2
     go_roundg (k1-i)
     case measure=>omega
     case rel=>exact⟨k1,swp dk k k1,by first | rfl | go_num,hk8.1,hk8.2.1,Nat.le_refl _,by rw[size_swp];exact hds,S2.out,HPN.out,HN.out⟩
    ·have hltz:¬(i:Int)<(k:Int):=by omega
     obtain rfl:k=i:=by omega
     have HF:=hid (HDN.out dk HM.out)
     go_wp2
     refine bodyPost_ret (results_none rfl _ _ _) rfl ?_
     exact⟨rfl,dk,S1.out,HP.out,HF.out⟩
end Go.Proofs.YtikcigjbhohboaaGreat.pln
end
