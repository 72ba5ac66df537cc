/- Part 24 of a proof: PaS3 PaS4 PaS5. -/
import Derived.Test.YtlecikdjoekknaaGreatM23
set_option maxRecDepth 100000
set_option maxHeartbeats 16000000
set_option linter.unusedVariables false
set_option linter.unusedSimpArgs false
section
namespace Go.Proofs.YtlecikdjoekknaaGreat.pln
open Go.Lib (hid)
open Go.ChangeShapes Go.WideShapes Go.ChangeAt Go.RowKit Go.Deep val Go.Sort Go.Shelf
theorem sym_left {P:Program} {K:Nat} {enc:Pt->List Value} (L:SlP P K) (blk off cap a m b:Nat) (d0 d:Array Pt) (w0 w:World) (g:Nat) (cb:Array Value) (eg:∀ args w,(callFunc g args).run P w=.ok (.enter g args) w) (hcmp:CmpLays P g cb enc K cmpP blk off d0.size w0)
  (R:RowK enc K w0 blk off d0) (hs:d0.size=d.size) (S:SWK enc K w0 blk off d w) (_:a<m) (hmb:m<b) (hb:b<=d.size) (hsz:d.size<=1000) (h1:Srt a m d) (h2:Srt m b d) (h3:Bfo a m b d) (e1:m=a+1) :
  Calls P 150 #[.slice (some ⟨blk,off,none⟩) d.size cap,.int .i64 (a:Int),.int .i64 (m:Int),.int .i64 (b:Int),.func (.func g) #[] cb] w λ e w'=>e=.returned (.tuple #[])/\∃ d',SWK enc K w0 blk off d' w'/\PermIn a b d d'/\Srt a b d':=by
 have mixed:=L.mixed;have aE:=L.aE;have zE:=L.zE;have uS:=run_underlying L.tS;have t0:=L.t0;have a0:=L.a0;have z0:=L.z0;have v0:=L.v0;have t3:=L.t3;have a3:=L.a3;have z3:=L.z3;have v3:=L.v3;have t4:=L.t4;have a4:=L.a4;have z4:=L.z4;have v4:=L.v4;have tS:=L.tS;have aS:=L.aS;have zS:=L.zS;have vS:=L.vS;have tC:=L.tC;have aC:=L.aC;have zC:=L.zC;have vC:=L.vC;have tU:=L.tU;have aU:=L.aU;have zU:=L.zU;have vU:=L.vU
 have S0:Hid (SWK enc K w0 blk off d w):=S
 have HC:=hid hcmp
 have H1:=hid h1
 have H2:=hid h2
 have H3:=hid h3
 clear S hcmp h1 h2 h3
 have q0:(m:Int)-(a:Int)=1:=by omega
 have E1:=hid e1
 clear e1
 have za:(a:Int)<(d.size:Int):=by omega
 have za0:(0:Int)<=(a:Int):=by omega
 have ra:IntKind.i64.wrap (a:Int)=(a:Int):=by rw[IntKind.wrap_i64];omega
 go_enter L.f117,Tryz.ntmps150
 go_wp2
 go_loopg [10,11] (b-a) (λ gg s10 s11 wr=>∃ (i j:Nat),s10=.int .i64 (i:Int)/\s11=.int .i64 (j:Int)/\m<=i/\i<=j/\j<=b/\j-i<=gg/\Hid (SWK enc K w0 blk off d wr)/\Hid (∀ k,m<=k->k<i->d[k]!.p.de<d[a]!.p.de)/\Hid (∀ k,j<=k->k<b->d[a]!.p.de<=d[k]!.p.de))
 case atStart=>exact⟨m,b,rfl,rfl,Nat.le_refl _,by omega,Nat.le_refl _,by omega,S0.out,λ k h1 h2=>by omega,λ k h1 h2=>by omega⟩
 case round =>
  clear S0
  obtain⟨i,j,rfl,rfl,hai,hij',hjb,hgg,S1,HL,HH⟩:=hrel
  by_cases hlt:i<j
  ·have hltz:(i:Int)<(j:Int):=by omega
   obtain⟨su,hsu⟩:∃ su,i+j=su:=⟨_,rfl⟩
   obtain⟨h,hh⟩:∃ h,su/2=h:=⟨_,rfl⟩
   have hij:i<=h/\h<j:=by omega
   have u1:IntKind.u64.wrap (su:Int)=(su:Int):=by rw[IntKind.wrap_u64];omega
   have u2:(su:Int)/2=(h:Int):=by omega
   have u3:IntKind.i64.wrap (h:Int)=(h:Int):=by rw[IntKind.wrap_i64];omega
   have u4:(i:Int)+(j:Int)=(su:Int):=by omega
   have z1:(h:Int)<(d.size:Int):=by omega
   have z2:(0:Int)<=(h:Int):=by omega
   have lx:=S1.out.ld R (by omega) P h (by omega)
   have ly:=S1.out.ld R (by omega) P a (by omega)
   have hcg:=λ n os=>S1.out.cmp HC.out (by omega) d[h]! d[a]! n os
   have SG:Hid (∀ n os,SWK enc K w0 blk off d (grow (wr.drewN n) os)):=hid (λ n os=>S1.out.grown n os)
   obtain⟨cf,hcf⟩:∃ cf,cmpP d[h]! d[a]! = cf:=⟨_,rfl⟩
   have HLT:Hid (cf<0 ↔ d[h]!.p.de<d[a]!.p.de):=hid (by rw[<-hcf];exact cmpP_lt _ _)
   rw[hcf] at hcg
   generalize enc d[h]! = cX at lx hcg
   generalize enc d[a]! = cY at ly hcg
   clear hcf
   by_cases hlv:cf<0
   ·have hld:decide (cf<0)=true:=decide_eq_true hlv
    have HN:Hid (∀ k,m<=k->k<h+1->d[k]!.p.de<d[a]!.p.de):=hid (λ k h1 h2=>by
     have e:=HLT.out.1 hlv
     by_cases ek:k=h
     ·subst ek;exact e
     ·have:=(H2.out k h (by omega) (by omega) (by omega)).le;omega)
    clear hh hsu
    go_wp2_with fail
    go_quiet_grown (first | (go_at_fn g;refine Calls.grown_of (hcg _ _)))
    go_wp2
    go_roundg (j-(h+1))
    case measure=>omega
    case rel=>exact⟨h+1,j,by go_num,rfl,by omega,by omega,hjb,Nat.le_refl _,SG.out nq osq,HN.out,HH.out⟩
   ·have hld:decide (cf<0)=false:=decide_eq_false hlv
    have HN:Hid (∀ k,h<=k->k<b->d[a]!.p.de<=d[k]!.p.de):=hid (λ k h1 h2=>by
     have e:=mt HLT.out.2 hlv
     by_cases ek:k=h
     ·subst ek;omega
     ·have:=(H2.out h k (by omega) (by omega) (by omega)).le;omega)
    clear hh hsu
    go_wp2_with fail
    go_quiet_grown (first | (go_at_fn g;refine Calls.grown_of (hcg _ _)))
    go_wp2
    go_roundg (h-i)
    case measure=>omega
    case rel=>exact⟨i,h,rfl,rfl,hai,by omega,by omega,Nat.le_refl _,SG.out nq osq,HL.out,HN.out⟩
  ·have hltz:¬(i:Int)<(j:Int):=by omega
   obtain rfl:i=j:=by omega
   have e1:=E1.out
   obtain⟨ip,rfl⟩:∃ ip,i=ip+1:=⟨i-1,by omega⟩
   have q5:((ip:Int)+1)-1=(ip:Int):=by omega
   have q6:(((ip+1:Nat):Int))-1=(ip:Int):=by omega
   have HDN:Hid (∀ dk,Mv1 a ip d dk->Srt a b dk):=hid (λ dk h=>Mv1.done (i:=ip+1) h (by omega) hjb (by rw[<-e1];exact H2.out) (by rw[<-e1];exact H3.out) (λ k h1 h2=>HL.out k (by omega) h2) HH.out)
   have him:a<=ip/\ip<b:=by omega
   clear e1 HL HH
   go_wp2
   go_loopg [13] (b-a) (λ gg s13 wr=>∃ (k:Nat) (dk:Array Pt),s13=.int .i64 (k:Int)/\a<=k/\k<=ip/\ip-k<=gg/\dk.size=d.size/\Hid (SWK enc K w0 blk off dk wr)/\Hid (PermIn a b d dk)/\Hid (Mv1 a k d dk))
   case atStart=>exact⟨a,d,rfl,Nat.le_refl _,him.1,by omega,rfl,S1.out,permIn_refl _ _ _,Mv1.start a d⟩
   case round =>
    clear S1
    obtain⟨k,dk,rfl,hak,hki,hgg,hds,S1,HP,HM⟩:=hrel
    by_cases hlt:k<ip
    ·have hltz:(k:Int)<(ip:Int):=by omega
     have hk1:(k:Int)+1=((k+1:Nat):Int):=by omega
     have HN:=hid (HM.out.step hak (by omega))
     have HPN:=hid (permIn_trans _ _ _ _ _ HP.out (swp_permIn dk a b k (k+1) (by omega) (by omega) (by omega) (by omega) (by omega)))
     obtain⟨k1,hk9⟩:∃ k1,k+1=k1:=⟨_,rfl⟩
     rw[hk9] at hk1 HN HPN
     have z3:(k:Int)<(d.size:Int):=by omega
     have z4:(k1:Int)<(d.size:Int):=by omega
     have z5:(0:Int)<=(k:Int):=by omega
     have z6:(0:Int)<=(k1:Int):=by omega
     have z7:IntKind.i64.wrap (k1:Int)=(k1:Int):=by rw[IntKind.wrap_i64];omega
     have z8:IntKind.i64.wrap ((k:Int)+1)=(k1:Int):=by rw[hk1];exact z7
     have S2:Hid (SWK enc K w0 blk off (swp dk k k1) ((wr.drew.setCells blk (off+k*K) (enc dk[k1]!)).setCells blk (off+k1*K) (enc dk[k]!))):=S1.out.swapped R k k1 (by omega) (by omega)
     have l44a:=S1.out.ld1 R (by omega) P k (by omega)
     have l44b:=S1.out.ld1 R (by omega) P k1 (by omega)
     have s44a:=S1.out.st1 R (by omega) P k (by omega) dk[k1]!
     have s44b:=S1.out.st2 R (by omega) P k k1 (by omega) (by omega) dk[k1]! dk[k]!
     have n44a:(enc dk[k]!).length=K:=R.hk _
     have n44b:(enc dk[k1]!).length=K:=R.hk _
     generalize enc dk[k]! = cI44 at S2 l44a s44b n44a
     generalize enc dk[k1]! = cJ44 at S2 l44b s44a s44b n44b
     clear S1
     go_wp2_with fail
     go_big_region_o
     clear l44a l44b s44a s44b
     generalize (wr.drew.setCells blk (off+k*K) cJ44).setCells blk (off+k1*K) cI44=w2 at S2 ⊢
     go_wp2
     go_roundg (ip-k1)
     case measure=>omega
     case rel=>exact⟨k1,swp dk k k1,by first | rfl | go_num,by omega,by omega,Nat.le_refl _,by rw[size_swp];exact hds,S2.out,HPN.out,HN.out⟩
    ·have hltz:¬(k:Int)<(ip:Int):=by omega
     obtain rfl:k=ip:=by omega
     have HF:=hid (HDN.out dk HM.out)
     go_wp2
     refine bodyPost_ret (results_none rfl _ _ _) rfl ?_
     exact⟨rfl,dk,S1.out,HP.out,HF.out⟩
theorem sym_right {P:Program} {K:Nat} {enc:Pt->List Value} (L:SlP P K) (blk off cap a m b:Nat) (d0 d:Array Pt) (w0 w:World) (g:Nat) (cb:Array Value) (eg:∀ args w,(callFunc g args).run P w=.ok (.enter g args) w) (hcmp:CmpLays P g cb enc K cmpP blk off d0.size w0)
  (R:RowK enc K w0 blk off d0) (hs:d0.size=d.size) (S:SWK enc K w0 blk off d w) (ham:a<m) (_:m<b) (hb:b<=d.size) (hsz:d.size<=1000) (h1:Srt a m d) (_:Srt m b d) (h3:Bfo a m b d) (e0:m≠a+1) (e1:b=m+1) :
  Calls P 150 #[.slice (some ⟨blk,off,none⟩) d.size cap,.int .i64 (a:Int),.int .i64 (m:Int),.int .i64 (b:Int),.func (.func g) #[] cb] w λ e w'=>e=.returned (.tuple #[])/\∃ d',SWK enc K w0 blk off d' w'/\PermIn a b d d'/\Srt a b d':=by
 have mixed:=L.mixed;have aE:=L.aE;have zE:=L.zE;have uS:=run_underlying L.tS;have t0:=L.t0;have a0:=L.a0;have z0:=L.z0;have v0:=L.v0;have t3:=L.t3;have a3:=L.a3;have z3:=L.z3;have v3:=L.v3;have t4:=L.t4;have a4:=L.a4;have z4:=L.z4;have v4:=L.v4;have tS:=L.tS;have aS:=L.aS;have zS:=L.zS;have vS:=L.vS;have tC:=L.tC;have aC:=L.aC;have zC:=L.zC;have vC:=L.vC;have tU:=L.tU;have aU:=L.aU;have zU:=L.zU;have vU:=L.vU
 have S0:Hid (SWK enc K w0 blk off d w):=S
 have HC:=hid hcmp
 have H1:=hid h1
 have H3:=hid h3
 clear S hcmp h1 h3
 have q0:((m:Int)-(a:Int) == 1)=false:=by rw[beq_eq_false_iff_ne];omega
 have q1:(b:Int)-(m:Int)=1:=by omega
 have E1:=hid e1
 have za:(m:Int)<(d.size:Int):=by omega
 have za0:(0:Int)<=(m:Int):=by omega
 have ra:IntKind.i64.wrap (m:Int)=(m:Int):=by rw[IntKind.wrap_i64];omega
 have hmb:m<b:=by omega
 clear e1 e0
 go_enter L.f117,Tryz.ntmps150
 go_wp2
 go_loopg [14,15] (b-a) (λ gg s10 s11 wr=>∃ (i j:Nat),s10=.int .i64 (i:Int)/\s11=.int .i64 (j:Int)/\a<=i/\i<=j/\j<=m/\j-i<=gg/\Hid (SWK enc K w0 blk off d wr)/\Hid (∀ k,a<=k->k<i->d[k]!.p.de<=d[m]!.p.de)/\Hid (∀ k,j<=k->k<m->d[m]!.p.de<d[k]!.p.de))
 case atStart=>exact⟨a,m,rfl,rfl,Nat.le_refl _,by omega,Nat.le_refl _,by omega,S0.out,λ k h1 h2=>by omega,λ k h1 h2=>by omega⟩
 case round =>
  clear S0
  obtain⟨i,j,rfl,rfl,hai,hij',hjb,hgg,S1,HL,HH⟩:=hrel
  by_cases hlt:i<j
  ·have hltz:(i:Int)<(j:Int):=by omega
   obtain⟨su,hsu⟩:∃ su,i+j=su:=⟨_,rfl⟩
   obtain⟨h,hh⟩:∃ h,su/2=h:=⟨_,rfl⟩
   have hij:i<=h/\h<j:=by omega
   have u1:IntKind.u64.wrap (su:Int)=(su:Int):=by rw[IntKind.wrap_u64];omega
   have u2:(su:Int)/2=(h:Int):=by omega
   have u3:IntKind.i64.wrap (h:Int)=(h:Int):=by rw[IntKind.wrap_i64];omega
   have u4:(i:Int)+(j:Int)=(su:Int):=by omega
   have z1:(h:Int)<(d.size:Int):=by omega
   have z2:(0:Int)<=(h:Int):=by omega
   have lx:=S1.out.ld R (by omega) P m (by omega)
   have ly:=S1.out.ld R (by omega) P h (by omega)
   have hcg:=λ n os=>S1.out.cmp HC.out (by omega) d[m]! d[h]! n os
   have SG:Hid (∀ n os,SWK enc K w0 blk off d (grow (wr.drewN n) os)):=hid (λ n os=>S1.out.grown n os)
   obtain⟨cf,hcf⟩:∃ cf,cmpP d[m]! d[h]! = cf:=⟨_,rfl⟩
   have HLT:Hid (cf<0 ↔ d[m]!.p.de<d[h]!.p.de):=hid (by rw[<-hcf];exact cmpP_lt _ _)
   rw[hcf] at hcg
   generalize enc d[m]! = cX at lx hcg
   generalize enc d[h]! = cY at ly hcg
   clear hcf
   by_cases hlv:cf<0
   ·have hld:decide (cf<0)=true:=decide_eq_true hlv
    have HN:Hid (∀ k,h<=k->k<m->d[m]!.p.de<d[k]!.p.de):=hid (λ k h1 h2=>by
     have e:=HLT.out.1 hlv
     by_cases ek:k=h
     ·subst ek;exact e
     ·have:=(H1.out h k (by omega) (by omega) (by omega)).le;omega)
    clear hh hsu
    go_wp2_with fail
    go_quiet_grown (first | (go_at_fn g;refine Calls.grown_of (hcg _ _)))
    go_wp2
    go_roundg (h-i)
    case measure=>omega
    case rel=>exact⟨i,h,rfl,rfl,hai,by omega,by omega,Nat.le_refl _,SG.out nq osq,HL.out,HN.out⟩
   ·have hld:decide (cf<0)=false:=decide_eq_false hlv
    have HN:Hid (∀ k,a<=k->k<h+1->d[k]!.p.de<=d[m]!.p.de):=hid (λ k h1 h2=>by
     have e:=mt HLT.out.2 hlv
     by_cases ek:k=h
     ·subst ek;omega
     ·have:=(H1.out k h (by omega) (by omega) (by omega)).le;omega)
    clear hh hsu
    go_wp2_with fail
    go_quiet_grown (first | (go_at_fn g;refine Calls.grown_of (hcg _ _)))
    go_wp2
    go_roundg (j-(h+1))
    case measure=>omega
    case rel=>exact⟨h+1,j,by go_num,rfl,by omega,by omega,hjb,Nat.le_refl _,SG.out nq osq,HN.out,HH.out⟩
  ·have hltz:¬(i:Int)<(j:Int):=by omega
   obtain rfl:i=j:=by omega
   have HDN:Hid (∀ dk,Mv2 m i d dk->Srt a b dk):=hid (λ dk h=>by
    have e1:=E1.out
    rw[e1]
    exact Mv2.done (i:=i) h hai hjb H1.out (by rw[<-e1];exact H3.out) HL.out HH.out)
   clear HL HH
   go_wp2
   go_loopg [17] (b-a) (λ gg s13 wr=>∃ (k:Nat) (dk:Array Pt),s13=.int .i64 (k:Int)/\i<=k/\k<=m/\k-i<=gg/\dk.size=d.size/\Hid (SWK enc K w0 blk off dk wr)/\Hid (PermIn a b d dk)/\Hid (Mv2 m k d dk))
   case atStart=>exact⟨m,d,rfl,hjb,Nat.le_refl _,by omega,rfl,S1.out,permIn_refl _ _ _,Mv2.start m d⟩
   case round =>
    clear S1
    obtain⟨k,dk,rfl,hak,hki,hgg,hds,S1,HP,HM⟩:=hrel
    by_cases hlt:i<k
    ·have hltz:(i:Int)<(k:Int):=by omega
     obtain⟨k1,hk9⟩:∃ k1,k=k1+1:=⟨k-1,by omega⟩
     have hk1:(k:Int)-1=(k1:Int):=by omega
     have HN:Hid (Mv2 m k1 d (swp dk k k1)):=hid (by subst hk9;exact HM.out.step hki (by omega))
     have HPN:=hid (permIn_trans _ _ _ _ _ HP.out (swp_permIn dk a b k k1 (by omega) (by omega) (by omega) (by omega) (by omega)))
     have z3:(k:Int)<(d.size:Int):=by omega
     have z4:(k1:Int)<(d.size:Int):=by omega
     have z5:(0:Int)<=(k:Int):=by omega
     have z6:(0:Int)<=(k1:Int):=by omega
     have z7:IntKind.i64.wrap (k1:Int)=(k1:Int):=by rw[IntKind.wrap_i64];omega
     have z8:IntKind.i64.wrap ((k:Int)-1)=(k1:Int):=by rw[hk1];exact z7
     have hk8:i<=k1/\k1<=m/\k1<k:=by omega
     have hk7:k<d.size:=by omega
     clear hk9
     have S2:Hid (SWK enc K w0 blk off (swp dk k k1) ((wr.drew.setCells blk (off+k*K) (enc dk[k1]!)).setCells blk (off+k1*K) (enc dk[k]!))):=S1.out.swapped R k k1 (by omega) (by omega)
     have l44a:=S1.out.ld1 R (by omega) P k (by omega)
     have l44b:=S1.out.ld1 R (by omega) P k1 (by omega)
     have s44a:=S1.out.st1 R (by omega) P k (by omega) dk[k1]!
     have s44b:=S1.out.st2 R (by omega) P k k1 (by omega) (by omega) dk[k1]! dk[k]!
     have n44a:(enc dk[k]!).length=K:=R.hk _
     have n44b:(enc dk[k1]!).length=K:=R.hk _
     generalize enc dk[k]! = cI44 at S2 l44a s44b n44a
     generalize enc dk[k1]! = cJ44 at S2 l44b s44a s44b n44b
     clear S1
     go_wp2_with fail
     go_big_region_o
     clear l44a l44b s44a s44b
     generalize (wr.drew.setCells blk (off+k*K) cJ44).setCells blk (off+k1*K) cI44=w2 at S2 ⊢
     go_wp2
     go_roundg (k1-i)
     case measure=>omega
     case rel=>exact⟨k1,swp dk k k1,by first | rfl | go_num,hk8.1,hk8.2.1,Nat.le_refl _,by rw[size_swp];exact hds,S2.out,HPN.out,HN.out⟩
    ·have hltz:¬(i:Int)<(k:Int):=by omega
     obtain rfl:k=i:=by omega
     have HF:=hid (HDN.out dk HM.out)
     go_wp2
     refine bodyPost_ret (results_none rfl _ _ _) rfl ?_
     exact⟨rfl,dk,S1.out,HP.out,HF.out⟩
theorem halves {a m b st e mid:Nat} {d d1:Array Pt} (h1:Srt a m d) (h2:Srt m b d) (h3:Bfo a m b d) (ham:a<=st/\st<=m/\m<=e/\e<=b) (hmid:st+(e-m)=mid) (hr:∀ k,d1[k]! = rot (λ k=>d[k]!) st m e k)
  (hl:e<b->a<st->d[st-1]!.p.de<=d[e]!.p.de) (hg:m<e->st<m->d[e-1]!.p.de<d[st]!.p.de) :
  (∀ i j,a<=i->i<mid->mid<=j->j<b->ltp d1[i]! d1[j]!)/\Srt a st d1/\Srt st mid d1/\Srt mid e d1/\Srt e b d1/\Bfo a st mid d1/\Bfo mid e b d1:=by
 have g1:∀ k,k<st->d1[k]! = d[k]! := λ k h=>by rw[hr,rot_lo h]
 have g2:∀ k,st<=k->k<mid->d1[k]! = d[k-st+m]! := λ k h h'=>by rw[hr,rot_a h (by omega)]
 have g3:∀ k,mid<=k->k<e->d1[k]! = d[k-(e-m)]! := λ k h h'=>by rw[hr,rot_b (by omega) h']
 have g4:∀ k,e<=k->d1[k]! = d[k]! := λ k h=>by rw[hr,rot_hi (by omega) (by omega) h]
 refine⟨λ i j i0 i1 j0 j1=>?_,λ i j i0 i1 j0=>?_,λ i j i0 i1 j0=>?_,λ i j i0 i1 j0=>?_,λ i j i0 i1 j0=>?_,λ i j i0 i1 j0 j1=>?_,λ i j i0 i1 j0 j1=>?_⟩
 ·by_cases ci:i<st
  ·rw[g1 i ci]
   by_cases cj:j<e
   ·rw[g3 j j0 cj];exact h1 _ _ i0 (by omega) (by omega)
   ·rw[g4 j (by omega)]
    have x1:=hl (by omega) (by omega)
    have x2:d[i]!.p.de<=d[st-1]!.p.de:=by
     by_cases e9:i=st-1
     ·rw[e9];omega
     ·exact(h1 i (st-1) i0 (by omega) (by omega)).le
    have x3:d[e]!.p.de<=d[j]!.p.de:=by
     by_cases e9:j=e
     ·rw[e9];omega
     ·exact(h2 e j (by omega) (by omega) j1).le
    have x4:=h3 i j i0 (by omega) (by omega) j1
    unfold ltp;omega
  ·rw[g2 i (by omega) i1]
   by_cases cj:j<e
   ·rw[g3 j j0 cj]
    have x1:=hg (by omega) (by omega)
    have x2:d[i-st+m]!.p.de<=d[e-1]!.p.de:=by
     by_cases e9:i-st+m=e-1
     ·rw[e9];omega
     ·exact(h2 _ (e-1) (by omega) (by omega) (by omega)).le
    have x3:d[st]!.p.de<=d[j-(e-m)]!.p.de:=by
     by_cases e9:j-(e-m)=st
     ·rw[e9];omega
     ·exact(h1 st _ (by omega) (by omega) (by omega)).le
    unfold ltp;omega
   ·rw[g4 j (by omega)];exact h2 _ _ (by omega) (by omega) j1
 ·rw[g1 i (by omega),g1 j j0];exact h1 _ _ i0 i1 (by omega)
 ·rw[g2 i i0 (by omega),g2 j (by omega) j0];exact h2 _ _ (by omega) (by omega) (by omega)
 ·rw[g3 i i0 (by omega),g3 j (by omega) j0];exact h1 _ _ (by omega) (by omega) (by omega)
 ·rw[g4 i i0,g4 j (by omega)];exact h2 _ _ (by omega) i1 j0
 ·rw[g1 i i1,g2 j j0 j1];exact h3 _ _ i0 (by omega) (by omega) (by omega)
 ·rw[g3 i i0 i1,g4 j j0];exact h3 _ _ (by omega) (by omega) (by omega) j1
theorem joined {a mid b:Nat} {d1 d2 d3:Array Pt} (hm:a<=mid/\mid<=b) (hb:b<=d1.size) (p2:PermIn a mid d1 d2) (p3:PermIn mid b d2 d3) (s2:Srt a mid d2) (s3:Srt mid b d3) (hx:∀ i j,a<=i->i<mid->mid<=j->j<b->ltp d1[i]! d1[j]!):Srt a b d3:=by
 have hx3:=perm_pairs hm.1 hm.2 hb p2 p3 hx
 intro i j i0 i1 j0
 by_cases ci:i<mid
 ·by_cases cj:j<mid
  ·rw[p3.2.1 i (.inl ci),p3.2.1 j (.inl cj)];exact s2 _ _ i0 i1 cj
  ·exact hx3 i j i0 ci (by omega) j0
 ·exact s3 _ _ (by omega) i1 j0
theorem Srt.keep {x y:Nat} {d1 d2:Array Pt} (h:Srt x y d1) (k:∀ k,x<=k->d2[k]! = d1[k]!):Srt x y d2:=λ i j h1 h2 h3=>by rw[k i h1,k j (by omega)];exact h i j h1 h2 h3
theorem Bfo.keep {x y z:Nat} {d1 d2:Array Pt} (h:Bfo x y z d1) (k:∀ k,x<=k->d2[k]! = d1[k]!) (_:x<=y):Bfo x y z d2:=λ i j h1 h2 h3 h4=>by rw[k i h1,k j (by omega)];exact h i j h1 h2 h3 h4
theorem sym_gen {P:Program} {K:Nat} {enc:Pt->List Value} (N:Nat):∀ (_:SlP P K) (blk off cap a m b:Nat) (d0 d:Array Pt) (w0 w:World) (g:Nat) (cb:Array Value) (eg:∀ args w,(callFunc g args).run P w=.ok (.enter g args) w) (hcmp:CmpLays P g cb enc K cmpP blk off d0.size w0)
  (R:RowK enc K w0 blk off d0) (hs:d0.size=d.size) (S:SWK enc K w0 blk off d w) (hN:b-a<=N) (ham:a<m) (hmb:m<b) (hb:b<=d.size) (hsz:d.size<=1000) (h1:Srt a m d) (h2:Srt m b d) (h3:Bfo a m b d),
  Calls P 150 #[.slice (some ⟨blk,off,none⟩) d.size cap,.int .i64 (a:Int),.int .i64 (m:Int),.int .i64 (b:Int),.func (.func g) #[] cb] w λ e w'=>e=.returned (.tuple #[])/\∃ d',SWK enc K w0 blk off d' w'/\PermIn a b d d'/\Srt a b d':=by
 induction N with
 | zero=>intro L blk off cap a m b d0 d w0 w g cb eg hcmp R hs S hN ham hmb;omega
 | succ N ih =>
  intro L blk off cap a m b d0 d w0 w g cb eg hcmp R hs S hN ham hmb hb hsz h1 h2 h3
  by_cases e0:m=a+1
  ·exact sym_left L blk off cap a m b d0 d w0 w g cb eg hcmp R hs S ham hmb hb hsz h1 h2 h3 e0
  by_cases e1:b=m+1
  ·exact sym_right L blk off cap a m b d0 d w0 w g cb eg hcmp R hs S ham hmb hb hsz h1 h2 h3 e0 e1
  have mixed:=L.mixed;have aE:=L.aE;have zE:=L.zE;have uS:=run_underlying L.tS;have t0:=L.t0;have a0:=L.a0;have z0:=L.z0;have v0:=L.v0;have t3:=L.t3;have a3:=L.a3;have z3:=L.z3;have v3:=L.v3;have t4:=L.t4;have a4:=L.a4;have z4:=L.z4;have v4:=L.v4;have tS:=L.tS;have aS:=L.aS;have zS:=L.zS;have vS:=L.vS;have tC:=L.tC;have aC:=L.aC;have zC:=L.zC;have vC:=L.vC;have tU:=L.tU;have aU:=L.aU;have zU:=L.zU;have vU:=L.vU
  have S0:Hid (SWK enc K w0 blk off d w):=S
  have HC:=hid hcmp
  have H1:=hid h1
  have H2:=hid h2
  have H3:=hid h3
  have egR:∀ args w,(callFunc 173 args).run P w=.ok (.enter 173 args) w:=enters_of L.f134 (by kernel_rfl) rfl
  have egM:∀ args w,(callFunc 150 args).run P w=.ok (.enter 150 args) w:=enters_of L.f117 (by kernel_rfl) rfl
  have CR:Hid (∀ (x y z:Nat) (dk:Array Pt) (W:World),dk.size=d.size->SWK enc K w0 blk off dk W->x<y->y<z->z<=d.size->Calls P 173 #[.slice (some ⟨blk,off,none⟩) d.size cap,.int .i64 (x:Int),.int .i64 (y:Int),.int .i64 (z:Int),.func (.func g) #[] cb] W λ e w'=>e=.returned (.tuple #[])/\∃ d',SWK enc K w0 blk off d' w'/\PermIn x z dk d'/\∀ k,d'[k]! = rot (λ k=>dk[k]!) x y z k):=hid (λ x y z dk W i1 i2 i3 i4 i5=>by
   rw[<-i1]
   exact rotate_gen L blk off cap x y z d0 dk w0 W _ R (by omega) i2 i3 i4 (by omega) (by omega))
  have CM:Hid (∀ (x y z:Nat) (dk:Array Pt) (W:World),dk.size=d.size->SWK enc K w0 blk off dk W->z-x<=N->x<y->y<z->z<=d.size->Srt x y dk->Srt y z dk->Bfo x y z dk->Calls P 150 #[.slice (some ⟨blk,off,none⟩) d.size cap,.int .i64 (x:Int),.int .i64 (y:Int),.int .i64 (z:Int),.func (.func g) #[] cb] W λ e w'=>e=.returned (.tuple #[])/\∃ d',SWK enc K w0 blk off d' w'/\PermIn x z dk d'/\Srt x z d'):=hid (λ x y z dk W i1 i2 i3 i4 i5 i6 i7 i8 i9=>by
   rw[<-i1]
   exact ih L blk off cap x y z d0 dk w0 W g cb eg hcmp R (by omega) i2 i3 i4 i5 (by omega) (by omega) i7 i8 i9)
  have q0:((m:Int)-(a:Int) == 1)=false:=by rw[beq_eq_false_iff_ne];omega
  have q1:((b:Int)-(m:Int) == 1)=false:=by rw[beq_eq_false_iff_ne];omega
  obtain⟨ab,hab⟩:∃ ab,a+b=ab:=⟨_,rfl⟩
  obtain⟨mid,hmid⟩:∃ mid,ab/2=mid:=⟨_,rfl⟩
  obtain⟨nn,hnn⟩:∃ nn,mid+m=nn:=⟨_,rfl⟩
  have hbounds:a<mid/\mid<b/\mid+1<=nn:=by omega
  have v1:IntKind.u64.wrap (ab:Int)=(ab:Int):=by rw[IntKind.wrap_u64];omega
  have v2:(ab:Int)/2=(mid:Int):=by omega
  have v3:IntKind.i64.wrap (mid:Int)=(mid:Int):=by rw[IntKind.wrap_i64];omega
  have v4:(a:Int)+(b:Int)=(ab:Int):=by omega
  have v5:(mid:Int)+(m:Int)=(nn:Int):=by omega
  obtain⟨p1,hp1⟩:∃ p1,nn=p1+1:=⟨nn-1,by omega⟩
  have v6:(nn:Int)-1=(p1:Int):=by omega
  obtain⟨s0,r0,hsr⟩:∃ s0 r0:Nat,(mid<m->(s0:Int)=(nn:Int)-(b:Int)/\r0=mid)/\(¬mid<m->s0=a/\r0=m):=by
   by_cases c:mid<m
   ·exact⟨nn-b,mid,λ _=>⟨by omega,rfl⟩,λ h=>absurd c h⟩
   ·exact⟨a,m,λ h=>absurd h c,λ _=>⟨rfl,rfl⟩⟩
  have hrng:a<=s0/\s0<=r0/\r0<=m/\r0<=mid/\(∀ c,s0<=c->c<r0->m<=p1-c/\p1-c<b/\c<=p1)/\(s0=a\/nn-s0=b)/\(r0=m\/nn-r0=m)/\nn-s0<=b/\m<=nn-r0:=by
   by_cases c:mid<m
   ·obtain⟨x1,x2⟩:=hsr.1 c
    refine⟨by omega,by omega,by omega,by omega,λ c h1 h2=>by omega,.inr (by omega),.inr (by omega),by omega,by omega⟩
   ·obtain⟨x1,x2⟩:=hsr.2 c
    refine⟨by omega,by omega,by omega,by omega,λ c h1 h2=>by omega,.inl (by omega),.inl (by omega),by omega,by omega⟩
  have HRNG:=hid hrng
  have HFN:Hid (∀ st e:Nat,s0<=st->st<=r0->e=nn-st->(∀ k,s0<=k->k<st->d[k]!.p.de<=d[p1-k]!.p.de)->(∀ k,st<=k->k<r0->d[p1-k]!.p.de<d[k]!.p.de)->a<=st/\st<=m/\m<=e/\e<=b/\st+(e-m)=mid/\st<=mid/\mid<=e/\(∀ d1:Array Pt,(∀ k,d1[k]! = rot (λ k=>d[k]!) st m e k) ->
    (∀ i j,a<=i->i<mid->mid<=j->j<b->ltp d1[i]! d1[j]!)/\Srt a st d1/\Srt st mid d1/\Srt mid e d1/\Srt e b d1/\Bfo a st mid d1/\Bfo mid e b d1)):=hid (λ st e i1 i2 i3 i4 i5=>by
   obtain⟨y1,y2,y3,y4,y5,y6,y7,y8,y9⟩:=HRNG.out
   have hbd:a<=st/\st<=m/\m<=e/\e<=b:=by omega
   refine⟨by omega,by omega,by omega,by omega,by omega,by omega,by omega,λ d1 hr=>?_⟩
   refine halves H1.out H2.out H3.out hbd (by omega) hr (λ he ha=>?_) (λ hm hst=>?_)
   ·have x:=i4 (st-1) (by omega) (by omega)
    rw[show p1-(st-1)=e by omega] at x
    exact x
   ·have x:=i5 st (Nat.le_refl _) (by omega)
    rw[show p1-st=e-1 by omega] at x
    exact x)
  have hsz0:s0<=r0/\r0<=m/\a<=s0:=by omega
  have HP1:=hid hp1
  clear S hcmp h1 h2 h3 ih hrng
  by_cases c:mid<m
  all_goals
   first
   | (obtain⟨c1,c2⟩:=hsr.1 c;have c3:(nn:Int)-(b:Int)=(s0:Int):=c1.symm;have w1:(mid:Int)<(m:Int):=(by omega);have C1:=hid c1;have C2:=hid c2;clear c1 c2)
   | (obtain⟨c1,c2⟩:=hsr.2 c;have w1:¬(mid:Int)<(m:Int):=(by omega);have C1:=hid c1;have C2:=hid c2;clear c1 c2)
   clear hsr hp1 hab hmid hnn
   go_enter L.f117,Tryz.ntmps150
   go_wp2
   go_loopg [20,21] (b-a) (λ gg s20 s21 wr=>∃ (i j:Nat),s20=.int .i64 (i:Int)/\s21=.int .i64 (j:Int)/\s0<=i/\i<=j/\j<=r0/\j-i<=gg/\Hid (SWK enc K w0 blk off d wr)/\Hid (∀ k,s0<=k->k<i->d[k]!.p.de<=d[p1-k]!.p.de)/\Hid (∀ k,j<=k->k<r0->d[p1-k]!.p.de<d[k]!.p.de))
   case atStart=>exact⟨s0,r0,by first | rfl | (rw[C1.out]) | (rw[c3]),by first | rfl | (rw[C2.out]),Nat.le_refl _,hsz0.1,Nat.le_refl _,by omega,S0.out,λ k h1 h2=>by omega,λ k h1 h2=>by omega⟩
   case round =>
    clear S0
    obtain⟨i,j,rfl,rfl,hai,hij',hjb,hgg,S1,HL,HH⟩:=hrel
    by_cases hlt:i<j
    ·have hltz:(i:Int)<(j:Int):=by omega
     obtain⟨su,hsu⟩:∃ su,i+j=su:=⟨_,rfl⟩
     obtain⟨h,hh⟩:∃ h,su/2=h:=⟨_,rfl⟩
     have hij:i<=h/\h<j:=by omega
     have u1:IntKind.u64.wrap (su:Int)=(su:Int):=by rw[IntKind.wrap_u64];omega
     have u2:(su:Int)/2=(h:Int):=by omega
     have u3:IntKind.i64.wrap (h:Int)=(h:Int):=by rw[IntKind.wrap_i64];omega
     have u4:(i:Int)+(j:Int)=(su:Int):=by omega
     have z1:(h:Int)<(d.size:Int):=by omega
     have z2:(0:Int)<=(h:Int):=by omega
     obtain⟨x1,x2,x3⟩:=HRNG.out.2.2.2.2.1 h (by omega) (by omega)
     obtain⟨y,hy⟩:∃ y,p1-h=y:=⟨_,rfl⟩
     rw[hy] at x1 x2
     have u5:(p1:Int)-(h:Int)=(y:Int):=by omega
     have z3:(y:Int)<(d.size:Int):=by omega
     have z4:(0:Int)<=(y:Int):=by omega
     have u6:IntKind.i64.wrap (y:Int)=(y:Int):=by rw[IntKind.wrap_i64];omega
     have u7:IntKind.i64.wrap ((p1:Int)-(h:Int))=(y:Int):=by rw[u5];exact u6
     have HY:=hid hy
     have lx:=S1.out.ld R (by omega) P y (by omega)
     have ly:=S1.out.ld R (by omega) P h (by omega)
     have hcg:=λ n os=>S1.out.cmp HC.out (by omega) d[y]! d[h]! n os
     have SG:Hid (∀ n os,SWK enc K w0 blk off d (grow (wr.drewN n) os)):=hid (λ n os=>S1.out.grown n os)
     obtain⟨cf,hcf⟩:∃ cf,cmpP d[y]! d[h]! = cf:=⟨_,rfl⟩
     have HLT:Hid (cf<0 ↔ d[y]!.p.de<d[h]!.p.de):=hid (by rw[<-hcf];exact cmpP_lt _ _)
     rw[hcf] at hcg
     generalize enc d[y]! = cX at lx hcg
     generalize enc d[h]! = cY at ly hcg
     clear hcf
     by_cases hlv:cf<0
     ·have hld:decide (cf<0)=true:=decide_eq_true hlv
      have HN:Hid (∀ k,h<=k->k<r0->d[p1-k]!.p.de<d[k]!.p.de):=hid (λ k h1 h2=>by
       have e:=HLT.out.1 hlv
       by_cases ek:k=h
       ·subst ek;rw[HY.out];exact e
       ·have t1:=(H1.out h k (by omega) (by omega) (by omega)).le
        have t2:=(H2.out (p1-k) y (by have:=HRNG.out.2.2.2.2.1 k (by omega) (by omega);omega) (by have:=HY.out;omega) (by omega)).le
        omega)
      clear hh hsu hy
      go_wp2_with fail
      go_quiet_grown (first | (go_at_fn g;refine Calls.grown_of (hcg _ _)))
      go_wp2
      go_roundg (h-i)
      case measure=>omega
      case rel=>exact⟨i,h,rfl,rfl,hai,by omega,by omega,Nat.le_refl _,SG.out nq osq,HL.out,HN.out⟩
     ·have hld:decide (cf<0)=false:=decide_eq_false hlv
      have HN:Hid (∀ k,s0<=k->k<h+1->d[k]!.p.de<=d[p1-k]!.p.de):=hid (λ k h1 h2=>by
       have e:=mt HLT.out.2 hlv
       by_cases ek:k=h
       ·subst ek;rw[HY.out];omega
       ·have t1:=(H1.out k h (by omega) (by omega) (by omega)).le
        have t2:=(H2.out y (p1-k) x1 (by have:=HY.out;omega) (by have:=HRNG.out.2.2.2.2.1 k (by omega) (by omega);omega)).le
        omega)
      clear hh hsu hy
      go_wp2_with fail
      go_quiet_grown (first | (go_at_fn g;refine Calls.grown_of (hcg _ _)))
      go_wp2
      go_roundg (j-(h+1))
      case measure=>omega
      case rel=>exact⟨h+1,j,by go_num,rfl,by omega,by omega,hjb,Nat.le_refl _,SG.out nq osq,HN.out,HH.out⟩
    ·have hltz:¬(i:Int)<(j:Int):=by omega
     obtain rfl:i=j:=by omega
     obtain⟨e,he⟩:∃ e,nn-i=e:=⟨_,rfl⟩
     obtain⟨y1,y2,y3,y4,y5,y6,y7,y8⟩:=HFN.out i e hai hjb he.symm HL.out HH.out
     have HY8:=hid y8
     have u8:(nn:Int)-(i:Int)=(e:Int):=by omega
     clear HL HH HFN y8 he
     have HK2:Hid (¬(a<i/\i<mid)->∀ d1:Array Pt,Srt a i d1->Srt i mid d1->Srt a mid d1):=hid (λ hn d1 s1 s2=>by
      by_cases ea:i=a
      ·rw[ea] at s2;exact s2
      ·have:i=mid:=by omega
       rw[this] at s1;exact s1)
     have HK3:Hid (¬(mid<e/\e<b)->∀ d1:Array Pt,Srt mid e d1->Srt e b d1->Srt mid b d1):=hid (λ hn d1 s1 s2=>by
      by_cases ea:mid=e
      ·rw[<-ea] at s2;exact s2
      ·have:e=b:=by omega
       rw[this] at s1;exact s1)
     have HMN:Hid (∀ (x y:Nat) (da db:Array Pt),a<=x->y<=b->da.size=d.size->PermIn x y da db->PermIn a b da db):=hid (λ x y da db i1 i2 i3 i4=>permIn_mono _ _ x y a b i1 i2 (by omega) i4)
     have HJ:Hid (∀ (d1 d2 d3:Array Pt),d1.size=d.size->d2.size=d.size->PermIn a mid d1 d2->PermIn mid b d2 d3->Srt a mid d2->Srt mid b d3->(∀ i j,a<=i->i<mid->mid<=j->j<b->ltp d1[i]! d1[j]!)->PermIn a b d d1->PermIn a b d d3/\Srt a b d3):=hid (λ d1 d2 d3 i1 i2 i3 i4 i5 i6 i7 i8=>⟨permIn_trans _ _ _ _ _ (permIn_trans _ _ _ _ _ i8 (HMN.out a mid d1 d2 (Nat.le_refl _) (by omega) i1 i3)) (HMN.out mid b d2 d3 (by omega) (Nat.le_refl _) i2 i4),joined (by omega) (by omega) i3 i4 i5 i6 i7⟩)
     have K3:∀ x y z:Nat,((x:Int)<(y:Int)/\(y:Int)<(z:Int))\/((x:Int)<(y:Int)/\¬(y:Int)<(z:Int))\/¬(x:Int)<(y:Int):=λ x y z=>by omega
     rcases K3 i m e with⟨k1b,k1d⟩ | ⟨k1b,kn1⟩ | kn1
     all_goals rcases K3 a i mid with⟨k2b,k2d⟩ | ⟨k2b,kn2⟩ | kn2
     all_goals rcases K3 mid e b with⟨k3b,k3d⟩ | ⟨k3b,kn3⟩ | kn3
     all_goals
      clear K3
      try(have _:=kn1;obtain⟨d1,hd1,s2,p2,r2⟩:∃ d1:Array Pt,d1.size=d.size/\SWK enc K w0 blk off d1 wr/\PermIn i e d d1/\∀ k,d1[k]! = rot (λ k=>d[k]!) i m e k:=⟨d,rfl,S1.out,permIn_refl _ _ _,λ k=>(rot_none (by omega) y2 y3).symm⟩;have S2:=hid s2;have P2:=hid (HMN.out i e d d1 y1 y4 rfl p2);have D1:=hid hd1;have F1:=hid (HY8.out d1 r2);clear s2 p2 r2)
      try(have _:=kn1;have _:=kn2;obtain⟨d2,hd2,s3,p3,f2⟩:∃ d2:Array Pt,d2.size=d.size/\SWK enc K w0 blk off d2 wr/\PermIn a mid d1 d2/\Srt a mid d2:=⟨d1,D1.out,S2.out,permIn_refl _ _ _,HK2.out (by omega) d1 F1.out.2.1 F1.out.2.2.1⟩;have S3:=hid s3;have P3:=hid p3;have D2:=hid hd2;have F2:=hid f2;have F3:=hid (And.intro (F1.out.2.2.2.1.keep (λ k hk=>p3.2.1 k (.inr hk))) (And.intro (F1.out.2.2.2.2.1.keep (λ k hk=>p3.2.1 k (.inr (by omega)))) (F1.out.2.2.2.2.2.2.keep (λ k hk=>p3.2.1 k (.inr hk)) y7)));clear s3 p3 f2 hd2)
      go_wp2_with (first | (go_at_call 173;(with_reducible refine(CR.out i m e d _ rfl S1.out (by omega) (by omega) (by omega)).mono ?_);rintro e9 w2 ⟨rfl,d1,s2,p2,r2⟩;have hd1:d1.size=d.size:=p2.1;have S2:=hid s2;have P2:=hid (HMN.out i e d d1 y1 y4 rfl p2);have D1:=hid hd1;have F1:=hid (HY8.out d1 r2);clear s2 p2 r2;try(have _:=kn2;obtain⟨d2,hd2,s3,p3,f2⟩:∃ d2:Array Pt,d2.size=d.size/\SWK enc K w0 blk off d2 w2/\PermIn a mid d1 d2/\Srt a mid d2:=⟨d1,D1.out,S2.out,permIn_refl _ _ _,HK2.out (by omega) d1 F1.out.2.1 F1.out.2.2.1⟩;have S3:=hid s3;have P3:=hid p3;have D2:=hid hd2;have F2:=hid f2;have F3:=hid (And.intro (F1.out.2.2.2.1.keep (λ k hk=>p3.2.1 k (.inr hk))) (And.intro (F1.out.2.2.2.2.1.keep (λ k hk=>p3.2.1 k (.inr (by omega)))) (F1.out.2.2.2.2.2.2.keep (λ k hk=>p3.2.1 k (.inr hk)) y7)));clear s3 p3 f2 hd2)) | (go_at_call 150;(with_reducible refine(CM.out a i mid d1 _ D1.out S2.out (by omega) (by omega) (by omega) (by omega) F1.out.2.1 F1.out.2.2.1 F1.out.2.2.2.2.2.1).mono ?_);rintro e9 w3 ⟨rfl,d2,s3,p3,f2⟩;have hd2:d2.size=d.size:=p3.1.trans D1.out;have S3:=hid s3;have P3:=hid p3;have D2:=hid hd2;have F2:=hid f2;have F3:=hid (And.intro (F1.out.2.2.2.1.keep (λ k hk=>p3.2.1 k (.inr hk))) (And.intro (F1.out.2.2.2.2.1.keep (λ k hk=>p3.2.1 k (.inr (by omega)))) (F1.out.2.2.2.2.2.2.keep (λ k hk=>p3.2.1 k (.inr hk)) y7)));clear s3 p3 f2 hd2) | (go_at_call 150;(with_reducible refine(CM.out mid e b d2 _ D2.out S3.out (by omega) (by omega) (by omega) (by omega) F3.out.1 F3.out.2.1 F3.out.2.2).mono ?_);rintro e9 w4 ⟨rfl,d3,s4,p4,f4⟩;have S4:=hid s4;have P4:=hid p4;have F4:=hid f4;clear s4 p4 f4) | fail)
      all_goals go_end0
      all_goals first
      | exact⟨rfl,d3,S4.out,HJ.out d1 d2 d3 D1.out D2.out P3.out P4.out F2.out F4.out F1.out.1 P2.out⟩
      | exact⟨rfl,d2,S3.out,HJ.out d1 d2 d2 D1.out D2.out P3.out (permIn_refl _ _ _) F2.out (HK3.out (by omega) d2 F3.out.1 F3.out.2.1) F1.out.1 P2.out⟩
theorem tks_keep {a b x y:Nat} {d d':Array Pt} (h:Tks x y d) (hp:PermIn a b d d') (hx:b<=x):Tks x y d':=λ i j h1 h2 h3=>by rw[hp.2.1 i (.inr (by omega)),hp.2.1 j (.inr (by omega))];exact h i j h1 h2 h3
theorem bfo_perm {x n:Nat} {d d1 d2:Array Pt} (h:Tks 0 n d) (hn:x<=n) (hd:n<=d.size) (p1:PermIn 0 x d d1) (p2:PermIn x n d1 d2):Bfo 0 x n d2:=by
 have:=perm_pairs (a:=0) (m:=x) (b:=n) (d:=d) (R:=λ u v=>u.i<v.i) (Nat.zero_le _) hn hd p1 p2 (λ i j i0 i1 j0 j1=>h i j i0 (by omega) j1)
 exact this
theorem stable_gen {P:Program} {K:Nat} {enc:Pt->List Value} (L:SlP P K) (blk off cap:Nat) (d0 d:Array Pt) (w0 w:World) (g:Nat) (cb:Array Value) (eg:∀ args w,(callFunc g args).run P w=.ok (.enter g args) w) (hcmp:CmpLays P g cb enc K cmpP blk off d0.size w0)
  (R:RowK enc K w0 blk off d0) (hs:d0.size=d.size) (S:SWK enc K w0 blk off d w) (hsz:d.size<=24) (ht:Tks 0 d.size d) :
  Calls P 123 #[.slice (some ⟨blk,off,none⟩) d.size cap,.int .i64 (d.size:Int),.func (.func g) #[] cb] w λ e w'=>e=.returned (.tuple #[])/\∃ d',SWK enc K w0 blk off d' w'/\PermIn 0 d.size d d'/\Srt 0 d.size d':=by
 have mixed:=L.mixed;have aE:=L.aE;have zE:=L.zE;have uS:=run_underlying L.tS;have t0:=L.t0;have a0:=L.a0;have z0:=L.z0;have v0:=L.v0;have t3:=L.t3;have a3:=L.a3;have z3:=L.z3;have v3:=L.v3;have t4:=L.t4;have a4:=L.a4;have z4:=L.z4;have v4:=L.v4;have tS:=L.tS;have aS:=L.aS;have zS:=L.zS;have vS:=L.vS;have tC:=L.tC;have aC:=L.aC;have zC:=L.zC;have vC:=L.vC;have tU:=L.tU;have aU:=L.aU;have zU:=L.zU;have vU:=L.vU
 have S0:Hid (SWK enc K w0 blk off d w):=S
 have egI:∀ args w,(callFunc 149 args).run P w=.ok (.enter 149 args) w:=enters_of L.f116 (by kernel_rfl) rfl
 have egM:∀ args w,(callFunc 150 args).run P w=.ok (.enter 150 args) w:=enters_of L.f117 (by kernel_rfl) rfl
 obtain⟨n,hn⟩:∃ n,d.size=n:=⟨_,rfl⟩
 have HN:=hid hn
 have CI:Hid (∀ (x y:Nat) (dk:Array Pt) (W:World),dk.size=d.size->SWK enc K w0 blk off dk W->x<=y->y<=n->Tks x y dk->Calls P 149 #[.slice (some ⟨blk,off,none⟩) n cap,.int .i64 (x:Int),.int .i64 (y:Int),.func (.func g) #[] cb] W λ e w'=>e=.returned (.tuple #[])/\∃ d',SWK enc K w0 blk off d' w'/\PermIn x y dk d'/\Srt x y d'):=hid (λ x y dk W i1 i2 i3 i4 i5=>by
  rw[<-hn,<-i1]
  exact insert_gen L blk off cap x y d0 dk w0 W g cb eg hcmp R (by omega) i2 i3 (by omega) (by omega) i5)
 have CM:Hid (∀ (x y z:Nat) (dk:Array Pt) (W:World),dk.size=d.size->SWK enc K w0 blk off dk W->x<y->y<z->z<=n->Srt x y dk->Srt y z dk->Bfo x y z dk->Calls P 150 #[.slice (some ⟨blk,off,none⟩) n cap,.int .i64 (x:Int),.int .i64 (y:Int),.int .i64 (z:Int),.func (.func g) #[] cb] W λ e w'=>e=.returned (.tuple #[])/\∃ d',SWK enc K w0 blk off d' w'/\PermIn x z dk d'/\Srt x z d'):=hid (λ x y z dk W i1 i2 i3 i4 i5 i6 i7 i8=>by
  rw[<-hn,<-i1]
  exact sym_gen (z-x) L blk off cap x y z d0 dk w0 W g cb eg hcmp R (by omega) i2 (Nat.le_refl _) i3 i4 (by omega) (by omega) i6 i7 i8)
 have HT:Hid (Tks 0 n d):=hid (by rw[<-hn];exact ht)
 have HDS:Hid (d.size=n):=HN
 rw[hn]
 rw[hn] at hsz
 clear S hcmp ht hn hs R
 go_enter L.f91,Tryz.ntmps123
 go_wp2
 go_loopg [7,8] 60 (λ gg s7 s8 wr=>∃ (x y:Nat) (dk:Array Pt),s7=.int .i64 (x:Int)/\s8=.int .i64 (y:Int)/\60-y<=gg/\dk.size=d.size/\(x=0/\y=20\/x=20/\y=40/\20<=n)/\Hid (SWK enc K w0 blk off dk wr)/\Hid (PermIn 0 x d dk)/\Hid (Srt 0 x dk))
 case atStart=>exact⟨0,20,d,rfl,rfl,by omega,rfl,.inl ⟨rfl,rfl⟩,S0.out,permIn_refl _ _ _,λ i j h1 h2 h3=>by omega⟩
 case round =>
  clear S0
  obtain⟨x,y,dk,rfl,rfl,hgg,hds,hxy,S1,HP,HS⟩:=hrel
  have HTK:Hid (∀ y,y<=n->Tks x y dk):=hid (λ y hy=>tks_keep (λ i j h1 h2 h3=>HT.out i j (Nat.zero_le _) h2 (by omega)) HP.out (Nat.le_refl _))
  by_cases hlt:y<=n
  ·have hltz:(y:Int)<=(n:Int):=by omega
   have hx:x=0/\y=20:=by omega
   have HX0:Hid (x=0):=hid hx.1
   have hy20:(y:Int)+20=((y+20:Nat):Int):=by omega
   obtain⟨z,hz⟩:∃ z,y+20=z:=⟨_,rfl⟩
   rw[hz] at hy20
   have hfin:z=40/\y=20/\20<=n:=by omega
   have HF9:=hid hfin
   clear hfin hz hxy hx
   have hx0:x<=y:=by have:=HX0.out;have:=HF9.out;omega
   go_wp2_with (go_at_call 149;refine(CI.out x y dk wr hds S1.out hx0 hlt (HTK.out y hlt)).mono ?_;rintro e w2 ⟨rfl,d1,s2,p2,r2⟩;have S2:=hid s2;have P2:=hid p2;have R2:=hid r2;have hd1:d1.size=d.size:=p2.1.trans hds;clear s2 p2 r2)
   go_roundg (60-z)
   case measure=>have:=HF9.out;omega
   case rel =>
    have hf:=HF9.out
    have hx:=HX0.out
    refine⟨y,z,d1,rfl,by first | rfl | (congr 1),Nat.le_refl _,hd1,.inr ⟨hf.2.1,hf.1,hf.2.2⟩,S2.out,?_,?_⟩
    ·have p:=HP.out
     have q:=P2.out
     rw[hx] at p q
     exact permIn_trans _ _ _ _ _ (permIn_mono _ _ 0 0 0 y (Nat.le_refl _) (Nat.zero_le _) (by have:=HDS.out;omega) p) q
    ·have r:=R2.out
     rw[hx] at r
     exact r
  ·have hltz:¬(y:Int)<=(n:Int):=by omega
   have hxn:x<=n:=by omega
   have HXY:=hid hxy
   have HB:Hid (∀ d1,PermIn x n dk d1->Srt x n d1->PermIn 0 n d d1/\(n<=20->Srt 0 n d1)/\(20<n->Srt 0 20 d1/\Srt 20 n d1/\Bfo 0 20 n d1)):=hid (λ d1 p s=>by
    have hn9:=HDS.out
    have hp0:=HP.out
    have hs0:Srt 0 x d1:=λ i j h1 h2 h3=>by rw[p.2.1 i (.inl (by omega)),p.2.1 j (.inl h3)];exact HS.out i j h1 h2 h3
    refine⟨permIn_trans _ _ _ _ _ (permIn_mono _ _ 0 x 0 n (Nat.le_refl _) hxn (by omega) hp0) (permIn_mono _ _ x n 0 n (Nat.zero_le _) (Nat.le_refl _) (by omega) p),λ h20=>?_,λ h20=>?_⟩
    ·rcases HXY.out with⟨e,_⟩ | ⟨e,_,e2⟩
     ·rw[e] at s;exact s
     ·have:n=x:=by omega
      rw[this];exact hs0
    ·rcases HXY.out with⟨e,e2⟩ | ⟨e,_,e2⟩
     ·omega
     ·rw[e] at s hs0 p hp0
      exact⟨hs0,s,bfo_perm HT.out (by omega) (by omega) hp0 p⟩)
   clear hxy
   go_wp2_with (go_at_call 149;refine(CI.out x n dk wr hds S1.out hxn (Nat.le_refl _) (HTK.out n (Nat.le_refl _))).mono ?_;rintro e w2 ⟨rfl,d1,s2,p2,r2⟩;have S2:=hid s2;have B2:=hid (HB.out d1 p2 r2);have hd1:d1.size=d.size:=p2.1.trans hds;clear s2 p2 r2)
   go_loopg [6,7,8,9] 60 (λ gg s6 s7 s8 s9 wr=>∃ (z:Nat) (dk:Array Pt) (v7 v8 v9:Value),s6=.int .i64 (z:Int)/\s7=v7/\s8=v8/\s9=v9/\60-z<=gg/\dk.size=d.size/\(z=20\/z=40)/\Hid (SWK enc K w0 blk off dk wr)/\Hid (PermIn 0 n d dk)/\Hid (n<=z->Srt 0 n dk)/\Hid (z<n->Srt 0 20 dk/\Srt 20 n dk/\Bfo 0 20 n dk))
   case atStart=>exact⟨20,d1,_,_,_,rfl,rfl,rfl,rfl,by omega,hd1,.inl rfl,S2.out,B2.out.1,B2.out.2.1,B2.out.2.2⟩
   case round =>
    clear S2 B2 HB S1 HP HS HTK HXY
    obtain⟨z,dj,v7,v8,v9,rfl,h7,h8,h9,hgg,hds,hz,S1,HP,HS,HM⟩:=hrel
    by_cases hlt:z<n
    ·have hltz2:(z:Int)<(n:Int):=by omega
     have hz20:z=20:=by omega
     have HZ:=hid hz20
     have t1:2*(z:Int)=((2*z:Nat):Int):=by omega
     have t1':(z:Int)*2=((2*z:Nat):Int):=by omega
     obtain⟨z2,hz2⟩:∃ z2,2*z=z2:=⟨_,rfl⟩
     rw[hz2] at t1 t1'
     have hz3:¬(z2:Int)<=(n:Int):=by omega
     have t2:(0:Int)+(z:Int)=(z:Int):=by omega
     have HZ2:Hid (z2=40):=hid (by omega)
     clear hz20 hz2 hz
     go_wp2
     go_loopg [7,8] 5 (λ gg s7 s8 wr2=>s7=.int .i64 0/\s8=.int .i64 (z2:Int)/\wr2=wr)
     case atStart=>exact⟨rfl,rfl,rfl⟩
     case round =>
      obtain⟨rfl,rfl,rfl⟩:=hrel
      have CA:=CM.out 0 z n dj wr hds S1.out (by have:=HZ.out;omega) hlt (Nat.le_refl _) (by have:=(HM.out hlt).1;rw[HZ.out];exact this) (by have:=(HM.out hlt).2.1;rw[HZ.out];exact this) (by have:=(HM.out hlt).2.2;rw[HZ.out];exact this)
      rw[show ((0:Nat):Int)=0 from rfl] at CA
      go_wp2_with (go_at_call 150;refine CA.mono ?_;rintro e w3 ⟨rfl,d2,s3,p3,r3⟩;have S3:=hid s3;have P3:=hid p3;have R3:=hid r3;have hd2:d2.size=d.size:=p3.1.trans hds;clear s3 p3 r3)
      go_roundg (60-z2)
      case measure=>have:=HZ.out;have:=HZ2.out;omega
      case rel=>exact⟨z2,d2,_,_,_,rfl,rfl,rfl,rfl,Nat.le_refl _,hd2,.inr HZ2.out,S3.out,permIn_trans _ _ _ _ _ HP.out P3.out,λ _=>R3.out,λ h=>by have:=HZ2.out;omega⟩
    ·have hltz2:¬(z:Int)<(n:Int):=by omega
     have HF:=hid (HS.out (by omega))
     go_wp2
     go_end0
     exact⟨rfl,dj,S1.out,HP.out,HF.out⟩
end Go.Proofs.YtlecikdjoekknaaGreat.pln
end
