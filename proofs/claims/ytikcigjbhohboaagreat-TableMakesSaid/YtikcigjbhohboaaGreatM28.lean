/- Part 28 of a proof: PaS4. -/
import Derived.Test.YtikcigjbhohboaaGreatM27
section
namespace Go.Proofs.YtikcigjbhohboaaGreat.pln
open Go.Lib (hid)
set_option linter.unusedVariables false
open Go.ChangeShapes Go.WideShapes Go.ChangeAt Go.RowKit Go.Deep val Go.Sort Go.Shelf
theorem halves {a m b st e mid:Nat} {d d1:Array Pt} (h1:Srt a m d) (h2:Srt m b d) (h3:Bfo a m b d) (ham:a≤st∧st≤m∧m≤e∧e≤b) (hmid:st+(e-m)=mid) (hr:∀ k,d1[k]! = rot (fun k=>d[k]!) st m e k)
  (hl:e<b→a<st→d[st-1]!.p.de≤d[e]!.p.de) (hg:m<e→st<m→d[e-1]!.p.de<d[st]!.p.de) :
  (∀ i j,a≤i→i<mid→mid≤j→j<b→ltp d1[i]! d1[j]!)∧Srt a st d1∧Srt st mid d1∧Srt mid e d1∧Srt e b d1∧Bfo a st mid d1∧Bfo mid e b d1:=by
 have g1:∀ k,k<st→d1[k]! = d[k]! := fun k h=>by rw[hr,rot_lo h]
 have g2:∀ k,st≤k→k<mid→d1[k]! = d[k-st+m]! := fun k h h'=>by rw[hr,rot_a h (by omega)]
 have g3:∀ k,mid≤k→k<e→d1[k]! = d[k-(e-m)]! := fun k h h'=>by rw[hr,rot_b (by omega) h']
 have g4:∀ k,e≤k→d1[k]! = d[k]! := fun k h=>by rw[hr,rot_hi (by omega) (by omega) h]
 refine⟨fun i j i0 i1 j0 j1=>?_,fun i j i0 i1 j0=>?_,fun i j i0 i1 j0=>?_,fun i j i0 i1 j0=>?_,fun i j i0 i1 j0=>?_,fun i j i0 i1 j0 j1=>?_,fun i j i0 i1 j0 j1=>?_⟩
 ·by_cases ci:i<st
  ·rw[g1 i ci]
   by_cases cj:j<e
   ·rw[g3 j j0 cj];exact h1 _ _ i0 (by omega) (by omega)
   ·rw[g4 j (by omega)]
    have x1:=hl (by omega) (by omega)
    have x2:d[i]!.p.de≤d[st-1]!.p.de:=by
     by_cases e9:i=st-1
     ·rw[e9];omega
     ·exact(h1 i (st-1) i0 (by omega) (by omega)).le
    have x3:d[e]!.p.de≤d[j]!.p.de:=by
     by_cases e9:j=e
     ·rw[e9];omega
     ·exact(h2 e j (by omega) (by omega) j1).le
    have x4:=h3 i j i0 (by omega) (by omega) j1
    unfold ltp;omega
  ·rw[g2 i (by omega) i1]
   by_cases cj:j<e
   ·rw[g3 j j0 cj]
    have x1:=hg (by omega) (by omega)
    have x2:d[i-st+m]!.p.de≤d[e-1]!.p.de:=by
     by_cases e9:i-st+m=e-1
     ·rw[e9];omega
     ·exact(h2 _ (e-1) (by omega) (by omega) (by omega)).le
    have x3:d[st]!.p.de≤d[j-(e-m)]!.p.de:=by
     by_cases e9:j-(e-m)=st
     ·rw[e9];omega
     ·exact(h1 st _ (by omega) (by omega) (by omega)).le
    unfold ltp;omega
   ·rw[g4 j (by omega)];exact h2 _ _ (by omega) (by omega) j1
 ·rw[g1 i (by omega),g1 j j0];exact h1 _ _ i0 i1 (by omega)
 ·rw[g2 i i0 (by omega),g2 j (by omega) j0];exact h2 _ _ (by omega) (by omega) (by omega)
 ·rw[g3 i i0 (by omega),g3 j (by omega) j0];exact h1 _ _ (by omega) (by omega) (by omega)
 ·rw[g4 i i0,g4 j (by omega)];exact h2 _ _ (by omega) i1 j0
 ·rw[g1 i i1,g2 j j0 j1];exact h3 _ _ i0 (by omega) (by omega) (by omega)
 ·rw[g3 i i0 i1,g4 j j0];exact h3 _ _ (by omega) (by omega) (by omega) j1
theorem joined {a mid b:Nat} {d1 d2 d3:Array Pt} (hm:a≤mid∧mid≤b) (hb:b≤d1.size) (p2:PermIn a mid d1 d2) (p3:PermIn mid b d2 d3) (s2:Srt a mid d2) (s3:Srt mid b d3) (hx:∀ i j,a≤i→i<mid→mid≤j→j<b→ltp d1[i]! d1[j]!):Srt a b d3:=by
 have hx3:=perm_pairs hm.1 hm.2 hb p2 p3 hx
 intro i j i0 i1 j0
 by_cases ci:i<mid
 ·by_cases cj:j<mid
  ·rw[p3.2.1 i (.inl ci),p3.2.1 j (.inl cj)];exact s2 _ _ i0 i1 cj
  ·exact hx3 i j i0 ci (by omega) j0
 ·exact s3 _ _ (by omega) i1 j0
theorem Srt.keep {x y:Nat} {d1 d2:Array Pt} (h:Srt x y d1) (k:∀ k,x≤k→d2[k]! = d1[k]!):Srt x y d2:=fun i j h1 h2 h3=>by rw[k i h1,k j (by omega)];exact h i j h1 h2 h3
theorem Bfo.keep {x y z:Nat} {d1 d2:Array Pt} (h:Bfo x y z d1) (k:∀ k,x≤k→d2[k]! = d1[k]!) (_:x≤y):Bfo x y z d2:=fun i j h1 h2 h3 h4=>by rw[k i h1,k j (by omega)];exact h i j h1 h2 h3 h4
set_option maxRecDepth 100000 in
set_option maxHeartbeats 8000000 in
theorem sym_gen {P:Program} {K:Nat} {enc:Pt→List Value} (N:Nat):∀ (_:SlP P K) (blk off cap a m b:Nat) (d0 d:Array Pt) (w0 w:World) (g:Nat) (cb:Array Value) (eg:∀ args w,(callFunc g args).run P w=.ok (.enter g args) w) (hcmp:CmpLays P g cb enc K cmpP blk off d0.size w0)
  (R:RowK enc K w0 blk off d0) (hs:d0.size=d.size) (S:SWK enc K w0 blk off d w) (hN:b-a≤N) (ham:a<m) (hmb:m<b) (hb:b≤d.size) (hsz:d.size≤1000) (h1:Srt a m d) (h2:Srt m b d) (h3:Bfo a m b d),
  Calls P 163 #[.slice (some ⟨blk,off,none⟩) d.size cap,.int .i64 (a:Int),.int .i64 (m:Int),.int .i64 (b:Int),.func (.func g) #[] cb] w fun e w'=>e=.returned (.tuple #[])∧∃ d',SWK enc K w0 blk off d' w'∧PermIn a b d d'∧Srt a b d':=by
 induction N with
 | zero=>intro L blk off cap a m b d0 d w0 w g cb eg hcmp R hs S hN ham hmb;omega
 | succ N ih =>
  intro L blk off cap a m b d0 d w0 w g cb eg hcmp R hs S hN ham hmb hb hsz h1 h2 h3
  by_cases e0:m=a+1
  ·exact sym_left L blk off cap a m b d0 d w0 w g cb eg hcmp R hs S ham hmb hb hsz h1 h2 h3 e0
  by_cases e1:b=m+1
  ·exact sym_right L blk off cap a m b d0 d w0 w g cb eg hcmp R hs S ham hmb hb hsz h1 h2 h3 e0 e1
  have mixed:=L.mixed;have aE:=L.aE;have zE:=L.zE;have uS:=run_underlying L.tS;have t0:=L.t0;have a0:=L.a0;have z0:=L.z0;have v0:=L.v0;have t3:=L.t3;have a3:=L.a3;have z3:=L.z3;have v3:=L.v3;have t4:=L.t4;have a4:=L.a4;have z4:=L.z4;have v4:=L.v4;have tS:=L.tS;have aS:=L.aS;have zS:=L.zS;have vS:=L.vS;have tC:=L.tC;have aC:=L.aC;have zC:=L.zC;have vC:=L.vC;have tU:=L.tU;have aU:=L.aU;have zU:=L.zU;have vU:=L.vU
  have S0:Hid (SWK enc K w0 blk off d w):=S
  have HC:=hid hcmp
  have H1:=hid h1
  have H2:=hid h2
  have H3:=hid h3
  have egR:∀ args w,(callFunc 185 args).run P w=.ok (.enter 185 args) w:=enters_of L.f134 (by kernel_rfl) rfl
  have egM:∀ args w,(callFunc 163 args).run P w=.ok (.enter 163 args) w:=enters_of L.f117 (by kernel_rfl) rfl
  have CR:Hid (∀ (x y z:Nat) (dk:Array Pt) (W:World),dk.size=d.size→SWK enc K w0 blk off dk W→x<y→y<z→z≤d.size→Calls P 185 #[.slice (some ⟨blk,off,none⟩) d.size cap,.int .i64 (x:Int),.int .i64 (y:Int),.int .i64 (z:Int),.func (.func g) #[] cb] W fun e w'=>e=.returned (.tuple #[])∧∃ d',SWK enc K w0 blk off d' w'∧PermIn x z dk d'∧∀ k,d'[k]! = rot (fun k=>dk[k]!) x y z k):=hid (fun x y z dk W i1 i2 i3 i4 i5=>by
   rw[←i1]
   exact rotate_gen L blk off cap x y z d0 dk w0 W _ R (by omega) i2 i3 i4 (by omega) (by omega))
  have CM:Hid (∀ (x y z:Nat) (dk:Array Pt) (W:World),dk.size=d.size→SWK enc K w0 blk off dk W→z-x≤N→x<y→y<z→z≤d.size→Srt x y dk→Srt y z dk→Bfo x y z dk→Calls P 163 #[.slice (some ⟨blk,off,none⟩) d.size cap,.int .i64 (x:Int),.int .i64 (y:Int),.int .i64 (z:Int),.func (.func g) #[] cb] W fun e w'=>e=.returned (.tuple #[])∧∃ d',SWK enc K w0 blk off d' w'∧PermIn x z dk d'∧Srt x z d'):=hid (fun x y z dk W i1 i2 i3 i4 i5 i6 i7 i8 i9=>by
   rw[←i1]
   exact ih L blk off cap x y z d0 dk w0 W g cb eg hcmp R (by omega) i2 i3 i4 i5 (by omega) (by omega) i7 i8 i9)
  have q0:((m:Int)-(a:Int) == 1)=false:=by rw[beq_eq_false_iff_ne];omega
  have q1:((b:Int)-(m:Int) == 1)=false:=by rw[beq_eq_false_iff_ne];omega
  obtain⟨ab,hab⟩:∃ ab,a+b=ab:=⟨_,rfl⟩
  obtain⟨mid,hmid⟩:∃ mid,ab/2=mid:=⟨_,rfl⟩
  obtain⟨nn,hnn⟩:∃ nn,mid+m=nn:=⟨_,rfl⟩
  have hbounds:a<mid∧mid<b∧mid+1≤nn:=by omega
  have v1:IntKind.u64.wrap (ab:Int)=(ab:Int):=by rw[IntKind.wrap_u64];omega
  have v2:(ab:Int)/2=(mid:Int):=by omega
  have v3:IntKind.i64.wrap (mid:Int)=(mid:Int):=by rw[IntKind.wrap_i64];omega
  have v4:(a:Int)+(b:Int)=(ab:Int):=by omega
  have v5:(mid:Int)+(m:Int)=(nn:Int):=by omega
  obtain⟨p1,hp1⟩:∃ p1,nn=p1+1:=⟨nn-1,by omega⟩
  have v6:(nn:Int)-1=(p1:Int):=by omega
  obtain⟨s0,r0,hsr⟩:∃ s0 r0:Nat,(mid<m→(s0:Int)=(nn:Int)-(b:Int)∧r0=mid)∧(¬mid<m→s0=a∧r0=m):=by
   by_cases c:mid<m
   ·exact⟨nn-b,mid,fun _=>⟨by omega,rfl⟩,fun h=>absurd c h⟩
   ·exact⟨a,m,fun h=>absurd h c,fun _=>⟨rfl,rfl⟩⟩
  have hrng:a≤s0∧s0≤r0∧r0≤m∧r0≤mid∧(∀ c,s0≤c→c<r0→m≤p1-c∧p1-c<b∧c≤p1)∧(s0=a∨nn-s0=b)∧(r0=m∨nn-r0=m)∧nn-s0≤b∧m≤nn-r0:=by
   by_cases c:mid<m
   ·obtain⟨x1,x2⟩:=hsr.1 c
    refine⟨by omega,by omega,by omega,by omega,fun c h1 h2=>by omega,.inr (by omega),.inr (by omega),by omega,by omega⟩
   ·obtain⟨x1,x2⟩:=hsr.2 c
    refine⟨by omega,by omega,by omega,by omega,fun c h1 h2=>by omega,.inl (by omega),.inl (by omega),by omega,by omega⟩
  have HRNG:=hid hrng
  have HFN:Hid (∀ st e:Nat,s0≤st→st≤r0→e=nn-st→(∀ k,s0≤k→k<st→d[k]!.p.de≤d[p1-k]!.p.de)→(∀ k,st≤k→k<r0→d[p1-k]!.p.de<d[k]!.p.de)→a≤st∧st≤m∧m≤e∧e≤b∧st+(e-m)=mid∧st≤mid∧mid≤e∧(∀ d1:Array Pt,(∀ k,d1[k]! = rot (fun k=>d[k]!) st m e k) →
    (∀ i j,a≤i→i<mid→mid≤j→j<b→ltp d1[i]! d1[j]!)∧Srt a st d1∧Srt st mid d1∧Srt mid e d1∧Srt e b d1∧Bfo a st mid d1∧Bfo mid e b d1)):=hid (fun st e i1 i2 i3 i4 i5=>by
   obtain⟨y1,y2,y3,y4,y5,y6,y7,y8,y9⟩:=HRNG.out
   have hbd:a≤st∧st≤m∧m≤e∧e≤b:=by omega
   refine⟨by omega,by omega,by omega,by omega,by omega,by omega,by omega,fun d1 hr=>?_⟩
   refine halves H1.out H2.out H3.out hbd (by omega) hr (fun he ha=>?_) (fun hm hst=>?_)
   ·have x:=i4 (st-1) (by omega) (by omega)
    rw[show p1-(st-1)=e by omega] at x
    exact x
   ·have x:=i5 st (Nat.le_refl _) (by omega)
    rw[show p1-st=e-1 by omega] at x
    exact x)
  have hsz0:s0≤r0∧r0≤m∧a≤s0:=by omega
  have HP1:=hid hp1
  clear S hcmp h1 h2 h3 ih hrng
  by_cases c:mid<m
  all_goals
   first
   | (obtain⟨c1,c2⟩:=hsr.1 c;have c3:(nn:Int)-(b:Int)=(s0:Int):=c1.symm;have w1:(mid:Int)<(m:Int):=(by omega);have C1:=hid c1;have C2:=hid c2;clear c1 c2)
   | (obtain⟨c1,c2⟩:=hsr.2 c;have w1:¬(mid:Int)<(m:Int):=(by omega);have C1:=hid c1;have C2:=hid c2;clear c1 c2)
   clear hsr hp1 hab hmid hnn
   go_enter L.f117,Tryz.ntmps163
   go_wp2
   go_loopg [20,21] (b-a) (fun gg s20 s21 wr=>∃ (i j:Nat),s20=.int .i64 (i:Int)∧s21=.int .i64 (j:Int)∧s0≤i∧i≤j∧j≤r0∧j-i≤gg∧Hid (SWK enc K w0 blk off d wr)∧Hid (∀ k,s0≤k→k<i→d[k]!.p.de≤d[p1-k]!.p.de)∧Hid (∀ k,j≤k→k<r0→d[p1-k]!.p.de<d[k]!.p.de))
   case atStart=>exact⟨s0,r0,by first | rfl | (rw[C1.out]) | (rw[c3]),by first | rfl | (rw[C2.out]),Nat.le_refl _,hsz0.1,Nat.le_refl _,by omega,S0.out,fun k h1 h2=>by omega,fun k h1 h2=>by omega⟩
   case round =>
    clear S0
    obtain⟨i,j,rfl,rfl,hai,hij',hjb,hgg,S1,HL,HH⟩:=hrel
    by_cases hlt:i<j
    ·have hltz:(i:Int)<(j:Int):=by omega
     obtain⟨su,hsu⟩:∃ su,i+j=su:=⟨_,rfl⟩
     obtain⟨h,hh⟩:∃ h,su/2=h:=⟨_,rfl⟩
     have hij:i≤h∧h<j:=by omega
     have u1:IntKind.u64.wrap (su:Int)=(su:Int):=by rw[IntKind.wrap_u64];omega
     have u2:(su:Int)/2=(h:Int):=by omega
     have u3:IntKind.i64.wrap (h:Int)=(h:Int):=by rw[IntKind.wrap_i64];omega
     have u4:(i:Int)+(j:Int)=(su:Int):=by omega
     have z1:(h:Int)<(d.size:Int):=by omega
     have z2:(0:Int)≤(h:Int):=by omega
     obtain⟨x1,x2,x3⟩:=HRNG.out.2.2.2.2.1 h (by omega) (by omega)
     obtain⟨y,hy⟩:∃ y,p1-h=y:=⟨_,rfl⟩
     rw[hy] at x1 x2
     have u5:(p1:Int)-(h:Int)=(y:Int):=by omega
     have z3:(y:Int)<(d.size:Int):=by omega
     have z4:(0:Int)≤(y:Int):=by omega
     have u6:IntKind.i64.wrap (y:Int)=(y:Int):=by rw[IntKind.wrap_i64];omega
     have u7:IntKind.i64.wrap ((p1:Int)-(h:Int))=(y:Int):=by rw[u5];exact u6
     have HY:=hid hy
     have lx:=S1.out.ld R (by omega) P y (by omega)
     have ly:=S1.out.ld R (by omega) P h (by omega)
     have hcg:=fun n os=>S1.out.cmp HC.out (by omega) d[y]! d[h]! n os
     have SG:Hid (∀ n os,SWK enc K w0 blk off d (grow (wr.drewN n) os)):=hid (fun n os=>S1.out.grown n os)
     obtain⟨cf,hcf⟩:∃ cf,cmpP d[y]! d[h]! = cf:=⟨_,rfl⟩
     have HLT:Hid (cf<0 ↔ d[y]!.p.de<d[h]!.p.de):=hid (by rw[←hcf];exact cmpP_lt _ _)
     rw[hcf] at hcg
     generalize enc d[y]! = cX at lx hcg
     generalize enc d[h]! = cY at ly hcg
     clear hcf
     by_cases hlv:cf<0
     ·have hld:decide (cf<0)=true:=decide_eq_true hlv
      have HN:Hid (∀ k,h≤k→k<r0→d[p1-k]!.p.de<d[k]!.p.de):=hid (fun k h1 h2=>by
       have e:=HLT.out.1 hlv
       by_cases ek:k=h
       ·subst ek;rw[HY.out];exact e
       ·have t1:=(H1.out h k (by omega) (by omega) (by omega)).le
        have t2:=(H2.out (p1-k) y (by have:=HRNG.out.2.2.2.2.1 k (by omega) (by omega);omega) (by have:=HY.out;omega) (by omega)).le
        omega)
      clear hh hsu hy
      go_wp2_with fail
      go_quiet_grown (first | (go_at_fn g;refine Calls.grown_of (hcg _ _)))
      go_wp2
      go_roundg (h-i)
      case measure=>omega
      case rel=>exact⟨i,h,rfl,rfl,hai,by omega,by omega,Nat.le_refl _,SG.out nq osq,HL.out,HN.out⟩
     ·have hld:decide (cf<0)=false:=decide_eq_false hlv
      have HN:Hid (∀ k,s0≤k→k<h+1→d[k]!.p.de≤d[p1-k]!.p.de):=hid (fun k h1 h2=>by
       have e:=mt HLT.out.2 hlv
       by_cases ek:k=h
       ·subst ek;rw[HY.out];omega
       ·have t1:=(H1.out k h (by omega) (by omega) (by omega)).le
        have t2:=(H2.out y (p1-k) x1 (by have:=HY.out;omega) (by have:=HRNG.out.2.2.2.2.1 k (by omega) (by omega);omega)).le
        omega)
      clear hh hsu hy
      go_wp2_with fail
      go_quiet_grown (first | (go_at_fn g;refine Calls.grown_of (hcg _ _)))
      go_wp2
      go_roundg (j-(h+1))
      case measure=>omega
      case rel=>exact⟨h+1,j,by go_num,rfl,by omega,by omega,hjb,Nat.le_refl _,SG.out nq osq,HN.out,HH.out⟩
    ·have hltz:¬(i:Int)<(j:Int):=by omega
     obtain rfl:i=j:=by omega
     obtain⟨e,he⟩:∃ e,nn-i=e:=⟨_,rfl⟩
     obtain⟨y1,y2,y3,y4,y5,y6,y7,y8⟩:=HFN.out i e hai hjb he.symm HL.out HH.out
     have HY8:=hid y8
     have u8:(nn:Int)-(i:Int)=(e:Int):=by omega
     clear HL HH HFN y8 he
     have HK2:Hid (¬(a<i∧i<mid)→∀ d1:Array Pt,Srt a i d1→Srt i mid d1→Srt a mid d1):=hid (fun hn d1 s1 s2=>by
      by_cases ea:i=a
      ·rw[ea] at s2;exact s2
      ·have:i=mid:=by omega
       rw[this] at s1;exact s1)
     have HK3:Hid (¬(mid<e∧e<b)→∀ d1:Array Pt,Srt mid e d1→Srt e b d1→Srt mid b d1):=hid (fun hn d1 s1 s2=>by
      by_cases ea:mid=e
      ·rw[←ea] at s2;exact s2
      ·have:e=b:=by omega
       rw[this] at s1;exact s1)
     have HMN:Hid (∀ (x y:Nat) (da db:Array Pt),a≤x→y≤b→da.size=d.size→PermIn x y da db→PermIn a b da db):=hid (fun x y da db i1 i2 i3 i4=>permIn_mono _ _ x y a b i1 i2 (by omega) i4)
     have HJ:Hid (∀ (d1 d2 d3:Array Pt),d1.size=d.size→d2.size=d.size→PermIn a mid d1 d2→PermIn mid b d2 d3→Srt a mid d2→Srt mid b d3→(∀ i j,a≤i→i<mid→mid≤j→j<b→ltp d1[i]! d1[j]!)→PermIn a b d d1→PermIn a b d d3∧Srt a b d3):=hid (fun d1 d2 d3 i1 i2 i3 i4 i5 i6 i7 i8=>⟨permIn_trans _ _ _ _ _ (permIn_trans _ _ _ _ _ i8 (HMN.out a mid d1 d2 (Nat.le_refl _) (by omega) i1 i3)) (HMN.out mid b d2 d3 (by omega) (Nat.le_refl _) i2 i4),joined (by omega) (by omega) i3 i4 i5 i6 i7⟩)
     have K3:∀ x y z:Nat,((x:Int)<(y:Int)∧(y:Int)<(z:Int))∨((x:Int)<(y:Int)∧¬(y:Int)<(z:Int))∨¬(x:Int)<(y:Int):=fun x y z=>by omega
     rcases K3 i m e with⟨k1b,k1d⟩ | ⟨k1b,kn1⟩ | kn1
     all_goals rcases K3 a i mid with⟨k2b,k2d⟩ | ⟨k2b,kn2⟩ | kn2
     all_goals rcases K3 mid e b with⟨k3b,k3d⟩ | ⟨k3b,kn3⟩ | kn3
     all_goals
      clear K3
      try(have _:=kn1;obtain⟨d1,hd1,s2,p2,r2⟩:∃ d1:Array Pt,d1.size=d.size∧SWK enc K w0 blk off d1 wr∧PermIn i e d d1∧∀ k,d1[k]! = rot (fun k=>d[k]!) i m e k:=⟨d,rfl,S1.out,permIn_refl _ _ _,fun k=>(rot_none (by omega) y2 y3).symm⟩;have S2:=hid s2;have P2:=hid (HMN.out i e d d1 y1 y4 rfl p2);have D1:=hid hd1;have F1:=hid (HY8.out d1 r2);clear s2 p2 r2)
      try(have _:=kn1;have _:=kn2;obtain⟨d2,hd2,s3,p3,f2⟩:∃ d2:Array Pt,d2.size=d.size∧SWK enc K w0 blk off d2 wr∧PermIn a mid d1 d2∧Srt a mid d2:=⟨d1,D1.out,S2.out,permIn_refl _ _ _,HK2.out (by omega) d1 F1.out.2.1 F1.out.2.2.1⟩;have S3:=hid s3;have P3:=hid p3;have D2:=hid hd2;have F2:=hid f2;have F3:=hid (And.intro (F1.out.2.2.2.1.keep (fun k hk=>p3.2.1 k (.inr hk))) (And.intro (F1.out.2.2.2.2.1.keep (fun k hk=>p3.2.1 k (.inr (by omega)))) (F1.out.2.2.2.2.2.2.keep (fun k hk=>p3.2.1 k (.inr hk)) y7)));clear s3 p3 f2 hd2)
      go_wp2_with (first | (go_at_call 185;(with_reducible refine(CR.out i m e d _ rfl S1.out (by omega) (by omega) (by omega)).mono ?_);rintro e9 w2 ⟨rfl,d1,s2,p2,r2⟩;have hd1:d1.size=d.size:=p2.1;have S2:=hid s2;have P2:=hid (HMN.out i e d d1 y1 y4 rfl p2);have D1:=hid hd1;have F1:=hid (HY8.out d1 r2);clear s2 p2 r2;try(have _:=kn2;obtain⟨d2,hd2,s3,p3,f2⟩:∃ d2:Array Pt,d2.size=d.size∧SWK enc K w0 blk off d2 w2∧PermIn a mid d1 d2∧Srt a mid d2:=⟨d1,D1.out,S2.out,permIn_refl _ _ _,HK2.out (by omega) d1 F1.out.2.1 F1.out.2.2.1⟩;have S3:=hid s3;have P3:=hid p3;have D2:=hid hd2;have F2:=hid f2;have F3:=hid (And.intro (F1.out.2.2.2.1.keep (fun k hk=>p3.2.1 k (.inr hk))) (And.intro (F1.out.2.2.2.2.1.keep (fun k hk=>p3.2.1 k (.inr (by omega)))) (F1.out.2.2.2.2.2.2.keep (fun k hk=>p3.2.1 k (.inr hk)) y7)));clear s3 p3 f2 hd2)) | (go_at_call 163;(with_reducible refine(CM.out a i mid d1 _ D1.out S2.out (by omega) (by omega) (by omega) (by omega) F1.out.2.1 F1.out.2.2.1 F1.out.2.2.2.2.2.1).mono ?_);rintro e9 w3 ⟨rfl,d2,s3,p3,f2⟩;have hd2:d2.size=d.size:=p3.1.trans D1.out;have S3:=hid s3;have P3:=hid p3;have D2:=hid hd2;have F2:=hid f2;have F3:=hid (And.intro (F1.out.2.2.2.1.keep (fun k hk=>p3.2.1 k (.inr hk))) (And.intro (F1.out.2.2.2.2.1.keep (fun k hk=>p3.2.1 k (.inr (by omega)))) (F1.out.2.2.2.2.2.2.keep (fun k hk=>p3.2.1 k (.inr hk)) y7)));clear s3 p3 f2 hd2) | (go_at_call 163;(with_reducible refine(CM.out mid e b d2 _ D2.out S3.out (by omega) (by omega) (by omega) (by omega) F3.out.1 F3.out.2.1 F3.out.2.2).mono ?_);rintro e9 w4 ⟨rfl,d3,s4,p4,f4⟩;have S4:=hid s4;have P4:=hid p4;have F4:=hid f4;clear s4 p4 f4) | fail)
      all_goals go_end0
      all_goals first
      | exact⟨rfl,d3,S4.out,HJ.out d1 d2 d3 D1.out D2.out P3.out P4.out F2.out F4.out F1.out.1 P2.out⟩
      | exact⟨rfl,d2,S3.out,HJ.out d1 d2 d2 D1.out D2.out P3.out (permIn_refl _ _ _) F2.out (HK3.out (by omega) d2 F3.out.1 F3.out.2.1) F1.out.1 P2.out⟩
end Go.Proofs.YtikcigjbhohboaaGreat.pln
end
