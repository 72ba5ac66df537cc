/- Part 48 of a proof: PdM PdS1 PdS2 PdZ. -/
import Derived.Shelf.SlSortCmp.Kit1
import Derived.Shelf.SlSortCmp.QuietGrown
import Derived.Test.YtikcigjbhohboaaGreatM01
section
namespace Go.Proofs.YtikcigjbhohboaaGreat.pls
open Go.Sort
variable {ky:Nat→Int}
def ltp (ky:Nat→Int) (x y:Nat):Prop:=ky x<ky y∨ky x=ky y∧x<y
theorem ltp.trans {x y z:Nat} (h:ltp ky x y) (k:ltp ky y z):ltp ky x z:=by unfold ltp at *;omega
def cmpP (ky:Nat→Int) (x y:Nat):Int:=if ky x<ky y then -1 else if ky y<ky x then 1 else 0
theorem cmpP_lt (x y:Nat):cmpP ky x y<0 ↔ ky x<ky y:=by
 unfold cmpP
 by_cases h:ky x<ky y
 ·simp[h]
 ·by_cases h2:ky y<ky x <;> simp[h,h2]
def Srt (ky:Nat→Int) (a b:Nat) (d:Array Nat):Prop:=∀ i j,a≤i→i<j→j<b→ltp ky d[i]! d[j]!
def Tks (a b:Nat) (d:Array Nat):Prop:=∀ i j,a≤i→i<j→j<b→d[i]! < d[j]!
structure Ins (ky:Nat→Int) (a j i:Nat) (d:Array Nat):Prop where
 oth:∀ p q,a≤p→p<q→q≤i→p≠j→q≠j→ltp ky d[p]! d[q]!
 beh:∀ q,j<q→q≤i→ltp ky d[j]! d[q]!
 tsk:∀ p,a≤p→p≤i→p≠j→d[p]! < d[j]!
theorem Ins.start {a i:Nat} {d dk:Array Nat} (_:a≤i) (hi:i<d.size) (hp:PermIn a i d dk) (hs:Srt ky a i dk) (ht:Tks a (i+1) d):Ins ky a i i dk:=by
 refine⟨fun p q h1 h2 h3 h4 h5=>hs p q h1 h2 (by omega),fun q h1 h2=>by omega,fun p h1 h2 h3=>?_⟩
 have e:dk[i]! = d[i]! := hp.2.1 i (.inr (Nat.le_refl _))
 rw[e]
 exact permIn_all d dk a i (fun x=>x<d[i]!) (by omega) hp (fun k hk hk'=>ht k i hk hk' (by omega)) p h1 (by omega)
theorem Ins.step {a j i:Nat} {d:Array Nat} (h:Ins ky a (j+1) i d) (haj:a≤j) (hji:j+1≤i) (hi:i<d.size) (hc:ky d[j+1]! < ky d[j]!):Ins ky a j i (swp d (j+1) j):=by
 have g:=swp_get d (i:=j+1) (j:=j) (by omega) (by omega)
 have gj:(swp d (j+1) j)[j]! = d[j+1]! := by rw[g j];simp
 have gj1:(swp d (j+1) j)[j+1]! = d[j]! := by rw[g (j+1)];simp
 have go:∀ k,k≠j→k≠j+1→(swp d (j+1) j)[k]! = d[k]! := fun k h1 h2=>by rw[g k];simp[h1,h2]
 refine⟨fun p q h1 h2 h3 h4 h5=>?_,fun q h1 h2=>?_,fun p h1 h2 h3=>?_⟩
 ·by_cases ep:p=j+1
  ·subst ep
   rw[gj1,go q (by omega) (by omega)]
   exact h.oth j q haj (by omega) h3 (by omega) (by omega)
  ·rw[go p h4 ep]
   by_cases eq:q=j+1
   ·subst eq;rw[gj1];exact h.oth p j h1 (by omega) (by omega) ep (by omega)
   ·rw[go q h5 eq];exact h.oth p q h1 h2 h3 ep eq
 ·rw[gj]
  by_cases eq:q=j+1
  ·subst eq;rw[gj1];exact .inl hc
  ·rw[go q (by omega) eq];exact h.beh q (by omega) h2
 ·rw[gj]
  by_cases ep:p=j+1
  ·subst ep;rw[gj1];exact h.tsk j haj (by omega) (by omega)
  ·rw[go p h3 ep];exact h.tsk p h1 h2 ep
theorem Ins.stop {a j i:Nat} {d:Array Nat} (h:Ins ky a j i d) (hji:j≤i) (hc:a<j→ky d[j-1]! ≤ ky d[j]!):Srt ky a (i+1) d:=by
 intro p q h1 h2 h3
 by_cases ep:p=j
 ·subst ep;exact h.beh q h2 (by omega)
 ·by_cases eq:q=j
  ·subst eq
   have hlast:ltp ky d[q-1]! d[q]! := by
    have:=hc (by omega)
    have:=h.tsk (q-1) (by omega) (by omega) (by omega)
    unfold ltp;omega
   by_cases e:p=q-1
   ·subst e;exact hlast
   ·exact(h.oth p (q-1) h1 (by omega) (by omega) ep (by omega)).trans hlast
  ·exact h.oth p q h1 h2 (by omega) ep eq
structure Mv1 (a k:Nat) (d dk:Array Nat):Prop where
 lo:∀ p,a≤p→p<k→dk[p]! = d[p+1]!
 at_:dk[k]! = d[a]!
 hi:∀ p,k<p→dk[p]! = d[p]!
structure Mv2 (m k:Nat) (d dk:Array Nat):Prop where
 hi:∀ p,k<p→p≤m→dk[p]! = d[p-1]!
 at_:dk[k]! = d[m]!
 lo:∀ p,p<k→dk[p]! = d[p]!
end Go.Proofs.YtikcigjbhohboaaGreat.pls
end
section
namespace Go.Proofs.YtikcigjbhohboaaGreat.pls
open Go.ChangeShapes Go.WideShapes Go.ChangeAt Go.RowKit Go.Deep Go.Sort Go.Shelf
variable {ky:Nat→Int}
def en (nv:Nat→Int) (x:Nat):Value:=.int .i64 (nv x)
theorem en_one (nv:Nat→Int):OneCell (en nv):=fun _=>rfl
theorem _root_.Go.Proofs.SW.el {nv:Nat→Int} {w0 W:World} {blk off:Nat} {dk d0:Array Nat} (h:SW (en nv) w0 blk off dk W) (R:Row1 (en nv) w0 blk off d0) (hs:dk.size=d0.size) (i:Nat) (hi:i<dk.size) (n:Nat) (os:Array Obj):(grow (W.drewN n) os).cell? ⟨blk,off+i,none⟩=some (.int .i64 (nv dk[i]!)):=h.cl R hs i hi n os
structure SlI (P:Program):Prop where
 mixed:P.follows .mixedOrders=true
 f91:P.funcs[105]? = some Tryz.f105
 f116:P.funcs[125]? = some Tryz.f125
 f117:P.funcs[126]? = some Tryz.f126
 f134:P.funcs[149]? = some Tryz.f149
 f151:P.funcs[166]? = some Tryz.f166
 t0:P.underlying 0=some (TypeDesc.tuple #[])
 a0:∀ w,(isAgg 0).run P w=.ok false w
 z0:∀ w,(Go.sizeOf 0).run P w=.ok 1 w
 v0:∀ w,(zeroValue 0).run P w=.ok (Value.tuple #[]) w
 t3:P.underlying 3=some (TypeDesc.int IntKind.i64)
 a3:∀ w,(isAgg 3).run P w=.ok false w
 z3:∀ w,(Go.sizeOf 3).run P w=.ok 1 w
 v3:∀ w,(zeroValue 3).run P w=.ok (Value.int IntKind.i64 0) w
 t4:P.underlying 4=some (TypeDesc.bool)
 a4:∀ w,(isAgg 4).run P w=.ok false w
 z4:∀ w,(Go.sizeOf 4).run P w=.ok 1 w
 v4:∀ w,(zeroValue 4).run P w=.ok (Value.bool false) w
 tS:P.underlying 26=some (TypeDesc.slice 3)
 aS:∀ w,(isAgg 26).run P w=.ok false w
 zS:∀ w,(Go.sizeOf 26).run P w=.ok 1 w
 vS:∀ w,(zeroValue 26).run P w=.ok (Value.slice none 0 0) w
 tC:P.underlying 146=some (TypeDesc.func #[3,3] #[3] false)
 aC:∀ w,(isAgg 146).run P w=.ok false w
 zC:∀ w,(Go.sizeOf 146).run P w=.ok 1 w
 vC:∀ w,(zeroValue 146).run P w=.ok Value.nilFunc w
 tU:P.underlying 109=some (TypeDesc.int IntKind.u64)
 aU:∀ w,(isAgg 109).run P w=.ok false w
 zU:∀ w,(Go.sizeOf 109).run P w=.ok 1 w
 vU:∀ w,(zeroValue 109).run P w=.ok (Value.int IntKind.u64 0) w
theorem slI : SlI Tryz.prog where
 mixed:=by kernel_rfl
 f91:=Tryz.func105
 f116:=Tryz.func125
 f117:=Tryz.func126
 f134:=Tryz.func149
 f151:=Tryz.func166
 t0:=Tryz.underlying0
 a0:=Tryz.isAgg0
 z0:=Tryz.sizeOf0
 v0:=Tryz.zeroValue0
 t3:=Tryz.underlying3
 a3:=Tryz.isAgg3
 z3:=Tryz.sizeOf3
 v3:=Tryz.zeroValue3
 t4:=Tryz.underlying4
 a4:=Tryz.isAgg4
 z4:=Tryz.sizeOf4
 v4:=Tryz.zeroValue4
 tS:=Tryz.underlying26
 aS:=Tryz.isAgg26
 zS:=Tryz.sizeOf26
 vS:=Tryz.zeroValue26
 tC:=Tryz.underlying146
 aC:=Tryz.isAgg146
 zC:=Tryz.sizeOf146
 vC:=Tryz.zeroValue146
 tU:=Tryz.underlying109
 aU:=Tryz.isAgg109
 zU:=Tryz.sizeOf109
 vU:=Tryz.zeroValue109
end Go.Proofs.YtikcigjbhohboaaGreat.pls
end
section
namespace Go.Proofs.YtikcigjbhohboaaGreat.pls
open Go.Lib (hid)
open Go.ChangeShapes Go.WideShapes Go.ChangeAt Go.RowKit Go.Deep Go.Sort Go.Shelf
variable {ky:Nat→Int}
set_option maxRecDepth 100000 in
set_option maxHeartbeats 4000000 in
theorem insert_gen {P:Program} {nv:Nat→Int} (L:SlI P) (blk off cap a b:Nat) (d0 d:Array Nat) (w0 w:World) (g:Nat) (cb:Array Value) (eg:∀ args w,(callFunc g args).run P w=.ok (.enter g args) w) (hcmp:CmpLays1 P g cb (en nv) (cmpP ky) blk off d0.size w0)
  (R:Row1 (en nv) w0 blk off d0) (hs:d0.size=d.size) (S:SW (en nv) w0 blk off d w) (hab:a≤b) (hb:b≤d.size) (hsz:d.size≤1000) (ht:Tks a b d) :
  Calls P 125 #[.slice (some ⟨blk,off,none⟩) d.size cap,.int .i64 (a:Int),.int .i64 (b:Int),.func (.func g) #[] cb] w fun e w'=>e=.returned (.tuple #[])∧∃ d',SW (en nv) w0 blk off d' w'∧PermIn a b d d'∧Srt ky a b d':=by
 have mixed:=L.mixed;have t0:=L.t0;have a0:=L.a0;have z0:=L.z0;have v0:=L.v0;have t3:=L.t3;have a3:=L.a3;have z3:=L.z3;have v3:=L.v3;have t4:=L.t4;have a4:=L.a4;have z4:=L.z4;have v4:=L.v4;have tS:=L.tS;have uS:=run_underlying L.tS;have aS:=L.aS;have zS:=L.zS;have vS:=L.vS;have tC:=L.tC;have aC:=L.aC;have zC:=L.zC;have vC:=L.vC;have tU:=L.tU;have aU:=L.aU;have zU:=L.zU;have vU:=L.vU
 have S0:Hid (SW (en nv) w0 blk off d w):=S
 have HC:=hid hcmp
 have HT:=hid ht
 clear S hcmp ht
 go_enter L.f116,Tryz.ntmps125
 go_wp2
 go_loopg [8] (b-a) (fun g1 vi wr=>∃ (i:Nat) (dk:Array Nat),vi=.int .i64 (i:Int)∧a<i∧i≤b+1∧b+1-i≤g1+1∧dk.size=d.size∧(b<i→b=a)∧Hid (SW (en nv) w0 blk off dk wr)∧Hid (PermIn a b d dk)∧Hid (i≤b→PermIn a i d dk)∧Hid (Srt ky a i dk))
 case atStart=>exact⟨a+1,d,by go_num,by omega,by omega,by omega,rfl,by omega,S0.out,permIn_refl _ _ _,fun _=>permIn_refl _ _ _,fun i j h1 h2 h3=>by omega⟩
 case round =>
  clear S0
  obtain⟨i,dk,rfl,hai,hib,hg1,hsk,hbi,S1,HP,HQ,HS⟩:=hrel
  by_cases hlt:i<b
  ·have hltz:(i:Int)<(b:Int):=by omega
   have HI0:=hid (Ins.start (show a≤i by omega) (show i<d.size by omega) (HQ.out (by omega)) HS.out (fun p q h1 h2 h3=>HT.out p q h1 h2 (by omega)))
   have HP1:=hid (permIn_mono _ _ a i a (i+1) (Nat.le_refl _) (by omega) (by omega) (HQ.out (by omega)))
   go_wp2
   go_loopg [9] i (fun g2 vj wr2=>∃ (j:Nat) (dj:Array Nat),vj=.int .i64 (j:Int)∧a≤j∧j≤i∧j≤g2∧dj.size=d.size∧Hid (SW (en nv) w0 blk off dj wr2)∧Hid (PermIn a (i+1) d dj)∧Hid (Ins ky a j i dj))
   case atStart=>exact⟨i,dk,rfl,by omega,Nat.le_refl _,Nat.le_refl _,hsk,S1.out,HP1.out,HI0.out⟩
   case round =>
    clear S1 HP HQ HS HI0 HP1
    obtain⟨j,dj,rfl,haj,hji,hg2,hsj,S1,HP,HI⟩:=hrel
    have OUT:Hid ((a<j→ky dj[j-1]! ≤ ky dj[j]!)→Srt ky a (i+1) dj):=hid (HI.out.stop hji)
    have HPB:=hid (permIn_mono _ _ a (i+1) a b (Nat.le_refl _) (by omega) (by omega) HP.out)
    by_cases hja:a<j
    ·obtain⟨jp,rfl⟩:∃ jp,j=jp+1:=⟨j-1,by omega⟩
     have hjaz:(a:Int)<(jp:Int)+1:=by omega
     have hjd:decide ((a:Int)<(jp:Int)+1)=true:=decide_eq_true hjaz
     have hwp:IntKind.i64.wrap (jp:Int)=(jp:Int):=by rw[IntKind.wrap_i64];omega
     have jz:(jp:Int)+1<(d.size:Int):=by omega
     have jz1:(jp:Int)<(d.size:Int):=by omega
     have p0:(0:Int)≤(jp:Int)+1:=by omega
     obtain⟨jn,hjn⟩:∃ jn,jp+1=jn:=⟨_,rfl⟩
     have e0:((jp:Int)+1).toNat=jn:=by omega
     have r0:IntKind.i64.wrap ((jp:Int)+1)=(jp:Int)+1:=by rw[IntKind.wrap_i64];omega
     have p1:(0:Int)≤(jp:Int):=by omega
     have e9:((jp:Int)).toNat=jp:=by omega
     have lj:∀ n os,(grow (wr.drewN n) os).cell? ⟨blk,off+jn,none⟩=some (.int .i64 (nv dj[jp+1]!)):=by rw[←hjn];exact S1.out.el R (by omega) (jp+1) (by omega)
     have lp:=S1.out.el R (by omega) jp (by omega)
     have hcg:∀ n os,Calls P g (#[.int .i64 (nv dj[jp+1]!),.int .i64 (nv dj[jp]!)] ++ cb) (grow (wr.drewN n) os) fun e w'=>e=.returned (.int .i64 (cmpP ky dj[jp+1]! dj[jp]!))∧∃ q os',w'=grow ((grow (wr.drewN n) os).drewN q) os':=fun n os=>S1.out.cmp HC.out (by omega) dj[jp+1]! dj[jp]! n os
     have SG:Hid (∀ n os,SW (en nv) w0 blk off dj (grow (wr.drewN n) os)):=hid (fun n os=>S1.out.grown n os)
     have HST:Hid (ky dj[jp+1]! < ky dj[jp]! → Ins ky a jp i (swp dj (jp+1) jp)):=hid (fun h=>HI.out.step (by omega) hji (by omega) h)
     have HSP:Hid (PermIn a (i+1) d (swp dj (jp+1) jp)):=hid (permIn_trans _ _ _ _ _ HP.out (swp_permIn _ _ _ _ _ (by omega) (by omega) (by omega) (by omega) (by omega)))
     rw[Nat.add_sub_cancel] at OUT
     obtain⟨cf,hcf⟩:∃ cf,cmpP ky dj[jp+1]! dj[jp]! = cf:=⟨_,rfl⟩
     have HLT:Hid (cf<0 ↔ ky dj[jp+1]! < ky dj[jp]!):=hid (by rw[←hcf];exact cmpP_lt _ _)
     rw[hcf] at hcg
     clear hcf
     by_cases hlv:cf<0
     ·have hld:decide (cf<0)=true:=decide_eq_true hlv
      have HSS:Hid (∀ W,SW (en nv) w0 blk off dj W→SW (en nv) w0 blk off (swp dj (jp+1) jp) (((W.setCell ⟨blk,off+jn,none⟩ (.int .i64 (nv dj[jp]!))).setCell ⟨blk,off+jp,none⟩ (.int .i64 (nv dj[jp+1]!))).drew)∧W.cell? ⟨blk,off+jn,none⟩=some (.int .i64 (nv dj[jp+1]!))∧W.cell? ⟨blk,off+jp,none⟩=some (.int .i64 (nv dj[jp]!))∧W.frozen? ⟨blk,off+jn,none⟩=false∧W.frozen? ⟨blk,off+jp,none⟩=false∧∃ u,(W.setCell ⟨blk,off+jn,none⟩ (.int .i64 (nv dj[jp]!))).cell? ⟨blk,off+jp,none⟩=some u) :=
       hid (by rw[←hjn];exact fun W h=>⟨h.swapped R (jp+1) jp (by omega) (by omega),h.c1 R (by omega) _ (by omega),h.c1 R (by omega) _ (by omega),h.f1 R (by omega) _ (by omega),h.f1 R (by omega) _ (by omega),h.c2 R (by omega) _ _ (by omega) (by omega) _⟩)
      clear hjn
      generalize nv dj[jp+1]! = cJ at lj hcg HSS
      generalize nv dj[jp]! = cP at lp hcg HSS
      go_wp2_with fail
      go_quiet_grown (first | (go_at_fn g;refine Calls.grown_of (hcg _ _)))
      go_wp2_with fail
      obtain⟨S3,l1,l2,s1,s2,u3,s3⟩:=HSS.out _ (SG.out nq osq)
      have S4:=hid S3
      clear lj lp hcg S3
      generalize grow (wr.drewN nq) osq=wq2 at S4 l1 l2 s1 s2 s3 ⊢
      go_big_region_o
      clear l1 l2 s1 s2 s3
      generalize ((wq2.setCell ⟨blk,off+jn,none⟩ (.int .i64 cP)).setCell ⟨blk,off+jp,none⟩ (.int .i64 cJ)).drew=w3 at S4 ⊢
      go_wp2
      go_roundg jp
      case measure=>omega
      case rel=>exact⟨jp,swp dj (jp+1) jp,by first | rfl | go_num | (congr 1;omega),by omega,by omega,Nat.le_refl _,by rw[size_swp];exact hsj,S4.out,HSP.out,HST.out (HLT.out.1 hlv)⟩
     ·have hld:decide (cf<0)=false:=decide_eq_false hlv
      have HOS:Hid (Srt ky a (i+1) dj):=hid (OUT.out (fun _=>by have:=mt HLT.out.2 hlv;omega))
      clear hjn
      generalize nv dj[jp+1]! = cJ at lj hcg
      generalize nv dj[jp]! = cP at lp hcg
      go_wp2_with fail
      go_quiet_grown (first | (go_at_fn g;refine Calls.grown_of (hcg _ _)))
      go_wp2
      go_roundg (b-(i+1))
      case measure=>omega
      case rel=>exact⟨i+1,dj,by go_num,by omega,by omega,by omega,hsj,by omega,SG.out nq osq,HPB.out,fun _=>HP.out,HOS.out⟩
    ·have hjaz:decide ((j:Int) > (a:Int))=false:=decide_eq_false (by omega)
     have hjaz':¬(a:Int)<(j:Int):=by omega
     have S2:Hid (SW (en nv) w0 blk off dj wr.drew):=hid S1.out.drew
     have HOS:Hid (Srt ky a (i+1) dj):=hid (OUT.out (fun h=>absurd h hja))
     clear S1
     go_wp2_with fail
     go_big_region_o
     all_goals go_wp2
     go_roundg (b-(i+1))
     case measure=>omega
     case rel=>exact⟨i+1,dj,by go_num,by omega,by omega,by omega,hsj,by omega,S2.out,HPB.out,fun _=>HP.out,HOS.out⟩
  ·have hltz:¬(i:Int)<(b:Int):=by omega
   have HF:Hid (Srt ky a b dk):=hid (fun p q h1 h2 h3=>HS.out p q h1 h2 (by omega))
   go_wp2
   go_end0
   exact⟨rfl,dk,S1.out,HP.out,HF.out⟩
abbrev StableTo (K:Nat):Prop:=∀ (ky nv:Nat→Int) (blk off cap:Nat) (d0 d:Array Nat) (w0 w:World) (g:Nat) (cb:Array Value) (_:∀ args w,(callFunc g args).run Tryz.prog w=.ok (.enter g args) w) (_:CmpLays1 Tryz.prog g cb (en nv) (cmpP ky) blk off d0.size w0)
  (_:Row1 (en nv) w0 blk off d0) (_:d0.size=d.size) (_:SW (en nv) w0 blk off d w) (_:d.size≤K) (_:Tks 0 d.size d),
  Calls Tryz.prog 105 #[.slice (some ⟨blk,off,none⟩) d.size cap,.int .i64 (d.size:Int),.func (.func g) #[] cb] w fun e w'=>e=.returned (.tuple #[])∧∃ d',SW (en nv) w0 blk off d' w'∧PermIn 0 d.size d d'∧Srt ky 0 d.size d'
end Go.Proofs.YtikcigjbhohboaaGreat.pls
end
section
namespace Go.Proofs.YtikcigjbhohboaaGreat.pls
open Go.ChangeShapes Go.WideShapes Go.ChangeAt Go.RowKit Go.Deep Go.Sort Go.Shelf
variable {ky:Nat→Int}
set_option maxRecDepth 100000 in
set_option maxHeartbeats 8000000 in
theorem stable_small {P:Program} {nv:Nat→Int} (L:SlI P) (blk off cap:Nat) (d0 d:Array Nat) (w0 w:World) (g:Nat) (cb:Array Value) (eg:∀ args w,(callFunc g args).run P w=.ok (.enter g args) w) (hcmp:CmpLays1 P g cb (en nv) (cmpP ky) blk off d0.size w0)
  (R:Row1 (en nv) w0 blk off d0) (hs:d0.size=d.size) (S:SW (en nv) w0 blk off d w) (hsz:d.size≤19) (ht:Tks 0 d.size d) :
  Calls P 105 #[.slice (some ⟨blk,off,none⟩) d.size cap,.int .i64 (d.size:Int),.func (.func g) #[] cb] w fun e w'=>e=.returned (.tuple #[])∧∃ d',SW (en nv) w0 blk off d' w'∧PermIn 0 d.size d d'∧Srt ky 0 d.size d':=by
 have mixed:=L.mixed;have t0:=L.t0;have a0:=L.a0;have z0:=L.z0;have v0:=L.v0;have t3:=L.t3;have a3:=L.a3;have z3:=L.z3;have v3:=L.v3;have t4:=L.t4;have a4:=L.a4;have z4:=L.z4;have v4:=L.v4;have tS:=L.tS;have uS:=run_underlying L.tS;have aS:=L.aS;have zS:=L.zS;have vS:=L.vS;have tC:=L.tC;have aC:=L.aC;have zC:=L.zC;have vC:=L.vC;have tU:=L.tU;have aU:=L.aU;have zU:=L.zU;have vU:=L.vU
 have S0:Hid (SW (en nv) w0 blk off d w):=S
 have egI:∀ args w,(callFunc 125 args).run P w=.ok (.enter 125 args) w:=enters_of L.f116 (by kernel_rfl) rfl
 obtain⟨n,hn⟩:∃ n,d.size=n:=⟨_,rfl⟩
 have HN:=Lib.hid hn
 have CI:Hid (∀ (x y:Nat) (dk:Array Nat) (W:World),dk.size=d.size→SW (en nv) w0 blk off dk W→x≤y→y≤n→Tks x y dk→Calls P 125 #[.slice (some ⟨blk,off,none⟩) n cap,.int .i64 (x:Int),.int .i64 (y:Int),.func (.func g) #[] cb] W fun e w'=>e=.returned (.tuple #[])∧∃ d',SW (en nv) w0 blk off d' w'∧PermIn x y dk d'∧Srt ky x y d'):=Lib.hid (fun x y dk W i1 i2 i3 i4 i5=>by
  rw[←hn,←i1]
  exact insert_gen L blk off cap x y d0 dk w0 W g cb eg hcmp R (by omega) i2 i3 (by omega) (by omega) i5)
 have HT:Hid (Tks 0 n d):=Lib.hid (by rw[←hn];exact ht)
 have HDS:Hid (d.size=n):=HN
 rw[hn]
 rw[hn] at hsz
 clear S hcmp ht hn hs R
 go_enter L.f91,Tryz.ntmps105
 have h20:¬(20:Int)≤(n:Int):=by omega
 have h20':¬(20:Int)<(n:Int):=by omega
 have CA:=CI.out 0 n d w rfl S0.out (Nat.zero_le _) (Nat.le_refl _) HT.out
 rw[show ((0:Nat):Int)=0 from rfl] at CA
 go_wp2
 go_loopg [7,8] 5 (fun gg s7 s8 wr=>s7=.int .i64 0∧s8=.int .i64 20∧wr=w)
 case atStart=>exact⟨rfl,rfl,rfl⟩
 case round =>
  obtain⟨rfl,rfl,rfl⟩:=hrel
  go_wp2_with (go_at_call 125;refine CA.mono ?_;rintro e w2 ⟨rfl,d1,s2,p2,r2⟩;have S2:=Lib.hid s2;have P2:=Lib.hid p2;have R2:=Lib.hid r2;clear s2 p2 r2)
  go_loopg [6,7,8,9] 5 (fun gg s6 s7 s8 s9 wr=>∃ v7 v8 v9,s6=.int .i64 20∧s7=v7∧s8=v8∧s9=v9∧wr=w2)
  case atStart=>exact⟨_,_,_,rfl,rfl,rfl,rfl,rfl⟩
  case round =>
   obtain⟨v7,v8,v9,rfl,h7,h8,h9,rfl⟩:=hrel
   go_wp2
   go_end0
   exact⟨rfl,d1,S2.out,P2.out,R2.out⟩
theorem stable19 : StableTo 19:=fun _ _ blk off cap d0 d w0 w g cb eg hc R hs S h ht=>stable_small slI blk off cap d0 d w0 w g cb eg hc R hs S h ht
end Go.Proofs.YtikcigjbhohboaaGreat.pls
end
