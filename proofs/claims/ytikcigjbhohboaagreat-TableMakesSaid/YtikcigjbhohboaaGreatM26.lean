/- Part 26 of a proof: PaM1 PaS1 PaS2. -/
import Derived.Shelf.SlSortCmp.KitK
import Derived.Shelf.SlSortCmp.QuietGrown
import Derived.Test.YtikcigjbhohboaaGreatM15
import Derived.Test.YtikcigjbhohboaaGreatM23
section
namespace Go.Proofs.YtikcigjbhohboaaGreat.pln
open Go.Sort
def ltp (x y:Pt):Prop:=x.p.de<y.p.de∨x.p.de=y.p.de∧x.i<y.i
theorem ltp.trans {x y z:Pt} (h:ltp x y) (k:ltp y z):ltp x z:=by unfold ltp at *;omega
theorem ltp.le {x y:Pt} (h:ltp x y):x.p.de≤y.p.de:=by unfold ltp at h;omega
def cmpP (x y:Pt):Int:=if x.p.de<y.p.de then -1 else if y.p.de<x.p.de then 1 else 0
theorem cmpP_lt (x y:Pt):cmpP x y<0 ↔ x.p.de<y.p.de:=by
 unfold cmpP
 by_cases h:x.p.de<y.p.de
 ·simp[h]
 ·by_cases h2:y.p.de<x.p.de <;> simp[h,h2]
def Srt (a b:Nat) (d:Array Pt):Prop:=∀ i j,a≤i→i<j→j<b→ltp d[i]! d[j]!
def Bfo (a m b:Nat) (d:Array Pt):Prop:=∀ i j,a≤i→i<m→m≤j→j<b→d[i]!.i<d[j]!.i
def Tks (a b:Nat) (d:Array Pt):Prop:=∀ i j,a≤i→i<j→j<b→d[i]!.i<d[j]!.i
theorem perm_pairs {a m b:Nat} {d d' d'':Array Pt} {R:Pt→Pt→Prop} (_:a≤m) (_:m≤b) (hb:b≤d.size) (h1:PermIn a m d d') (h2:PermIn m b d' d'') (h:∀ i j,a≤i→i<m→m≤j→j<b→R d[i]! d[j]!):∀ i j,a≤i→i<m→m≤j→j<b→R d''[i]! d''[j]! := by
 have hs1:=h1.1
 intro i j hi hi' hj hj'
 have e1:d''[i]! = d'[i]! := h2.2.1 i (.inl hi')
 have key:∀ j,m≤j→j<b→R d'[i]! d'[j]! := fun j hj hj'=>by
  have e2:d'[j]! = d[j]! := h1.2.1 j (.inr hj)
  rw[e2]
  exact permIn_all d d' a m (fun x=>R x d[j]!) (by omega) h1 (fun k hk hk'=>h k j hk hk' hj hj') i hi hi'
 rw[e1]
 exact permIn_all d' d'' m b (fun y=>R d'[i]! y) (by omega) h2 key j hj hj'
structure Ins (a j i:Nat) (d:Array Pt):Prop where
 oth:∀ p q,a≤p→p<q→q≤i→p≠j→q≠j→ltp d[p]! d[q]!
 beh:∀ q,j<q→q≤i→ltp d[j]! d[q]!
 tsk:∀ p,a≤p→p≤i→p≠j→d[p]!.i<d[j]!.i
theorem Ins.start {a i:Nat} {d dk:Array Pt} (_:a≤i) (hi:i<d.size) (hp:PermIn a i d dk) (hs:Srt a i dk) (ht:Tks a (i+1) d):Ins a i i dk:=by
 refine⟨fun p q h1 h2 h3 h4 h5=>hs p q h1 h2 (by omega),fun q h1 h2=>by omega,fun p h1 h2 h3=>?_⟩
 have e:dk[i]! = d[i]! := hp.2.1 i (.inr (Nat.le_refl _))
 rw[e]
 exact permIn_all d dk a i (fun x=>x.i<d[i]!.i) (by omega) hp (fun k hk hk'=>ht k i hk hk' (by omega)) p h1 (by omega)
theorem Ins.step {a j i:Nat} {d:Array Pt} (h:Ins a (j+1) i d) (haj:a≤j) (hji:j+1≤i) (hi:i<d.size) (hc:d[j+1]!.p.de<d[j]!.p.de):Ins a j i (swp d (j+1) j):=by
 have g:=swp_get d (i:=j+1) (j:=j) (by omega) (by omega)
 have gj:(swp d (j+1) j)[j]! = d[j+1]! := by rw[g j];simp
 have gj1:(swp d (j+1) j)[j+1]! = d[j]! := by rw[g (j+1)];simp
 have go:∀ k,k≠j→k≠j+1→(swp d (j+1) j)[k]! = d[k]! := fun k h1 h2=>by rw[g k];simp[h1,h2]
 refine⟨fun p q h1 h2 h3 h4 h5=>?_,fun q h1 h2=>?_,fun p h1 h2 h3=>?_⟩
 ·by_cases ep:p=j+1
  ·subst ep
   rw[gj1,go q (by omega) (by omega)]
   exact h.oth j q haj (by omega) h3 (by omega) (by omega)
  ·rw[go p h4 ep]
   by_cases eq:q=j+1
   ·subst eq;rw[gj1];exact h.oth p j h1 (by omega) (by omega) ep (by omega)
   ·rw[go q h5 eq];exact h.oth p q h1 h2 h3 ep eq
 ·rw[gj]
  by_cases eq:q=j+1
  ·subst eq;rw[gj1];exact .inl hc
  ·rw[go q (by omega) eq];exact h.beh q (by omega) h2
 ·rw[gj]
  by_cases ep:p=j+1
  ·subst ep;rw[gj1];exact h.tsk j haj (by omega) (by omega)
  ·rw[go p h3 ep];exact h.tsk p h1 h2 ep
theorem Ins.stop {a j i:Nat} {d:Array Pt} (h:Ins a j i d) (hji:j≤i) (hc:a<j→d[j-1]!.p.de≤d[j]!.p.de):Srt a (i+1) d:=by
 intro p q h1 h2 h3
 by_cases ep:p=j
 ·subst ep;exact h.beh q h2 (by omega)
 ·by_cases eq:q=j
  ·subst eq
   have hlast:ltp d[q-1]! d[q]! := by
    have:=hc (by omega)
    have:=h.tsk (q-1) (by omega) (by omega) (by omega)
    unfold ltp;omega
   by_cases e:p=q-1
   ·subst e;exact hlast
   ·exact(h.oth p (q-1) h1 (by omega) (by omega) ep (by omega)).trans hlast
  ·exact h.oth p q h1 h2 (by omega) ep eq
structure Mv1 (a k:Nat) (d dk:Array Pt):Prop where
 lo:∀ p,a≤p→p<k→dk[p]! = d[p+1]!
 at_:dk[k]! = d[a]!
 hi:∀ p,k<p→dk[p]! = d[p]!
theorem Mv1.start (a:Nat) (d:Array Pt):Mv1 a a d d:=⟨fun p h1 h2=>by omega,rfl,fun _ _=>rfl⟩
theorem Mv1.step {a k:Nat} {d dk:Array Pt} (h:Mv1 a k d dk) (hak:a≤k) (hs:k+1<dk.size):Mv1 a (k+1) d (swp dk k (k+1)):=by
 have g:=swp_get dk (i:=k) (j:=k+1) (by omega) hs
 refine⟨fun p h1 h2=>?_,by rw[g (k+1)];simp[h.at_],fun p hp=>by rw[g p,if_neg (by omega),if_neg (by omega)];exact h.hi p (by omega)⟩
 rw[g p,if_neg (by omega)]
 by_cases e:p=k
 ·subst e;simp;exact h.hi _ (by omega)
 ·rw[if_neg e];exact h.lo p h1 (by omega)
theorem Mv1.done {a i b:Nat} {d dk:Array Pt} (h:Mv1 a (i-1) d dk) (hai:a+1≤i) (hib:i≤b) (hs:Srt (a+1) b d) (hb:Bfo a (a+1) b d) (hl:∀ k,a+1≤k→k<i→d[k]!.p.de<d[a]!.p.de) (hh:∀ k,i≤k→k<b→d[a]!.p.de≤d[k]!.p.de):Srt a b dk:=by
 intro p q h1 h2 h3
 by_cases ep:p<i-1
 ·rw[h.lo p h1 ep]
  by_cases eq:q<i-1
  ·rw[h.lo q (by omega) eq];exact hs _ _ (by omega) (by omega) (by omega)
  ·by_cases e:q=i-1
   ·rw[e,h.at_];exact .inl (hl _ (by omega) (by omega))
   ·rw[h.hi q (by omega)];exact hs _ _ (by omega) (by omega) h3
 ·by_cases e:p=i-1
  ·rw[e,h.at_,h.hi q (by omega)]
   have:=hh q (by omega) h3
   have:=hb a q (Nat.le_refl _) (by omega) (by omega) h3
   unfold ltp;omega
  ·rw[h.hi p (by omega),h.hi q (by omega)];exact hs _ _ (by omega) h2 h3
structure Mv2 (m k:Nat) (d dk:Array Pt):Prop where
 hi:∀ p,k<p→p≤m→dk[p]! = d[p-1]!
 at_:dk[k]! = d[m]!
 lo:∀ p,p<k→dk[p]! = d[p]!
theorem Mv2.start (m:Nat) (d:Array Pt):Mv2 m m d d:=⟨fun p h1 h2=>by omega,rfl,fun _ _=>rfl⟩
theorem Mv2.step {m k:Nat} {d dk:Array Pt} (h:Mv2 m (k+1) d dk) (_:k+1≤m) (hs:k+1<dk.size):Mv2 m k d (swp dk (k+1) k):=by
 have g:=swp_get dk (i:=k+1) (j:=k) hs (by omega)
 refine⟨fun p h1 h2=>?_,by rw[g k];simp[h.at_],fun p hp=>by rw[g p,if_neg (by omega),if_neg (by omega)];exact h.lo p (by omega)⟩
 rw[g p,if_neg (by omega)]
 by_cases e:p=k+1
 ·subst e;simp;exact h.lo _ (by omega)
 ·rw[if_neg e];exact h.hi p (by omega) h2
theorem Mv2.done {a i m:Nat} {d dk:Array Pt} (h:Mv2 m i d dk) (hai:a≤i) (him:i≤m) (hs:Srt a m d) (hb:Bfo a m (m+1) d) (hl:∀ k,a≤k→k<i→d[k]!.p.de≤d[m]!.p.de) (hh:∀ k,i≤k→k<m→d[m]!.p.de<d[k]!.p.de):Srt a (m+1) dk:=by
 intro p q h1 h2 h3
 by_cases eq:i<q
 ·rw[h.hi q eq (by omega)]
  by_cases ep:i<p
  ·rw[h.hi p ep (by omega)];exact hs _ _ (by omega) (by omega) (by omega)
  ·by_cases e:p=i
   ·rw[e,h.at_];exact .inl (hh _ (by omega) (by omega))
   ·rw[h.lo p (by omega)];exact hs _ _ h1 (by omega) (by omega)
 ·by_cases e:q=i
  ·rw[e,h.at_,h.lo p (by omega)]
   have:=hl p h1 (by omega)
   have:=hb p m h1 (by omega) (Nat.le_refl _) (by omega)
   unfold ltp;omega
  ·rw[h.lo p (by omega),h.lo q (by omega)];exact hs _ _ h1 h2 (by omega)
def rot (f:Nat→Pt) (lo m hi k:Nat):Pt:=if k<lo then f k else if k<lo+(hi-m) then f (k-lo+m) else if k<hi then f (k-(hi-m)) else f k
theorem rot_lo {f:Nat→Pt} {lo m hi k:Nat} (h:k<lo):rot f lo m hi k=f k:=by unfold rot;rw[if_pos h]
theorem rot_a {f:Nat→Pt} {lo m hi k:Nat} (h:lo≤k) (h':k<lo+(hi-m)):rot f lo m hi k=f (k-lo+m):=by unfold rot;rw[if_neg (by omega),if_pos h']
theorem rot_b {f:Nat→Pt} {lo m hi k:Nat} (h:lo+(hi-m)≤k) (h':k<hi):rot f lo m hi k=f (k-(hi-m)):=by unfold rot;rw[if_neg (by omega),if_neg (by omega),if_pos h']
theorem rot_hi {f:Nat→Pt} {lo m hi k:Nat} (hl:lo≤m) (hm:m≤hi) (h:hi≤k):rot f lo m hi k=f k:=by unfold rot;rw[if_neg (by omega),if_neg (by omega),if_neg (by omega)]
theorem rot_none {f:Nat→Pt} {lo m hi k:Nat} (h:lo=m∨m=hi) (hl:lo≤m) (hm:m≤hi):rot f lo m hi k=f k:=by
 unfold rot
 split
 ·rfl
 ·split
  ·congr 1;omega
  ·split
   ·congr 1;omega
   ·rfl
def swR (d:Array Pt) (p q:Nat):Nat→Array Pt
 | 0=>d
 | n+1=>swp (swR d p q n) (p+n) (q+n)
theorem swR_size (d:Array Pt) (p q:Nat):∀ n,(swR d p q n).size=d.size
 | 0=>rfl
 | n+1=>by rw[swR,size_swp,swR_size d p q n]
def exR (f:Nat→Pt) (p q n k:Nat):Pt:=if p≤k∧k<p+n then f (k-p+q) else if q≤k∧k<q+n then f (k-q+p) else f k
theorem swR_get {d:Array Pt} {p q:Nat}:∀ {n:Nat},p+n≤q→q+n≤d.size→∀ k,(swR d p q n)[k]! = exR (fun k=>d[k]!) p q n k
 | 0,_,_,k=>by unfold swR exR;rw[if_neg (by omega),if_neg (by omega)]
 | n+1,h1,h2,k=>by
  have ih:=fun k=>swR_get (d:=d) (p:=p) (q:=q) (n:=n) (by omega) (by omega) k
  have hs:(swR d p q n).size=d.size:=swR_size d p q n
  rw[swR,swp_get _ (by rw[hs];omega) (by rw[hs];omega)]
  rw[ih,ih,ih]
  unfold exR
  repeat' split
  all_goals first
   | rfl
   | (congr 1;omega)
   | (exfalso;omega)
theorem swR_perm {d:Array Pt} {p q a b:Nat}:∀ {n:Nat},a≤p→p+n≤q→q+n≤b→b≤d.size→PermIn a b d (swR d p q n)
 | 0,_,_,_,_=>permIn_refl _ _ _
 | n+1,h0,h1,h2,h3=>by
  have ih:=swR_perm (d:=d) (p:=p) (q:=q) (a:=a) (b:=b) (n:=n) h0 (by omega) (by omega) h3
  exact permIn_trans _ _ _ _ _ ih (swp_permIn _ _ _ _ _ (by omega) (by omega) (by omega) (by omega) (by rw[swR_size];exact h3))
theorem rot_left {f:Nat→Pt} {m i j k:Nat} (hij:j<i) (him:i≤m):rot (exR f (m-i) m j) (m-(i-j)) m (m+j) k=rot f (m-i) m (m+j) k:=by
 unfold rot exR
 repeat' split
 all_goals first
  | rfl
  | (congr 1;omega)
  | (exfalso;omega)
theorem rot_right {f:Nat→Pt} {m i j k:Nat} (hij:i<j) (him:i≤m):rot (exR f (m-i) (m+j-i) i) (m-i) m (m+(j-i)) k=rot f (m-i) m (m+j) k:=by
 unfold rot exR
 repeat' split
 all_goals first
  | rfl
  | (congr 1;omega)
  | (exfalso;omega)
theorem rot_same {f:Nat→Pt} {m i k:Nat} (him:i≤m):exR f (m-i) m i k=rot f (m-i) m (m+i) k:=by
 unfold rot exR
 repeat' split
 all_goals first
  | rfl
  | (congr 1;omega)
  | (exfalso;omega)
end Go.Proofs.YtikcigjbhohboaaGreat.pln
end
section
namespace Go.Proofs.YtikcigjbhohboaaGreat.pln
open Go.ChangeShapes Go.WideShapes Go.ChangeAt Go.RowKit Go.Deep val Go.Sort Go.Shelf
structure SlP (P:Program) (k:Nat):Prop where
 mixed:P.follows .mixedOrders=true
 f91:P.funcs[143]? = some Tryz.f143
 f116:P.funcs[162]? = some Tryz.f162
 f117:P.funcs[163]? = some Tryz.f163
 f134:P.funcs[185]? = some Tryz.f185
 f151:P.funcs[201]? = some Tryz.f201
 aE:∀ w,(isAgg 130).run P w=.ok true w
 zE:∀ w,(Go.sizeOf 130).run P w=.ok k w
 t0:P.underlying 0=some (TypeDesc.tuple #[])
 a0:∀ w,(isAgg 0).run P w=.ok false w
 z0:∀ w,(Go.sizeOf 0).run P w=.ok 1 w
 v0:∀ w,(zeroValue 0).run P w=.ok (Value.tuple #[]) w
 t3:P.underlying 3=some (TypeDesc.int IntKind.i64)
 a3:∀ w,(isAgg 3).run P w=.ok false w
 z3:∀ w,(Go.sizeOf 3).run P w=.ok 1 w
 v3:∀ w,(zeroValue 3).run P w=.ok (Value.int IntKind.i64 0) w
 t4:P.underlying 4=some (TypeDesc.bool)
 a4:∀ w,(isAgg 4).run P w=.ok false w
 z4:∀ w,(Go.sizeOf 4).run P w=.ok 1 w
 v4:∀ w,(zeroValue 4).run P w=.ok (Value.bool false) w
 tS:P.underlying 182=some (TypeDesc.slice 130)
 aS:∀ w,(isAgg 182).run P w=.ok false w
 zS:∀ w,(Go.sizeOf 182).run P w=.ok 1 w
 vS:∀ w,(zeroValue 182).run P w=.ok (Value.slice none 0 0) w
 tC:P.underlying 184=some (TypeDesc.func #[130,130] #[3] false)
 aC:∀ w,(isAgg 184).run P w=.ok false w
 zC:∀ w,(Go.sizeOf 184).run P w=.ok 1 w
 vC:∀ w,(zeroValue 184).run P w=.ok Value.nilFunc w
 tU:P.underlying 109=some (TypeDesc.int IntKind.u64)
 aU:∀ w,(isAgg 109).run P w=.ok false w
 zU:∀ w,(Go.sizeOf 109).run P w=.ok 1 w
 vU:∀ w,(zeroValue 109).run P w=.ok (Value.int IntKind.u64 0) w
theorem slP : SlP Tryz.prog 10 where
 mixed:=by kernel_rfl
 f91:=Tryz.func143
 f116:=Tryz.func162
 f117:=Tryz.func163
 f134:=Tryz.func185
 f151:=Tryz.func201
 aE:=Tryz.isAgg130
 zE:=Tryz.sizeOf130
 t0:=Tryz.underlying0
 a0:=Tryz.isAgg0
 z0:=Tryz.sizeOf0
 v0:=Tryz.zeroValue0
 t3:=Tryz.underlying3
 a3:=Tryz.isAgg3
 z3:=Tryz.sizeOf3
 v3:=Tryz.zeroValue3
 t4:=Tryz.underlying4
 a4:=Tryz.isAgg4
 z4:=Tryz.sizeOf4
 v4:=Tryz.zeroValue4
 tS:=Tryz.underlying182
 aS:=Tryz.isAgg182
 zS:=Tryz.sizeOf182
 vS:=Tryz.zeroValue182
 tC:=Tryz.underlying184
 aC:=Tryz.isAgg184
 zC:=Tryz.sizeOf184
 vC:=Tryz.zeroValue184
 tU:=Tryz.underlying109
 aU:=Tryz.isAgg109
 zU:=Tryz.sizeOf109
 vU:=Tryz.zeroValue109
set_option maxRecDepth 100000 in
set_option maxHeartbeats 4000000 in
theorem swapR_gen {P:Program} {K:Nat} {enc:Pt→List Value} (L:SlP P K) (blk off cap p q n:Nat) (d0 d:Array Pt) (w0 w:World) (fv:Value) (R:RowK enc K w0 blk off d0) (hs:d0.size=d.size) (S:SWK enc K w0 blk off d w) (hp:p+n≤d.size) (hq:q+n≤d.size) (hsz:d.size≤1000) :
  Calls P 201 #[.slice (some ⟨blk,off,none⟩) d.size cap,.int .i64 (p:Int),.int .i64 (q:Int),.int .i64 (n:Int),fv] w fun e w'=>e=.returned (.tuple #[])∧SWK enc K w0 blk off (swR d p q n) w':=by
 have mixed:=L.mixed;have aE:=L.aE;have zE:=L.zE;have uS:=run_underlying L.tS;have t0:=L.t0;have a0:=L.a0;have z0:=L.z0;have v0:=L.v0;have t3:=L.t3;have a3:=L.a3;have z3:=L.z3;have v3:=L.v3;have t4:=L.t4;have a4:=L.a4;have z4:=L.z4;have v4:=L.v4;have tS:=L.tS;have aS:=L.aS;have zS:=L.zS;have vS:=L.vS;have tC:=L.tC;have aC:=L.aC;have zC:=L.zC;have vC:=L.vC;have tU:=L.tU;have aU:=L.aU;have zU:=L.zU;have vU:=L.vU
 have S0:Hid (SWK enc K w0 blk off d w):=S
 clear S
 go_enter L.f151,Tryz.ntmps201
 go_wp2
 go_loopw [10] (fun i wr=>∃ k:Nat,k≤n∧i=.int .i64 (k:Int)∧Hid (SWK enc K w0 blk off (swR d p q k) wr)) (fun i _=>n-(intOf i).toNat)
 case atStart=>exact⟨0,by omega,rfl,S0.out⟩
 case round =>
  clear S0
  obtain⟨k,hk,rfl,S1⟩:=hrel
  have hk0:(0:Int)≤(k:Int):=Int.natCast_nonneg k
  by_cases hkn:k<n
  ·have b1:decide ((k:Int)<(n:Int))=true:=by simp;omega
   have hkn2:(k:Int)<(n:Int):=by omega
   obtain⟨dk,hdk⟩:∃ dk,swR d p q k=dk:=⟨_,rfl⟩
   have hds:dk.size=d.size:=by rw[←hdk];exact swR_size d p q k
   have HSW:Hid (swR d p q (k+1)=swp dk (p+k) (q+k)):=Lib.hid (by rw[swR,hdk])
   rw[hdk] at S1
   obtain⟨i,hi⟩:∃ i,p+k=i:=⟨_,rfl⟩
   obtain⟨j,hj⟩:∃ j,q+k=j:=⟨_,rfl⟩
   rw[hi,hj] at HSW
   have S2:Hid (SWK enc K w0 blk off (swp dk i j) ((wr.drew.setCells blk (off+i*K) (enc dk[j]!)).setCells blk (off+j*K) (enc dk[i]!))):=S1.out.swapped R i j (by omega) (by omega)
   have l44a:=S1.out.ld1 R (by omega) P i (by omega)
   have l44b:=S1.out.ld1 R (by omega) P j (by omega)
   have s44a:=S1.out.st1 R (by omega) P i (by omega) dk[j]!
   have s44b:=S1.out.st2 R (by omega) P i j (by omega) (by omega) dk[j]! dk[i]!
   have n44a:(enc dk[i]!).length=K:=R.hk _
   have n44b:(enc dk[j]!).length=K:=R.hk _
   generalize enc dk[i]! = cI44 at S2 l44a s44b n44a
   generalize enc dk[j]! = cJ44 at S2 l44b s44a s44b n44b
   have e1:(p:Int)+(k:Int)=(i:Int):=by omega
   have e2:(q:Int)+(k:Int)=(j:Int):=by omega
   have e3:IntKind.i64.wrap ((p:Int)+(k:Int))=(i:Int):=by rw[e1,IntKind.wrap_i64];omega
   have e4:IntKind.i64.wrap ((q:Int)+(k:Int))=(j:Int):=by rw[e2,IntKind.wrap_i64];omega
   have e5:IntKind.i64.wrap (i:Int)=(i:Int):=by rw[IntKind.wrap_i64];omega
   have e6:IntKind.i64.wrap (j:Int)=(j:Int):=by rw[IntKind.wrap_i64];omega
   have f1:(i:Int)<(d.size:Int):=by omega
   have f2:(j:Int)<(d.size:Int):=by omega
   have f3:(0:Int)≤(i:Int):=by omega
   have f4:(0:Int)≤(j:Int):=by omega
   clear S1 hdk hi hj e1 e2
   go_wp2_with fail
   go_big_region_o
   clear l44a l44b s44a s44b
   generalize (wr.drew.setCells blk (off+i*K) cJ44).setCells blk (off+j*K) cI44=w2 at S2 ⊢
   go_wp2
   go_roundw
   case rel=>exact⟨k+1,by omega,by go_num,by rw[HSW.out];exact S2.out⟩
   case measure=>simp[intOf];omega
  ·have hkn9:k=n:=by omega
   have b1:decide ((k:Int)<(n:Int))=false:=by simp;omega
   subst hkn9
   go_wp2
   go_end0
   exact⟨rfl,S1.out⟩
end Go.Proofs.YtikcigjbhohboaaGreat.pln
end
section
namespace Go.Proofs.YtikcigjbhohboaaGreat.pln
open Go.Lib (hid)
open Go.ChangeShapes Go.WideShapes Go.ChangeAt Go.RowKit Go.Deep val Go.Sort Go.Shelf
set_option maxRecDepth 100000 in
set_option maxHeartbeats 4000000 in
theorem rotate_gen {P:Program} {K:Nat} {enc:Pt→List Value} (L:SlP P K) (blk off cap a m b:Nat) (d0 d:Array Pt) (w0 w:World) (fv:Value) (R:RowK enc K w0 blk off d0) (hs:d0.size=d.size) (S:SWK enc K w0 blk off d w) (ham:a<m) (hmb:m<b) (hb:b≤d.size) (hsz:d.size≤1000) :
  Calls P 185 #[.slice (some ⟨blk,off,none⟩) d.size cap,.int .i64 (a:Int),.int .i64 (m:Int),.int .i64 (b:Int),fv] w fun e w'=>e=.returned (.tuple #[])∧∃ d',SWK enc K w0 blk off d' w'∧PermIn a b d d'∧∀ k,d'[k]! = rot (fun k=>d[k]!) a m b k:=by
 have mixed:=L.mixed;have aE:=L.aE;have zE:=L.zE;have uS:=run_underlying L.tS;have t0:=L.t0;have a0:=L.a0;have z0:=L.z0;have v0:=L.v0;have t3:=L.t3;have a3:=L.a3;have z3:=L.z3;have v3:=L.v3;have t4:=L.t4;have a4:=L.a4;have z4:=L.z4;have v4:=L.v4;have tS:=L.tS;have aS:=L.aS;have zS:=L.zS;have vS:=L.vS;have tC:=L.tC;have aC:=L.aC;have zC:=L.zC;have vC:=L.vC;have tU:=L.tU;have aU:=L.aU;have zU:=L.zU;have vU:=L.vU
 have S0:Hid (SWK enc K w0 blk off d w):=S
 have eg:∀ args w,(callFunc 201 args).run P w=.ok (.enter 201 args) w:=enters_of L.f151 (by kernel_rfl) rfl
 have CS:Hid (∀ (p q n:Nat) (dk:Array Pt) (W:World),dk.size=d.size→SWK enc K w0 blk off dk W→p+n≤d.size→q+n≤d.size→Calls P 201 #[.slice (some ⟨blk,off,none⟩) d.size cap,.int .i64 (p:Int),.int .i64 (q:Int),.int .i64 (n:Int),fv] W fun e w'=>e=.returned (.tuple #[])∧SWK enc K w0 blk off (swR dk p q n) w'):=hid (fun p q n dk W h1 h2 h3 h4=>by
  rw[←h1]
  exact swapR_gen L blk off cap p q n d0 dk w0 W fv R (by omega) h2 (by omega) (by omega) (by omega))
 clear S R hs
 go_enter L.f134,Tryz.ntmps185
 go_wp2
 go_loopg [10,11] (b-a) (fun g s10 s11 wr=>∃ (i j:Nat) (dk:Array Pt),s10=.int .i64 (i:Int)∧s11=.int .i64 (j:Int)∧0<i∧0<j∧i≤m-a∧j≤b-m∧i+j≤g∧dk.size=d.size∧Hid (SWK enc K w0 blk off dk wr)∧Hid (PermIn a b d dk)∧Hid (∀ k,rot (fun k=>dk[k]!) (m-i) m (m+j) k=rot (fun k=>d[k]!) a m b k))
 case atStart =>
  refine⟨m-a,b-m,d,by go_num,by go_num,by omega,by omega,Nat.le_refl _,Nat.le_refl _,by omega,rfl,S0.out,permIn_refl _ _ _,fun k=>?_⟩
  rw[show m-(m-a)=a by omega,show m+(b-m)=b by omega]
 case round =>
  clear S0
  obtain⟨i,j,dk,rfl,rfl,hi0,hj0,him,hjm,hij,hds,S1,HP,HR⟩:=hrel
  have i0:(0:Int)<(i:Int):=by omega
  have j0:(0:Int)<(j:Int):=by omega
  by_cases e:i=j
  ·subst e
   have q1:((i:Int) != (i:Int))=false:=by simp
   have e1:(m:Int)-(i:Int)=((m-i:Nat):Int):=by omega
   have HF:Hid (∀ w',SWK enc K w0 blk off (swR dk (m-i) m i) w'→∃ d',SWK enc K w0 blk off d' w'∧PermIn a b d d'∧∀ k,d'[k]! = rot (fun k=>d[k]!) a m b k):=hid (fun w' h=>⟨_,h,permIn_trans _ _ _ _ _ HP.out (swR_perm (by omega) (by omega) (by omega) (by omega)),fun k=>by
    rw[swR_get (by omega) (by omega),rot_same (by omega),HR.out]⟩)
   have CA:=CS.out (m-i) m i dk wr hds S1.out (by omega) (by omega)
   generalize m-i=x at e1 CA HF
   go_wp2_with (go_at_call 201;refine CA.mono ?_;rintro e w2 ⟨rfl,h2⟩;have H2:=hid h2;clear h2)
   go_end0
   exact⟨rfl,HF.out _ H2.out⟩
  ·have q1:((i:Int) != (j:Int))=true:=by simp;omega
   have e1:(m:Int)-(i:Int)=((m-i:Nat):Int):=by omega
   by_cases hlt:j<i
   ·have q2:decide ((j:Int)<(i:Int))=true:=by simp;omega
    have hlt2:(j:Int)<(i:Int):=by omega
    have HN:Hid (∀ w',SWK enc K w0 blk off (swR dk (m-i) m j) w'→∃ d1,d1.size=d.size∧SWK enc K w0 blk off d1 w'∧PermIn a b d d1∧∀ k,rot (fun k=>d1[k]!) (m-(i-j)) m (m+j) k=rot (fun k=>d[k]!) a m b k):=hid (fun w' h=>by
     refine⟨_,by rw[swR_size];exact hds,h,permIn_trans _ _ _ _ _ HP.out (swR_perm (by omega) (by omega) (by omega) (by omega)),fun k=>?_⟩
     rw[←HR.out k,←rot_left (f:=fun k=>dk[k]!) (k:=k) hlt (by omega)]
     congr 1
     funext k
     exact swR_get (by omega) (by omega) k)
    have e2:(i:Int)-(j:Int)=((i-j:Nat):Int):=by omega
    have CA:=CS.out (m-i) m j dk wr hds S1.out (by omega) (by omega)
    generalize m-i=x at e1 CA HN
    go_wp2_with (go_at_call 201;refine CA.mono ?_;rintro e w2 ⟨rfl,h2⟩;obtain⟨d1,hd1,h3,h4,h5⟩:=HN.out _ h2;have H3:=hid h3;have H4:=hid h4;have H5:=hid h5;clear h2 h3 h4 h5)
    go_roundg (i-j+j)
    case measure=>omega
    case rel=>exact⟨i-j,j,d1,rfl,rfl,by omega,hj0,by omega,hjm,Nat.le_refl _,hd1,H3.out,H4.out,H5.out⟩
   ·have q2:decide ((j:Int)<(i:Int))=false:=by simp;omega
    have hlt2:¬(j:Int)<(i:Int):=by omega
    have hlt3:i<j:=by omega
    have HN:Hid (∀ w',SWK enc K w0 blk off (swR dk (m-i) (m+j-i) i) w'→∃ d1,d1.size=d.size∧SWK enc K w0 blk off d1 w'∧PermIn a b d d1∧∀ k,rot (fun k=>d1[k]!) (m-i) m (m+(j-i)) k=rot (fun k=>d[k]!) a m b k):=hid (fun w' h=>by
     refine⟨_,by rw[swR_size];exact hds,h,permIn_trans _ _ _ _ _ HP.out (swR_perm (by omega) (by omega) (by omega) (by omega)),fun k=>?_⟩
     rw[←HR.out k,←rot_right (f:=fun k=>dk[k]!) (k:=k) hlt3 (by omega)]
     congr 1
     funext k
     exact swR_get (by omega) (by omega) k)
    have e2:(j:Int)-(i:Int)=((j-i:Nat):Int):=by omega
    have e3:(m:Int)+(j:Int)-(i:Int)=((m+j-i:Nat):Int):=by omega
    have CA:=CS.out (m-i) (m+j-i) i dk wr hds S1.out (by omega) (by omega)
    obtain⟨x,hx⟩:∃ x,m-i=x:=⟨_,rfl⟩
    have HXE:=hid hx
    rw[hx] at e1 CA HN
    clear hx
    generalize m+j-i=y at e3 CA HN
    go_wp2_with (go_at_call 201;refine CA.mono ?_;rintro e w2 ⟨rfl,h2⟩;obtain⟨d1,hd1,h3,h4,h5⟩:=HN.out _ h2;have H3:=hid h3;have H4:=hid h4;have H5:=hid h5;clear h2 h3 h4 h5)
    go_roundg (i+(j-i))
    case measure=>omega
    case rel=>exact⟨i,j-i,d1,rfl,rfl,hi0,by omega,him,by omega,Nat.le_refl _,hd1,H3.out,H4.out,by rw[HXE.out];exact H5.out⟩
set_option maxRecDepth 100000 in
set_option maxHeartbeats 4000000 in
theorem insert_gen {P:Program} {K:Nat} {enc:Pt→List Value} (L:SlP P K) (blk off cap a b:Nat) (d0 d:Array Pt) (w0 w:World) (g:Nat) (cb:Array Value) (eg:∀ args w,(callFunc g args).run P w=.ok (.enter g args) w) (hcmp:CmpLays P g cb enc K cmpP blk off d0.size w0)
  (R:RowK enc K w0 blk off d0) (hs:d0.size=d.size) (S:SWK enc K w0 blk off d w) (hab:a≤b) (hb:b≤d.size) (hsz:d.size≤1000) (ht:Tks a b d) :
  Calls P 162 #[.slice (some ⟨blk,off,none⟩) d.size cap,.int .i64 (a:Int),.int .i64 (b:Int),.func (.func g) #[] cb] w fun e w'=>e=.returned (.tuple #[])∧∃ d',SWK enc K w0 blk off d' w'∧PermIn a b d d'∧Srt a b d':=by
 have mixed:=L.mixed;have aE:=L.aE;have zE:=L.zE;have uS:=run_underlying L.tS;have t0:=L.t0;have a0:=L.a0;have z0:=L.z0;have v0:=L.v0;have t3:=L.t3;have a3:=L.a3;have z3:=L.z3;have v3:=L.v3;have t4:=L.t4;have a4:=L.a4;have z4:=L.z4;have v4:=L.v4;have tS:=L.tS;have aS:=L.aS;have zS:=L.zS;have vS:=L.vS;have tC:=L.tC;have aC:=L.aC;have zC:=L.zC;have vC:=L.vC;have tU:=L.tU;have aU:=L.aU;have zU:=L.zU;have vU:=L.vU
 have S0:Hid (SWK enc K w0 blk off d w):=S
 have HC:=hid hcmp
 have HT:=hid ht
 clear S hcmp ht
 go_enter L.f116,Tryz.ntmps162
 go_wp2
 go_loopg [8] (b-a) (fun g1 vi wr=>∃ (i:Nat) (dk:Array Pt),vi=.int .i64 (i:Int)∧a<i∧i≤b+1∧b+1-i≤g1+1∧dk.size=d.size∧(b<i→b=a)∧Hid (SWK enc K w0 blk off dk wr)∧Hid (PermIn a b d dk)∧Hid (i≤b→PermIn a i d dk)∧Hid (Srt a i dk))
 case atStart=>exact⟨a+1,d,by go_num,by omega,by omega,by omega,rfl,by omega,S0.out,permIn_refl _ _ _,fun _=>permIn_refl _ _ _,fun i j h1 h2 h3=>by omega⟩
 case round =>
  clear S0
  obtain⟨i,dk,rfl,hai,hib,hg1,hsk,hbi,S1,HP,HQ,HS⟩:=hrel
  by_cases hlt:i<b
  ·have hltz:(i:Int)<(b:Int):=by omega
   have HI0:=hid (Ins.start (show a≤i by omega) (show i<d.size by omega) (HQ.out (by omega)) HS.out (fun p q h1 h2 h3=>HT.out p q h1 h2 (by omega)))
   have HP1:=hid (permIn_mono _ _ a i a (i+1) (Nat.le_refl _) (by omega) (by omega) (HQ.out (by omega)))
   go_wp2
   go_loopg [9] i (fun g2 vj wr2=>∃ (j:Nat) (dj:Array Pt),vj=.int .i64 (j:Int)∧a≤j∧j≤i∧j≤g2∧dj.size=d.size∧Hid (SWK enc K w0 blk off dj wr2)∧Hid (PermIn a (i+1) d dj)∧Hid (Ins a j i dj))
   case atStart=>exact⟨i,dk,rfl,by omega,Nat.le_refl _,Nat.le_refl _,hsk,S1.out,HP1.out,HI0.out⟩
   case round =>
    clear S1 HP HQ HS HI0 HP1
    obtain⟨j,dj,rfl,haj,hji,hg2,hsj,S1,HP,HI⟩:=hrel
    have OUT:Hid ((a<j→dj[j-1]!.p.de≤dj[j]!.p.de)→Srt a (i+1) dj):=hid (HI.out.stop hji)
    have HPB:=hid (permIn_mono _ _ a (i+1) a b (Nat.le_refl _) (by omega) (by omega) HP.out)
    by_cases hja:a<j
    ·obtain⟨jp,rfl⟩:∃ jp,j=jp+1:=⟨j-1,by omega⟩
     have hjaz:(a:Int)<(jp:Int)+1:=by omega
     have hjd:decide ((a:Int)<(jp:Int)+1)=true:=decide_eq_true hjaz
     have hwp:IntKind.i64.wrap (jp:Int)=(jp:Int):=by rw[IntKind.wrap_i64];omega
     have jz:(jp:Int)+1<(d.size:Int):=by omega
     have jz1:(jp:Int)<(d.size:Int):=by omega
     have p0:(0:Int)≤(jp:Int)+1:=by omega
     have e0:((jp:Int)+1).toNat=jp+1:=by omega
     have lj:=S1.out.ld R (by omega) P (jp+1) (by omega)
     have lp:=S1.out.ld R (by omega) P jp (by omega)
     have hcg:=fun n os=>S1.out.cmp HC.out (by omega) dj[jp+1]! dj[jp]! n os
     have SG:Hid (∀ n os,SWK enc K w0 blk off dj (grow (wr.drewN n) os)):=hid (fun n os=>S1.out.grown n os)
     have HST:Hid (dj[jp+1]!.p.de<dj[jp]!.p.de→Ins a jp i (swp dj (jp+1) jp)):=hid (fun h=>HI.out.step (by omega) hji (by omega) h)
     have HSP:Hid (PermIn a (i+1) d (swp dj (jp+1) jp)):=hid (permIn_trans _ _ _ _ _ HP.out (swp_permIn _ _ _ _ _ (by omega) (by omega) (by omega) (by omega) (by omega)))
     rw[Nat.add_sub_cancel] at OUT
     obtain⟨cf,hcf⟩:∃ cf,cmpP dj[jp+1]! dj[jp]! = cf:=⟨_,rfl⟩
     have HLT:Hid (cf<0 ↔ dj[jp+1]!.p.de<dj[jp]!.p.de):=hid (by rw[←hcf];exact cmpP_lt _ _)
     rw[hcf] at hcg
     clear hcf
     by_cases hlv:cf<0
     ·have hld:decide (cf<0)=true:=decide_eq_true hlv
      have HSS:Hid (∀ W,SWK enc K w0 blk off dj W→SWK enc K w0 blk off (swp dj (jp+1) jp) ((W.drew.setCells blk (off+(jp+1)*K) (enc dj[jp]!)).setCells blk (off+jp*K) (enc dj[jp+1]!))∧Sem.run P (loadCellsFrom ⟨blk,off+(jp+1)*K,none⟩ 0 K #[]) W.drew=.ok (enc dj[jp+1]!).toArray W.drew∧Sem.run P (loadCellsFrom ⟨blk,off+jp*K,none⟩ 0 K #[]) W.drew=.ok (enc dj[jp]!).toArray W.drew∧Sem.run P (storeCells ⟨blk,off+(jp+1)*K,none⟩ (enc dj[jp]!) 0) W.drew=.ok () (W.drew.setCells blk (off+(jp+1)*K) (enc dj[jp]!))∧Sem.run P (storeCells ⟨blk,off+jp*K,none⟩ (enc dj[jp+1]!) 0) (W.drew.setCells blk (off+(jp+1)*K) (enc dj[jp]!))=.ok () ((W.drew.setCells blk (off+(jp+1)*K) (enc dj[jp]!)).setCells blk (off+jp*K) (enc dj[jp+1]!))) :=
       hid (fun W h=>⟨h.swapped R (jp+1) jp (by omega) (by omega),h.ld1 R (by omega) P _ (by omega),h.ld1 R (by omega) P _ (by omega),h.st1 R (by omega) P _ (by omega) _,h.st2 R (by omega) P _ _ (by omega) (by omega) _ _⟩)
      have n1:(enc dj[jp+1]!).length=K:=R.hk _
      have n2:(enc dj[jp]!).length=K:=R.hk _
      generalize enc dj[jp+1]! = cJ at lj hcg HSS n1
      generalize enc dj[jp]! = cP at lp hcg HSS n2
      have HN1:=hid n1;have HN2:=hid n2
      clear n1 n2
      go_wp2_with fail
      go_quiet_grown (first | (go_at_fn g;refine Calls.grown_of (hcg _ _)))
      go_wp2_with fail
      obtain⟨S3,l1,l2,s1,s2⟩:=HSS.out _ (SG.out nq osq)
      have S4:=hid S3
      have n1:=HN1.out;have n2:=HN2.out
      clear lj lp hcg S3
      generalize grow (wr.drewN nq) osq=wq2 at S4 l1 l2 s1 s2 ⊢
      go_big_region_o
      clear l1 l2 s1 s2
      generalize (wq2.drew.setCells blk (off+(jp+1)*K) cP).setCells blk (off+jp*K) cJ=w3 at S4 ⊢
      go_wp2
      go_roundg jp
      case measure=>omega
      case rel=>exact⟨jp,swp dj (jp+1) jp,by first | rfl | go_num | (congr 1;omega),by omega,by omega,Nat.le_refl _,by rw[size_swp];exact hsj,S4.out,HSP.out,HST.out (HLT.out.1 hlv)⟩
     ·have hld:decide (cf<0)=false:=decide_eq_false hlv
      have HOS:Hid (Srt a (i+1) dj):=hid (OUT.out (fun _=>by have:=mt HLT.out.2 hlv;omega))
      generalize enc dj[jp+1]! = cJ at lj hcg
      generalize enc dj[jp]! = cP at lp hcg
      go_wp2_with fail
      go_quiet_grown (first | (go_at_fn g;refine Calls.grown_of (hcg _ _)))
      go_wp2
      go_roundg (b-(i+1))
      case measure=>omega
      case rel=>exact⟨i+1,dj,by go_num,by omega,by omega,by omega,hsj,by omega,SG.out nq osq,HPB.out,fun _=>HP.out,HOS.out⟩
    ·have hjaz:decide ((j:Int) > (a:Int))=false:=decide_eq_false (by omega)
     have hjaz':¬(a:Int)<(j:Int):=by omega
     have S2:Hid (SWK enc K w0 blk off dj wr.drew):=hid S1.out.drew
     have HOS:Hid (Srt a (i+1) dj):=hid (OUT.out (fun h=>absurd h hja))
     clear S1
     go_wp2_with fail
     go_big_region_o
     all_goals go_wp2
     go_roundg (b-(i+1))
     case measure=>omega
     case rel=>exact⟨i+1,dj,by go_num,by omega,by omega,by omega,hsj,by omega,S2.out,HPB.out,fun _=>HP.out,HOS.out⟩
  ·have hltz:¬(i:Int)<(b:Int):=by omega
   have HF:Hid (Srt a b dk):=hid (fun p q h1 h2 h3=>HS.out p q h1 h2 (by omega))
   go_wp2
   go_end0
   exact⟨rfl,dk,S1.out,HP.out,HF.out⟩
end Go.Proofs.YtikcigjbhohboaaGreat.pln
end
