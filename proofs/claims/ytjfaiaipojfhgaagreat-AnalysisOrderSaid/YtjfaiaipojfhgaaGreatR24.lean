/- Part 24 of a proof: PlX PlX2. -/
import Derived.Test.YtjfaiaipojfhgaaGreatR23
section
namespace Go.Proofs.YtjfaiaipojfhgaaGreat.pln
open Go.ChangeShapes Go.WideShapes Go.ChangeAt Go.RowKit Go.Deep val
def bS (ts:List Tsk):Sys:=⟨2,1,1,0,0,0,1,0,ts⟩
set_option maxRecDepth 100000 in
set_option maxHeartbeats 2000000 in
theorem base_any (ts:List Tsk) (A:Option Addr) (n c:Nat) (w:World):Calls Tryz.prog 25 #[.slice A n c] w fun e w'=>e=.returned (sysV (bS ts) A n c)∧But No w w':=by
 go_enter Tryz.func25,Tryz.ntmps25
 go_wp2_with fail
 have h0:=Blk.new w (boxS (bS ts) A n c) 24
 have hb:=(But.refl No w).alloc (.cells (boxS (bS ts) A n c) 24)
 obtain⟨c0,c1,c2,c3,c4,c5,c6,c7,c8⟩:=sys_cells h0
 unfold boxS at hb c0 c1 c2 c3 c4 c5 c6 c7 c8
 simp only[bS] at hb c0 c1 c2 c3 c4 c5 c6 c7 c8
 refine bodyPost_ret (v:=sysV (bS ts) A n c) (by simp[results,Tryz.results25,go_sem,c0,c1,c2,c3,c4,c5,c6,c7,c8,sysV,bS]) rfl ?_
 exact⟨rfl,hb⟩
theorem ts1 {w:World} {b y:Nat} {p d x:Int} (h:Blk w b #[.int .i64 p,.int .i64 d,.int .i64 x,.slice none 0 0] y) (hx:inR p∧inR d∧inR x):RTsk w (some ⟨b,0,none⟩) 1 [⟨p,d,x, []⟩] :=
 ⟨rfl,by omega,fun _=>⟨b,0,rfl,h.lt,fun k u hu=>by
  have hk:k<1:=(List.getElem?_eq_some_iff.1 hu).1
  obtain rfl:k=0:=by omega
  have e:(⟨p,d,x, []⟩:Tsk)=u:=by simpa using hu
  subst e
  exact⟨h.cell rfl,h.cell rfl,h.cell rfl,none,0,h.cell rfl,Nat.le_refl 0,⟨rfl,by simp,fun h=>absurd h (by simp),by simp⟩⟩⟩,fun u hu=>by
  have e:u=⟨p,d,x, []⟩:=by simpa using hu
  subst e
  exact hx⟩
theorem ts2 {w:World} {b y:Nat} {p d x q e z:Int} (h:Blk w b #[.int .i64 p,.int .i64 d,.int .i64 x,.slice none 0 0,.int .i64 q,.int .i64 e,.int .i64 z,.slice none 0 0] y) (hx:inR p∧inR d∧inR x) (hz:inR q∧inR e∧inR z):RTsk w (some ⟨b,0,none⟩) 2 [⟨p,d,x, []⟩,⟨q,e,z, []⟩] :=
 ⟨rfl,by omega,fun _=>⟨b,0,rfl,h.lt,fun k u hu=>by
  have hk:k<2:=(List.getElem?_eq_some_iff.1 hu).1
  have:k=0∨k=1:=by omega
  rcases this with rfl | rfl
  ·have e:(⟨p,d,x, []⟩:Tsk)=u:=by simpa using hu
   subst e
   exact⟨h.cell rfl,h.cell rfl,h.cell rfl,none,0,h.cell rfl,Nat.le_refl 0,⟨rfl,by simp,fun h=>absurd h (by simp),by simp⟩⟩
  ·have e:(⟨q,e,z, []⟩:Tsk)=u:=by simpa using hu
   subst e
   exact⟨h.cell rfl,h.cell rfl,h.cell rfl,none,0,h.cell rfl,Nat.le_refl 0,⟨rfl,by simp,fun h=>absurd h (by simp),by simp⟩⟩⟩,fun u hu=>by
  rcases(show u=⟨p,d,x, []⟩∨u=⟨q,e,z, []⟩ by simpa using hu)with rfl | rfl
  ·exact hx
  ·exact hz⟩
theorem bs_sys {w:World} {A:Option Addr} {n:Nat} {ts:List Tsk} (h:RTsk w A n ts):RSys w A n n (bS ts) :=
 ⟨Nat.le_refl n,h,by simp only[bS];exact⟨inR_small (by omega),inR_small (by omega),inR_small (by omega),inR_small (by omega),inR_small (by omega),inR_small (by omega),inR_small (by omega),inR_small (by omega)⟩⟩
theorem pcs1 {w:World} {b y:Nat} {x:Pc} (h:Blk w b #[.int .i64 x.co,.int .i64 x.bu,.int .i64 x.de,.int .i64 x.pr,.bool x.ti] y) (hx:inR x.co∧inR x.bu∧inR x.de∧inR x.pr):RPc w (some ⟨b,0,none⟩) 1 [x] :=
 ⟨rfl,by omega,fun _=>⟨b,0,rfl,h.lt,fun k u hu=>by
  have hk:k<1:=(List.getElem?_eq_some_iff.1 hu).1
  obtain rfl:k=0:=by omega
  have e:x=u:=by simpa using hu
  subst e
  exact⟨h.cell rfl,h.cell rfl,h.cell rfl,h.cell rfl,h.cell rfl⟩⟩,fun u hu=>by
  obtain rfl:u=x:=by simpa using hu
  exact hx⟩
theorem pcs2 {w:World} {b y:Nat} {x z:Pc} (h:Blk w b #[.int .i64 x.co,.int .i64 x.bu,.int .i64 x.de,.int .i64 x.pr,.bool x.ti,.int .i64 z.co,.int .i64 z.bu,.int .i64 z.de,.int .i64 z.pr,.bool z.ti] y) (hx:inR x.co∧inR x.bu∧inR x.de∧inR x.pr) (hz:inR z.co∧inR z.bu∧inR z.de∧inR z.pr):RPc w (some ⟨b,0,none⟩) 2 [x,z] :=
 ⟨rfl,by omega,fun _=>⟨b,0,rfl,h.lt,fun k u hu=>by
  have hk:k<2:=(List.getElem?_eq_some_iff.1 hu).1
  have:k=0∨k=1:=by omega
  rcases this with rfl | rfl
  ·have e:x=u:=by simpa using hu
   subst e
   exact⟨h.cell rfl,h.cell rfl,h.cell rfl,h.cell rfl,h.cell rfl⟩
  ·have e:z=u:=by simpa using hu
   subst e
   exact⟨h.cell rfl,h.cell rfl,h.cell rfl,h.cell rfl,h.cell rfl⟩⟩,fun u hu=>by
  rcases(show u=x∨u=z by simpa using hu)with rfl | rfl
  ·exact hx
  ·exact hz⟩
theorem pl1 {w:World} {b y:Nat} {A:Option Addr} {c:Nat} {l:List Pc} (h:Blk w b #[.slice A l.length c] y) (hc:l.length≤c) (hl:RPc w A l.length l):RPl w (some ⟨b,0,none⟩) 1 [l] :=
 ⟨rfl,by omega,fun _=>⟨b,0,rfl,h.lt,fun k u hu=>by
  have hk:k<1:=(List.getElem?_eq_some_iff.1 hu).1
  obtain rfl:k=0:=by omega
  have e:l=u:=by simpa using hu
  subst e
  exact⟨A,c,h.cell rfl,hc,hl⟩⟩⟩
theorem pl2 {w:World} {b y:Nat} {A B:Option Addr} {c d:Nat} {l m:List Pc} (h:Blk w b #[.slice A l.length c,.slice B m.length d] y) (hc:l.length≤c) (hd:m.length≤d) (hl:RPc w A l.length l) (hm:RPc w B m.length m):RPl w (some ⟨b,0,none⟩) 2 [l,m] :=
 ⟨rfl,by omega,fun _=>⟨b,0,rfl,h.lt,fun k u hu=>by
  have hk:k<2:=(List.getElem?_eq_some_iff.1 hu).1
  have:k=0∨k=1:=by omega
  rcases this with rfl | rfl
  ·have e:l=u:=by simpa using hu
   subst e
   exact⟨A,c,h.cell rfl,hc,hl⟩
  ·have e:m=u:=by simpa using hu
   subst e
   exact⟨B,d,h.cell rfl,hd,hm⟩⟩⟩
theorem x1 : chkV (bS [⟨10,10,3, []⟩,⟨5,5,2, []⟩]) [[⟨0,3,10,0,false⟩], [⟨0,2,5,0,false⟩]]=([5,2], -1,0):=by kernel_rfl
theorem x2 : (chkV (bS [⟨10,10,8, []⟩]) [[⟨0,5,5,0,true⟩,⟨1,3,5,0,false⟩]]).1 = [8]∧(chkV (bS [⟨10,10,8, []⟩]) [[⟨0,5,5,0,true⟩,⟨1,3,5,0,false⟩]]).2.2=0:=⟨by kernel_rfl,by kernel_rfl⟩
theorem x3 : (chkV (bS [⟨10,10,8, []⟩,⟨5,5,2, []⟩]) [[⟨0,8,10,0,false⟩], [⟨0,2,5,0,false⟩]]).2=(0,12):=by kernel_rfl
end Go.Proofs.YtjfaiaipojfhgaaGreat.pln
end
section
namespace Go.Proofs.YtjfaiaipojfhgaaGreat.pln
open Go.Lib (hid)
open Go.ChangeShapes Go.WideShapes Go.ChangeAt Go.RowKit Go.Deep val
theorem sz {a:Int} (h:0≤a∧a≤1000):inR a:=inR_small (by omega)
abbrev bV (A:Option Addr) (n c:Nat):Value:=.agg #[.int .i64 2,.int .i64 1,.int .i64 1,.int .i64 0,.int .i64 0,.int .i64 0,.int .i64 1,.int .i64 0,.slice A n c]
abbrev bX (A:Option Addr) (n c:Nat):Array Value:=#[.int .i64 2,.int .i64 1,.int .i64 1,.int .i64 0,.int .i64 0,.int .i64 0,.int .i64 1,.int .i64 0,.slice A n c]
abbrev pX (c b d:Int) (t:Bool):Array Value:=#[.int .i64 c,.int .i64 b,.int .i64 d,.int .i64 0,.bool t]
abbrev tX (p d x q e z:Int):Array Value:=#[.int .i64 p,.int .i64 d,.int .i64 x,.slice none 0 0,.int .i64 q,.int .i64 e,.int .i64 z,.slice none 0 0]
abbrev CheckIs : Prop:=∀ (s:Sys) (A:Option Addr) (n c:Nat) (A':Option Addr) (N c':Nat) (L:List (List Pc)) (w:World),RSys w A n c s→RPl w A' N L→Calls Tryz.prog 21 #[sysV s A n c,.slice A' N c'] w fun e w'=>∃ v,e=.returned (.tuple #[v,.int .i64 (chkV s L).2.1,.int .i64 (chkV s L).2.2])∧But No w w'∧Ov w' v (chkV s L).1
theorem two_pl {w:World} {b1 b2 b3:Nat} {c b d e f g:Int} {y z:Nat} (h1:Blk w b1 (pX c b d false) y) (h2:Blk w b2 (pX e f g false) y) (h3:Blk w b3 #[.slice (some ⟨b1,0,none⟩) 1 1,.slice (some ⟨b2,0,none⟩) 1 1] z) (hx:inR c∧inR b∧inR d) (hy:inR e∧inR f∧inR g) :
  RPl w (some ⟨b3,0,none⟩) 2 [[⟨c,b,d,0,false⟩], [⟨e,f,g,0,false⟩]] :=
 pl2 (l:=[⟨c,b,d,0,false⟩]) (m:=[⟨e,f,g,0,false⟩]) h3 (Nat.le_refl 1) (Nat.le_refl 1) (pcs1 (x:=⟨c,b,d,0,false⟩) h1 ⟨hx.1,hx.2.1,hx.2.2,inR_small (by dsimp only;omega)⟩) (pcs1 (x:=⟨e,f,g,0,false⟩) h2 ⟨hy.1,hy.2.1,hy.2.2,inR_small (by dsimp only;omega)⟩)
theorem ck1 (CK:CheckIs) {w:World} {bt b1 b2 b3:Nat} {x y z:Nat} (ht:Blk w bt (tX 10 10 3 5 5 2) x) (h1:Blk w b1 (pX 0 3 10 false) y) (h2:Blk w b2 (pX 0 2 5 false) y) (h3:Blk w b3 #[.slice (some ⟨b1,0,none⟩) 1 1,.slice (some ⟨b2,0,none⟩) 1 1] z) :
  Calls Tryz.prog 21 #[bV (some ⟨bt,0,none⟩) 2 2,.slice (some ⟨b3,0,none⟩) 2 2] w fun e w'=>∃ A c,e=.returned (.tuple #[.slice A 2 c,.int .i64 (-1),.int .i64 0])∧But No w w'∧Rl w' A 2 [5,2] :=
 (CK (bS [⟨10,10,3, []⟩,⟨5,5,2, []⟩]) _ 2 2 _ 2 2 _ w (bs_sys (ts2 ht ⟨sz (by omega),sz (by omega),sz (by omega)⟩ ⟨sz (by omega),sz (by omega),sz (by omega)⟩)) (two_pl h1 h2 h3 ⟨sz (by omega),sz (by omega),sz (by omega)⟩ ⟨sz (by omega),sz (by omega),sz (by omega)⟩)).mono fun e w' h=>by
  rw[x1] at h
  obtain⟨v,he,hb,ho⟩:=h
  obtain⟨A,c,rfl,hc⟩:=ho.slice
  exact⟨A,c,he,hb,(ho.rl (by simp)).1⟩
theorem ck3 (CK:CheckIs) {w:World} {bt b1 b2 b3:Nat} {x y z:Nat} (ht:Blk w bt (tX 10 10 8 5 5 2) x) (h1:Blk w b1 (pX 0 8 10 false) y) (h2:Blk w b2 (pX 0 2 5 false) y) (h3:Blk w b3 #[.slice (some ⟨b1,0,none⟩) 1 1,.slice (some ⟨b2,0,none⟩) 1 1] z) :
  Calls Tryz.prog 21 #[bV (some ⟨bt,0,none⟩) 2 2,.slice (some ⟨b3,0,none⟩) 2 2] w fun e w'=>∃ v,e=.returned (.tuple #[v,.int .i64 0,.int .i64 12])∧But No w w' :=
 (CK (bS [⟨10,10,8, []⟩,⟨5,5,2, []⟩]) _ 2 2 _ 2 2 _ w (bs_sys (ts2 ht ⟨sz (by omega),sz (by omega),sz (by omega)⟩ ⟨sz (by omega),sz (by omega),sz (by omega)⟩)) (two_pl h1 h2 h3 ⟨sz (by omega),sz (by omega),sz (by omega)⟩ ⟨sz (by omega),sz (by omega),sz (by omega)⟩)).mono fun e w' h=>by
  rw[x3] at h
  obtain⟨v,he,hb,ho⟩:=h
  exact⟨v,he,hb⟩
theorem ck2 (CK:CheckIs) {w:World} {bt b1 b3:Nat} {x y z:Nat} (ht:Blk w bt #[.int .i64 10,.int .i64 10,.int .i64 8,.slice none 0 0] x) (h1:Blk w b1 #[.int .i64 0,.int .i64 5,.int .i64 5,.int .i64 0,.bool true,.int .i64 1,.int .i64 3,.int .i64 5,.int .i64 0,.bool false] y) (h3:Blk w b3 #[.slice (some ⟨b1,0,none⟩) 2 2] z) :
  Calls Tryz.prog 21 #[bV (some ⟨bt,0,none⟩) 1 1,.slice (some ⟨b3,0,none⟩) 1 1] w fun e w'=>∃ A c k,e=.returned (.tuple #[.slice A 1 c,.int .i64 k,.int .i64 0])∧But No w w'∧Rl w' A 1 [8] :=
 (CK (bS [⟨10,10,8, []⟩]) _ 1 1 _ 1 1 [[⟨0,5,5,0,true⟩,⟨1,3,5,0,false⟩]] w (bs_sys (ts1 ht ⟨sz (by omega),sz (by omega),sz (by omega)⟩)) (pl1 (l:=[⟨0,5,5,0,true⟩,⟨1,3,5,0,false⟩]) h3 (Nat.le_refl 2) (pcs2 (x:=⟨0,5,5,0,true⟩) (z:=⟨1,3,5,0,false⟩) h1 ⟨sz (by dsimp only;omega),sz (by dsimp only;omega),sz (by dsimp only;omega),sz (by dsimp only;omega)⟩ ⟨sz (by dsimp only;omega),sz (by dsimp only;omega),sz (by dsimp only;omega),sz (by dsimp only;omega)⟩))).mono fun e w' h=>by
  rw[x2.1,x2.2] at h
  obtain⟨v,he,hb,ho⟩:=h
  obtain⟨A,c,rfl,hc⟩:=ho.slice
  exact⟨A,c,_,he,hb,(ho.rl (by simp)).1⟩
set_option maxRecDepth 100000 in
set_option maxHeartbeats 4000000 in
theorem examples_ok (CK:CheckIs) (w:World):Calls Tryz.prog 10 #[] w fun e w'=>e=.returned (.bool true)∧But No w w':=by
 have CB:Hid (∀ (A:Option Addr) (n c:Nat) (W:World),Calls Tryz.prog 25 #[.slice A n c] W fun e w'=>e=.returned (bV A n c)∧But No W w'):=hid (fun A n c W=>base_any [] A n c W)
 have CK':=hid CK
 clear CK
 go_enter Tryz.func10,Tryz.ntmps10
 go_upto_region 2 with(go_at_call 25;(with_reducible refine(CB.out _ _ _ _).mono ?_);rintro e v1 ⟨rfl,hb1⟩)
 have hT:=((Blk.new w #[.int .i64 10,.int .i64 10,.int .i64 3,.slice none 0 0,.int .i64 5,.int .i64 5,.int .i64 2,.slice none 0 0] 55).but hb1 (fun f=>f)).alloc (.cells #[.int .i64 2,.int .i64 1,.int .i64 1,.int .i64 0,.int .i64 0,.int .i64 0,.int .i64 1,.int .i64 0,.slice (some ⟨w.heap.size,0,none⟩) 2 2] 24)
 have hS:=Blk.new v1 #[.int .i64 2,.int .i64 1,.int .i64 1,.int .i64 0,.int .i64 0,.int .i64 0,.int .i64 1,.int .i64 0,.slice (some ⟨w.heap.size,0,none⟩) 2 2] 24
 have hB:=((((But.refl No w).alloc (.cells #[.int .i64 10,.int .i64 10,.int .i64 3,.slice none 0 0,.int .i64 5,.int .i64 5,.int .i64 2,.slice none 0 0] 55)).trans hb1).alloc (.cells #[.int .i64 2,.int .i64 1,.int .i64 1,.int .i64 0,.int .i64 0,.int .i64 0,.int .i64 1,.int .i64 0,.slice (some ⟨w.heap.size,0,none⟩) 2 2] 24))
 clear hb1
 generalize v1.alloc (.cells #[.int .i64 2,.int .i64 1,.int .i64 1,.int .i64 0,.int .i64 0,.int .i64 0,.int .i64 1,.int .i64 0,.slice (some ⟨w.heap.size,0,none⟩) 2 2] 24)=u1 at hT hS hB ⊢
 generalize v1.heap.size=bs1 at hS ⊢
 generalize w.heap.size=bt1 at hT hS ⊢
 obtain⟨c0,c1,c2,c3,c4,c5,c6,c7,c8⟩:=sys_cells (s:=bS []) hS
 dsimp only[bS] at c0 c1 c2 c3 c4 c5 c6 c7 c8
 have HT1:=hid hT;have HB1:=hid hB
 clear hT hS hB
 have h3:=blk2 (u1.alloc (.cells #[.int .i64 0,.int .i64 3,.int .i64 10,.int .i64 0,.bool false] 42)) (.cells #[.int .i64 0,.int .i64 2,.int .i64 5,.int .i64 0,.bool false] 42) #[.slice (some ⟨u1.heap.size,0,none⟩) 1 1,.slice (some ⟨u1.heap.size+1,0,none⟩) 1 1] 40
 rw[size_alloc1] at h3
 have CC:=hid (ck1 CK'.out (((HT1.out.alloc (.cells #[.int .i64 0,.int .i64 3,.int .i64 10,.int .i64 0,.bool false] 42)).alloc (.cells #[.int .i64 0,.int .i64 2,.int .i64 5,.int .i64 0,.bool false] 42)).alloc (.cells #[.slice (some ⟨u1.heap.size,0,none⟩) 1 1,.slice (some ⟨u1.heap.size+1,0,none⟩) 1 1] 40)) (((Blk.new u1 #[.int .i64 0,.int .i64 3,.int .i64 10,.int .i64 0,.bool false] 42).alloc (.cells #[.int .i64 0,.int .i64 2,.int .i64 5,.int .i64 0,.bool false] 42)).alloc (.cells #[.slice (some ⟨u1.heap.size,0,none⟩) 1 1,.slice (some ⟨u1.heap.size+1,0,none⟩) 1 1] 40)) ((blk2 u1 (.cells #[.int .i64 0,.int .i64 3,.int .i64 10,.int .i64 0,.bool false] 42) #[.int .i64 0,.int .i64 2,.int .i64 5,.int .i64 0,.bool false] 42).alloc (.cells #[.slice (some ⟨u1.heap.size,0,none⟩) 1 1,.slice (some ⟨u1.heap.size+1,0,none⟩) 1 1] 40)) h3)
 clear h3
 go_upto_region 3 with(go_at_call 21;(with_reducible refine CC.out.mono ?_);rintro e z1 ⟨A1,k1,rfl,hc1,hr1⟩)
 have HD1:=hid (HB1.out.trans (((((But.refl No u1).alloc (.cells #[.int .i64 0,.int .i64 3,.int .i64 10,.int .i64 0,.bool false] 42)).alloc (.cells #[.int .i64 0,.int .i64 2,.int .i64 5,.int .i64 0,.bool false] 42)).alloc (.cells #[.slice (some ⟨u1.heap.size,0,none⟩) 1 1,.slice (some ⟨u1.heap.size+1,0,none⟩) 1 1] 40)).trans hc1))
 clear hc1 CC c0 c1 c2 c3 c4 c5 c6 c7 c8
 go_upto_region 4 with(go_at_call 25;(with_reducible refine(CB.out _ _ _ _).mono ?_);rintro e v2 ⟨rfl,hb2⟩)
 have hT:=((Blk.new z1 #[.int .i64 10,.int .i64 10,.int .i64 8,.slice none 0 0] 55).but hb2 (fun f=>f)).alloc (.cells #[.int .i64 2,.int .i64 1,.int .i64 1,.int .i64 0,.int .i64 0,.int .i64 0,.int .i64 1,.int .i64 0,.slice (some ⟨z1.heap.size,0,none⟩) 1 1] 24)
 have hS:=Blk.new v2 #[.int .i64 2,.int .i64 1,.int .i64 1,.int .i64 0,.int .i64 0,.int .i64 0,.int .i64 1,.int .i64 0,.slice (some ⟨z1.heap.size,0,none⟩) 1 1] 24
 have hB:=((((But.refl No z1).alloc (.cells #[.int .i64 10,.int .i64 10,.int .i64 8,.slice none 0 0] 55)).trans hb2).alloc (.cells #[.int .i64 2,.int .i64 1,.int .i64 1,.int .i64 0,.int .i64 0,.int .i64 0,.int .i64 1,.int .i64 0,.slice (some ⟨z1.heap.size,0,none⟩) 1 1] 24))
 clear hb2
 generalize v2.alloc (.cells #[.int .i64 2,.int .i64 1,.int .i64 1,.int .i64 0,.int .i64 0,.int .i64 0,.int .i64 1,.int .i64 0,.slice (some ⟨z1.heap.size,0,none⟩) 1 1] 24)=u2 at hT hS hB ⊢
 generalize v2.heap.size=bs2 at hS ⊢
 generalize z1.heap.size=bt2 at hT hS ⊢
 obtain⟨c0,c1,c2,c3,c4,c5,c6,c7,c8⟩:=sys_cells (s:=bS []) hS
 dsimp only[bS] at c0 c1 c2 c3 c4 c5 c6 c7 c8
 have HT2:=hid hT;have HB2:=hid hB
 clear hT hS hB
 have h3:=blk2 u2 (.cells #[.int .i64 0,.int .i64 5,.int .i64 5,.int .i64 0,.bool true,.int .i64 1,.int .i64 3,.int .i64 5,.int .i64 0,.bool false] 42) #[.slice (some ⟨u2.heap.size,0,none⟩) 2 2] 40
 have CC:=hid (ck2 CK'.out ((HT2.out.alloc (.cells #[.int .i64 0,.int .i64 5,.int .i64 5,.int .i64 0,.bool true,.int .i64 1,.int .i64 3,.int .i64 5,.int .i64 0,.bool false] 42)).alloc (.cells #[.slice (some ⟨u2.heap.size,0,none⟩) 2 2] 40)) ((Blk.new u2 #[.int .i64 0,.int .i64 5,.int .i64 5,.int .i64 0,.bool true,.int .i64 1,.int .i64 3,.int .i64 5,.int .i64 0,.bool false] 42).alloc (.cells #[.slice (some ⟨u2.heap.size,0,none⟩) 2 2] 40)) h3)
 clear h3
 go_upto_region 5 with(go_at_call 21;(with_reducible refine CC.out.mono ?_);rintro e z2 ⟨A2,k2,j2,rfl,hc2,hr2⟩)
 have HD2:=hid (HB2.out.trans ((((But.refl No u2).alloc (.cells #[.int .i64 0,.int .i64 5,.int .i64 5,.int .i64 0,.bool true,.int .i64 1,.int .i64 3,.int .i64 5,.int .i64 0,.bool false] 42)).alloc (.cells #[.slice (some ⟨u2.heap.size,0,none⟩) 2 2] 40)).trans hc2))
 clear hc2 CC c0 c1 c2 c3 c4 c5 c6 c7 c8
 go_upto_region 6 with(go_at_call 25;(with_reducible refine(CB.out _ _ _ _).mono ?_);rintro e v3 ⟨rfl,hb3⟩)
 have hT:=((Blk.new z2 #[.int .i64 10,.int .i64 10,.int .i64 8,.slice none 0 0,.int .i64 5,.int .i64 5,.int .i64 2,.slice none 0 0] 55).but hb3 (fun f=>f)).alloc (.cells #[.int .i64 2,.int .i64 1,.int .i64 1,.int .i64 0,.int .i64 0,.int .i64 0,.int .i64 1,.int .i64 0,.slice (some ⟨z2.heap.size,0,none⟩) 2 2] 24)
 have hS:=Blk.new v3 #[.int .i64 2,.int .i64 1,.int .i64 1,.int .i64 0,.int .i64 0,.int .i64 0,.int .i64 1,.int .i64 0,.slice (some ⟨z2.heap.size,0,none⟩) 2 2] 24
 have hB:=((((But.refl No z2).alloc (.cells #[.int .i64 10,.int .i64 10,.int .i64 8,.slice none 0 0,.int .i64 5,.int .i64 5,.int .i64 2,.slice none 0 0] 55)).trans hb3).alloc (.cells #[.int .i64 2,.int .i64 1,.int .i64 1,.int .i64 0,.int .i64 0,.int .i64 0,.int .i64 1,.int .i64 0,.slice (some ⟨z2.heap.size,0,none⟩) 2 2] 24))
 clear hb3
 generalize v3.alloc (.cells #[.int .i64 2,.int .i64 1,.int .i64 1,.int .i64 0,.int .i64 0,.int .i64 0,.int .i64 1,.int .i64 0,.slice (some ⟨z2.heap.size,0,none⟩) 2 2] 24)=u3 at hT hS hB ⊢
 generalize v3.heap.size=bs3 at hS ⊢
 generalize z2.heap.size=bt3 at hT hS ⊢
 obtain⟨c0,c1,c2,c3,c4,c5,c6,c7,c8⟩:=sys_cells (s:=bS []) hS
 dsimp only[bS] at c0 c1 c2 c3 c4 c5 c6 c7 c8
 have HT3:=hid hT;have HB3:=hid hB
 clear hT hS hB
 have h3:=blk2 (u3.alloc (.cells #[.int .i64 0,.int .i64 8,.int .i64 10,.int .i64 0,.bool false] 42)) (.cells #[.int .i64 0,.int .i64 2,.int .i64 5,.int .i64 0,.bool false] 42) #[.slice (some ⟨u3.heap.size,0,none⟩) 1 1,.slice (some ⟨u3.heap.size+1,0,none⟩) 1 1] 40
 rw[size_alloc1] at h3
 have CC:=hid (ck3 CK'.out (((HT3.out.alloc (.cells #[.int .i64 0,.int .i64 8,.int .i64 10,.int .i64 0,.bool false] 42)).alloc (.cells #[.int .i64 0,.int .i64 2,.int .i64 5,.int .i64 0,.bool false] 42)).alloc (.cells #[.slice (some ⟨u3.heap.size,0,none⟩) 1 1,.slice (some ⟨u3.heap.size+1,0,none⟩) 1 1] 40)) (((Blk.new u3 #[.int .i64 0,.int .i64 8,.int .i64 10,.int .i64 0,.bool false] 42).alloc (.cells #[.int .i64 0,.int .i64 2,.int .i64 5,.int .i64 0,.bool false] 42)).alloc (.cells #[.slice (some ⟨u3.heap.size,0,none⟩) 1 1,.slice (some ⟨u3.heap.size+1,0,none⟩) 1 1] 40)) ((blk2 u3 (.cells #[.int .i64 0,.int .i64 8,.int .i64 10,.int .i64 0,.bool false] 42) #[.int .i64 0,.int .i64 2,.int .i64 5,.int .i64 0,.bool false] 42).alloc (.cells #[.slice (some ⟨u3.heap.size,0,none⟩) 1 1,.slice (some ⟨u3.heap.size+1,0,none⟩) 1 1] 40)) h3)
 clear h3
 go_upto_region 7 with(go_at_call 21;(with_reducible refine CC.out.mono ?_);rintro e z3 ⟨v3,rfl,hc3⟩)
 have HD3:=hid (HB3.out.trans (((((But.refl No u3).alloc (.cells #[.int .i64 0,.int .i64 8,.int .i64 10,.int .i64 0,.bool false] 42)).alloc (.cells #[.int .i64 0,.int .i64 2,.int .i64 5,.int .i64 0,.bool false] 42)).alloc (.cells #[.slice (some ⟨u3.heap.size,0,none⟩) 1 1,.slice (some ⟨u3.heap.size+1,0,none⟩) 1 1] 40)).trans hc3))
 clear hc3 CC c0 c1 c2 c3 c4 c5 c6 c7 c8
 have hR1:=hr1.no (HD2.out.trans HD3.out)
 have hR2:=hr2.no HD3.out
 clear hr1 hr2
 obtain⟨b1,o1,rfl,hl1,ha1⟩:=hR1.at_ (by omega)
 obtain⟨b2,o2,rfl,hl2,ha2⟩:=hR2.at_ (by omega)
 have e0:=ha1 0 (by omega)
 have e1:=ha1 1 (by omega)
 have e2:=ha2 0 (by omega)
 simp only[List.getD_cons_zero,List.getD_cons_succ,Nat.add_zero] at e0 e1 e2
 clear ha1 ha2 hR1 hR2
 go_wp2_with fail
 go_ret
 exact⟨rfl,HD1.out.trans (HD2.out.trans HD3.out)⟩
end Go.Proofs.YtjfaiaipojfhgaaGreat.pln
end
