/- Part 12 of a proof: QaC1 QaC2 QaC3 QaC5 QaC6 QaC8 QaL1 QaL2. -/
import Derived.Below
import Derived.BigQuiet
import Derived.Deep.QuietTactic
import Derived.Deep.RegionHeld3
import Derived.Lib.Hide
import Derived.LoopN
import Derived.OpenShut
import Derived.ProofKit
import Derived.Test.YtikcigjbhohboaaGreatRows
import Derived.WalkKit
import Derived.Test.YtikcigjbhohboaaGreatM02
section
namespace Go.Proofs.YtikcigjbhohboaaGreat.qar
set_option linter.unusedSimpArgs false
open Go.ChangeShapes Go.WideShapes Go.ChangeAt Go.RowKit
theorem ret2 {a b c d:Int} (h:a=c) (k:b=d):Ending.returned (.tuple #[.int .i64 a,.int .i64 b])=.returned (.tuple #[.int .i64 c,.int .i64 d]):=by rw[h,k]
structure Grew (a b:World):Prop where
 below:Below a.heap.size a b
 grown:Grown a b
 draws:a.drawn≤b.drawn
theorem Grew.butNo {a b:World} (h:Grew a b):But No a b:=⟨h.below.os,h.below.tape,h.below.output,h.below.size,fun k hk _=>h.below.block k hk⟩
theorem Grew.refl (w:World):Grew w w:=⟨Below.refl _ _,Grown.refl _,Nat.le_refl _⟩
theorem Grew.trans {a b c:World} (h:Grew a b) (k:Grew b c):Grew a c :=
 ⟨h.below.trans (k.below.mono h.below.size),⟨World.keptBut_trans h.grown.1 k.grown.1,fun x=>(k.grown.2.1 x).trans (h.grown.2.1 x),Nat.le_trans h.grown.2.2 k.grown.2.2⟩,Nat.le_trans h.draws k.draws⟩
theorem Grew.alloc {a w:World} (h:Grew a w) (c:Array Value) (t:TypeId):Grew a (w.alloc (.cells c t)):=⟨h.below.alloc h.below.size _,h.grown.alloc c t,h.draws⟩
theorem Grew.size {a w:World} (h:Grew a w):a.heap.size≤w.heap.size:=h.below.size
theorem Grew.cells {W w1:World} (hb:Grew W w1):∀ b o,b<W.heap.size→w1.cell? ⟨b,o,none⟩=W.cell? ⟨b,o,none⟩:=fun b o h=>hb.below.cell (p:=⟨b,o,none⟩) h
theorem ret1 {k:IntKind} {a b:Int} (h:a=b):Ending.returned (.int k a)=.returned (.int k b):=by rw[h]
theorem join_any (a b:Int) (a0:0≤a) (a1:a<4294967296) (b0:0≤b) (b1:b<4294967296) (w:World) :
  Calls Tryz.prog 209 #[.int .u32 a,.int .u32 b] w fun e w'=>e=.returned (.int .u64 (a*4294967296+b))∧w=w':=by
 go_enter Tryz.func209,Tryz.ntmps209
 go_wp2
 go_ret
 exact⟨ret1 (or_join a b a0 a1 b0 b1),rfl⟩
theorem size_any (a:Int) (ha:inR a) (w:World):Calls Tryz.prog 198 #[.int .i64 a] w fun e w'=>e=.returned (.int .u64 a.natAbs)∧w=w':=by
 unfold inR at ha
 obtain⟨ha1,ha2⟩:=ha
 by_cases h:a<0
 ·have e:IntKind.u64.wrap (-IntKind.u64.wrap a)=a.natAbs:=by rw[IntKind.wrap_u64,IntKind.wrap_u64];omega
  have E:=Lib.hid e
  clear e
  go_enter Tryz.func198,Tryz.ntmps198
  go_wp2
  go_ret
  exact⟨ret1 E.out,rfl⟩
 ·go_enter Tryz.func198,Tryz.ntmps198
  go_wp2
  go_ret
  exact⟨ret1 (by omega),rfl⟩
theorem high_any (a b c d:Int) (c0:0≤c) (c1:c<4294967296) (d0:0≤d) (d1:d<4294967296) (w:World) :
  Calls Tryz.prog 199 #[.agg #[.int .u32 a,.int .u32 b,.int .u32 c,.int .u32 d]] w fun e w'=>e=.returned (.int .u64 (d*4294967296+c))∧Grew w w':=by
 go_enter Tryz.func199,Tryz.ntmps199
 go_wp2_with (go_at_call 209;refine(join_any _ _ (by omega) (by omega) (by omega) (by omega) _).mono ?_;rintro e w' ⟨rfl,rfl⟩)
 go_ret
 exact⟨rfl,(Grew.refl _).alloc _ _⟩
theorem low_any (a b c d:Int) (c0:0≤a) (c1:a<4294967296) (d0:0≤b) (d1:b<4294967296) (w:World) :
  Calls Tryz.prog 200 #[.agg #[.int .u32 a,.int .u32 b,.int .u32 c,.int .u32 d]] w fun e w'=>e=.returned (.int .u64 (b*4294967296+a))∧Grew w w':=by
 go_enter Tryz.func200,Tryz.ntmps200
 go_wp2_with (go_at_call 209;refine(join_any _ _ (by omega) (by omega) (by omega) (by omega) _).mono ?_;rintro e w' ⟨rfl,rfl⟩)
 go_ret
 exact⟨rfl,(Grew.refl _).alloc _ _⟩
end Go.Proofs.YtikcigjbhohboaaGreat.qar
end
section
namespace Go.Proofs.YtikcigjbhohboaaGreat.qar
open Go.ChangeShapes Go.WideShapes Go.ChangeAt Go.RowKit
theorem split_ex (a:Int) (w:World) :
  Calls Tryz.prog 150 #[.int .u64 a] w fun e w'=>e=.returned (.agg #[.int .u32 (a % 4294967296),.int .u32 (a/4294967296 % 4294967296)])∧w.alloc (.cells #[.int .u32 (a % 4294967296),.int .u32 (a/4294967296 % 4294967296)] 224)=w':=by
 go_enter Tryz.func150,Tryz.ntmps150
 go_wp2
 exact bodyPost_ret (v:=.agg #[.int .u32 (a % 4294967296),.int .u32 (a/4294967296 % 4294967296)]) (by simp[results,Tryz.results150,go_sem]) rfl ⟨rfl,rfl⟩
theorem split_as (a x0 x1:Int) (h0:Hid (x0=a % 4294967296)) (h1:Hid (x1=a/4294967296 % 4294967296)) (w:World) :
  Calls Tryz.prog 150 #[.int .u64 a] w fun e w'=>e=.returned (.agg #[.int .u32 x0,.int .u32 x1])∧w.alloc (.cells #[.int .u32 x0,.int .u32 x1] 224)=w':=by
 rw[h0.out,h1.out];exact split_ex a w
theorem school2 (a b:Int) (a0:0≤a) (a1:a<18446744073709551616) (b0:0≤b) (b1:b<18446744073709551616) (x0 x1 y0 y1:Int)
  (hx0:x0=a % 4294967296) (hx1:x1=a/4294967296 % 4294967296) (hy0:y0=b % 4294967296) (hy1:y1=b/4294967296 % 4294967296) :
  x0*y0 % 4294967296=d0 (a*b)∧(x1*y0+(x0*y1+x0*y0/4294967296)) % 4294967296=d1 (a*b)
  ∧ (x1*y1+(x0*y1+x0*y0/4294967296)/4294967296+(x1*y0+(x0*y1+x0*y0/4294967296) % 4294967296)/4294967296) % 4294967296=d2 (a*b)
  ∧ (x1*y1+(x0*y1+x0*y0/4294967296)/4294967296+(x1*y0+(x0*y1+x0*y0/4294967296) % 4294967296)/4294967296)/4294967296=d3 (a*b):=by
 obtain⟨h0,h1,h2,h3,k0,k1,k2,k3⟩:=school a b a0 a1 b0 b1 x0 x1 y0 y1 _ _ _ _ hx0 hx1 hy0 hy1 rfl rfl rfl rfl
 clear hx0 hx1 hy0 hy1
 rw[←h0,←h1,←h2,←h3]
 clear h0 h1 h2 h3
 generalize x0*y0=X at *
 generalize x0*y1=Y at *
 generalize x1*y0=Z at *
 generalize x1*y1=U at *
 have e0:X/4294967296 % 4294967296=X/4294967296:=by omega
 rw[e0] at *
 have e1:(Y+X/4294967296)/4294967296 % 4294967296=(Y+X/4294967296)/4294967296:=by omega
 rw[e1] at *
 have e2:(Z+(Y+X/4294967296) % 4294967296)/4294967296 % 4294967296=(Z+(Y+X/4294967296) % 4294967296)/4294967296:=by omega
 rw[e2] at *
 exact⟨rfl,by omega,rfl,by omega⟩
theorem agg4 {p q r s p' q' r' s':Int} (h0:p=p') (h1:q=q') (h2:r=r') (h3:s=s') :
  Ending.returned (.agg #[.int .u32 p,.int .u32 q,.int .u32 r,.int .u32 s])=.returned (.agg #[.int .u32 p',.int .u32 q',.int .u32 r',.int .u32 s']):=by rw[h0,h1,h2,h3]
theorem mul_bd {x y:Int} (hx:0≤x∧x≤4294967295) (hy:0≤y∧y≤4294967295):0≤x*y∧x*y≤18446744065119617025 :=
 ⟨Int.mul_nonneg hx.1 hy.1,Int.mul_le_mul (c:=4294967295) (d:=4294967295) hx.2 hy.2 hy.1 (by omega)⟩
set_option maxRecDepth 100000 in
set_option maxHeartbeats 1000000 in
theorem multiply_any (a b:Int) (a0:0≤a) (a1:a<18446744073709551616) (b0:0≤b) (b1:b<18446744073709551616) (w:World) :
  Calls Tryz.prog 127 #[.int .u64 a,.int .u64 b] w fun e w'=>e=.returned (.agg #[.int .u32 (d0 (a*b)),.int .u32 (d1 (a*b)),.int .u32 (d2 (a*b)),.int .u32 (d3 (a*b))])∧Grew w w':=by
 obtain⟨x0,hx0⟩:∃ x,x=a % 4294967296:=⟨_,rfl⟩
 obtain⟨x1,hx1⟩:∃ x,x=a/4294967296 % 4294967296:=⟨_,rfl⟩
 obtain⟨y0,hy0⟩:∃ x,x=b % 4294967296:=⟨_,rfl⟩
 obtain⟨y1,hy1⟩:∃ x,x=b/4294967296 % 4294967296:=⟨_,rfl⟩
 have SC:=Lib.hid (school2 a b a0 a1 b0 b1 x0 x1 y0 y1 hx0 hx1 hy0 hy1)
 have bx0:0≤x0∧x0≤4294967295:=by omega
 have bx1:0≤x1∧x1≤4294967295:=by omega
 have by0:0≤y0∧y0≤4294967295:=by omega
 have by1:0≤y1∧y1≤4294967295:=by omega
 have m00:=mul_bd bx0 by0
 have m01:=mul_bd bx0 by1
 have m10:=mul_bd bx1 by0
 have m11:=mul_bd bx1 by1
 have HX0:=Lib.hid hx0
 have HX1:=Lib.hid hx1
 have HY0:=Lib.hid hy0
 have HY1:=Lib.hid hy1
 clear hx0 hx1 hy0 hy1
 have i0:∀ w x y,(Instr.index 224 (.agg #[x,y]) (.int .i64 0)).run Tryz.prog w=.ok x w:=fun _ _ _=>by kernel_rfl
 have i1:∀ w x y,(Instr.index 224 (.agg #[x,y]) (.int .i64 1)).run Tryz.prog w=.ok y w:=fun _ _ _=>by kernel_rfl
 go_enter Tryz.func127,Tryz.ntmps127
 go_wp2_with (go_at_call 150;refine(split_as _ x0 x1 HX0 HX1 _).mono ?_;rintro e w' ⟨rfl,rfl⟩)
 refine wp_loop_rounds 3 ?_
 rw[rounds_succ]
 go_wp2_with (go_at_call 150;refine(split_as _ y0 y1 HY0 HY1 _).mono ?_;rintro e w' ⟨rfl,rfl⟩)
 refine wp_loop_rounds 3 ?_
 rw[rounds_succ]
 go_wp2
 rw[rounds_succ]
 go_wp2
 rw[rounds_succ]
 go_wp2
 rw[rounds_succ]
 go_wp2_with (go_at_call 150;refine(split_as _ y0 y1 HY0 HY1 _).mono ?_;rintro e w' ⟨rfl,rfl⟩)
 refine wp_loop_rounds 3 ?_
 rw[rounds_succ]
 go_wp2
 rw[rounds_succ]
 go_wp2
 rw[rounds_succ]
 go_wp2
 rw[rounds_succ]
 go_wp2
 obtain⟨h0,h1,h2,h3⟩:=SC.out
 refine bodyPost_ret (v:=.agg #[.int .u32 (x0*y0 % 4294967296),.int .u32 ((x1*y0+(x0*y1+x0*y0/4294967296)) % 4294967296),
  .int .u32 ((x1*y1+(x0*y1+x0*y0/4294967296)/4294967296+(x1*y0+(x0*y1+x0*y0/4294967296) % 4294967296)/4294967296) % 4294967296),
  .int .u32 ((x1*y1+(x0*y1+x0*y0/4294967296)/4294967296+(x1*y0+(x0*y1+x0*y0/4294967296) % 4294967296)/4294967296)/4294967296)])
  (by clear h0 h1 h2 h3;simp[results,Tryz.results127,go_sem]) rfl ⟨agg4 h0 h1 h2 h3,?_⟩
 exact(((((Grew.refl _).alloc _ _).alloc _ _).alloc _ _).alloc _ _).alloc _ _
end Go.Proofs.YtikcigjbhohboaaGreat.qar
end
section
namespace Go.Proofs.YtikcigjbhohboaaGreat.qar
open Go.Lib (hid)
open Go.ChangeShapes Go.WideShapes Go.ChangeAt Go.RowKit
def mag (a:Int):Int:=a.natAbs
theorem mag_bd {a:Int} (h:inR a):0≤mag a∧mag a≤9223372036854775808:=by unfold mag;unfold inR at h;omega
theorem mag_neg {a:Int} (h:a<0):a = - mag a:=by unfold mag;omega
theorem mag_pos {a:Int} (h:0≤a):a=mag a:=by unfold mag;omega
theorem mag_mul_bd {a b:Int} (ha:inR a) (hb:inR b):0≤mag a*mag b∧mag a*mag b≤85070591730234615865843651857942052864 :=
 ⟨Int.mul_nonneg (mag_bd ha).1 (mag_bd hb).1,Int.mul_le_mul (c:=9223372036854775808) (d:=9223372036854775808) (mag_bd ha).2 (mag_bd hb).2 (mag_bd hb).1 (by omega)⟩
theorem mul_same {a b:Int} (h:(a<0)=(b<0)):a*b=mag a*mag b:=by
 by_cases h1:a<0
 ·have h2:b<0:=by rw[←h];exact h1
  rw[mag_neg h1,mag_neg h2,Int.neg_mul_neg];unfold mag;simp
 ·have h2:¬b<0:=by rw[←h];exact h1
  rw[mag_pos (a:=a) (by omega),mag_pos (a:=b) (by omega)];unfold mag;simp
theorem mul_other {a b:Int} (h:(a<0)≠(b<0)):a*b = -(mag a*mag b):=by
 by_cases h1:a<0
 ·have h2:¬b<0:=by intro h2;exact h (by simp[h1,h2])
  rw[mag_neg h1,mag_pos (a:=b) (by omega),Int.neg_mul];unfold mag;simp
 ·have h2:b<0:=by apply Classical.byContradiction;intro h2;exact h (by simp[h1,h2])
  rw[mag_pos (a:=a) (by omega),mag_neg h2,Int.mul_neg];unfold mag;simp
theorem size_mag (a:Int) (ha:inR a) (w:World):Calls Tryz.prog 198 #[.int .i64 a] w fun e w'=>e=.returned (.int .u64 (mag a))∧w=w':=size_any a ha w
theorem high_N (N:Int) (h0:0≤N) (h1:N<340282366920938463463374607431768211456) (w:World) :
  Calls Tryz.prog 199 #[.agg #[.int .u32 (d0 N),.int .u32 (d1 N),.int .u32 (d2 N),.int .u32 (d3 N)]] w fun e w'=>e=.returned (.int .u64 (hi N))∧Grew w w':=by
 rw[←hi_eq N]
 have h2:=d2_bd N
 have h3:=d3_bd N h0 h1
 exact high_any _ _ _ _ h2.1 h2.2 h3.1 h3.2 w
theorem low_N (N:Int) (w:World) :
  Calls Tryz.prog 200 #[.agg #[.int .u32 (d0 N),.int .u32 (d1 N),.int .u32 (d2 N),.int .u32 (d3 N)]] w fun e w'=>e=.returned (.int .u64 (lo N))∧Grew w w':=by
 rw[←lo_eq N]
 have h2:=d0_bd N
 have h3:=d1_bd N
 exact low_any _ _ _ _ h2.1 h2.2 h3.1 h3.2 w
theorem fin_pos {a b N:Int} (hs:Hid (a*b=N)) (h:Hid (N=hi N*18446744073709551616+lo N)) (c:Hid (hi N=0)) (hl:0≤lo N∧lo N<18446744073709551616) (k:lo N≤9223372036854775807) :
  lo N=exV (a*b)∧0=exE (a*b):=by
 have h1:=hs.out;have h2:=h.out;have h3:=c.out;rw[h1]
 exact⟨eqV (fun _=>by omega) (fun g=>absurd (show inR N by unfold inR;omega) g),eqE (fun _=>rfl) (fun g=>absurd (show inR N by unfold inR;omega) g)⟩
theorem fin_neg {a b N:Int} (hs:Hid (a*b = -N)) (h:Hid (N=hi N*18446744073709551616+lo N)) (c:Hid (hi N=0)) (hl:0≤lo N∧lo N<18446744073709551616) (k:lo N≤9223372036854775808) :
  wrap64 (IntKind.u64.wrap (-lo N))=exV (a*b)∧0=exE (a*b):=by
 have h1:=hs.out;have h2:=h.out;have h3:=c.out;rw[h1]
 exact⟨eqV (fun _=>by rw[IntKind.wrap_u64];unfold wrap64;omega) (fun g=>absurd (show inR (-N)by unfold inR;omega) g),eqE (fun _=>rfl) (fun g=>absurd (show inR (-N)by unfold inR;omega) g)⟩
theorem fin_over1 {a b N:Int} (hs:Hid (a*b=N)) (h:Hid (N=hi N*18446744073709551616+lo N)) (hh:0≤hi N∧hi N<18446744073709551616) (hl:0≤lo N∧lo N<18446744073709551616) (k:9223372036854775807<lo N∨1≤hi N) :
  0=exV (a*b)∧2=exE (a*b):=by
 have h1:=hs.out;have h2:=h.out;rw[h1]
 exact⟨eqV (fun g=>absurd g (show ¬inR N by unfold inR;omega)) (fun _=>rfl),eqE (fun g=>absurd g (show ¬inR N by unfold inR;omega)) (fun _=>rfl)⟩
theorem fin_over {a b N:Int} (hs:Hid (a*b = -N)) (h:Hid (N=hi N*18446744073709551616+lo N)) (hh:0≤hi N∧hi N<18446744073709551616) (hl:0≤lo N∧lo N<18446744073709551616) (k:9223372036854775808<lo N∨1≤hi N) :
  0=exV (a*b)∧2=exE (a*b):=by
 have h1:=hs.out;have h2:=h.out;rw[h1]
 exact⟨eqV (fun g=>absurd g (show ¬inR (-N)by unfold inR;omega)) (fun _=>rfl),eqE (fun g=>absurd g (show ¬inR (-N)by unfold inR;omega)) (fun _=>rfl)⟩
theorem lt_of_grew {w w2:World} {o:Obj} (h:Grew (w.alloc o) w2):w.heap.size<w2.heap.size:=by have:=h.size;simp at this;omega
set_option maxHeartbeats 1000000 in
theorem mul_any (a b:Int) (ha:inR a) (hb:inR b) (w:World) :
  Calls Tryz.prog 184 #[.int .i64 a,.int .i64 b] w fun e w'=>e=.returned (.tuple #[.int .i64 (exV (a*b)),.int .i64 (exE (a*b))])∧Grew w w':=by
 obtain⟨N,hN⟩:∃ N,N=mag a*mag b:=⟨_,rfl⟩
 have hN0:0≤N∧N≤85070591730234615865843651857942052864:=by rw[hN];exact mag_mul_bd ha hb
 have ma:=mag_bd ha
 have mb:=mag_bd hb
 have hlo:=lo_bd N
 have hhi:=hi_bd N hN0.1 (by omega)
 have hNe:N=hi N*18446744073709551616+lo N:=by unfold hi lo;omega
 have HN:=hid hN
 have HNe:=hid hNe
 clear hN hNe
 have cm:∀ w,Calls Tryz.prog 127 #[.int .u64 (mag a),.int .u64 (mag b)] w fun e w'=>e=.returned (.agg #[.int .u32 (d0 N),.int .u32 (d1 N),.int .u32 (d2 N),.int .u32 (d3 N)])∧Grew w w':=by
  intro w;rw[HN.out];exact multiply_any _ _ ma.1 (by omega) mb.1 (by omega) w
 have CM:=hid cm
 clear cm
 by_cases sa:a<0
 ·by_cases sb:b<0
  ·have sa':decide (a<0)=true:=by simpa using sa
   have sb':decide (b<0)=true:=by simpa using sb
   have hs:Hid (a*b=N):=by rw[HN.out];exact mul_same (by simp[sa,sb])
   by_cases c1:hi N=0
   ·have c1':(hi N != 0)=false:=by simp[c1]
    have C1:=hid c1
    clear c1
    by_cases c2:lo N≤9223372036854775807
    ·go_enter Tryz.func184,Tryz.ntmps184
     go_wp2_with (first | (go_at_call 198;refine(size_mag _ ‹_› _).mono ?_;rintro e w' ⟨rfl,rfl⟩) | (go_at_call 127;refine(CM.out _).mono ?_;rintro e w1 ⟨rfl,hg1⟩) | (go_at_call 199;refine(high_N N hN0.1 (by omega) _).mono ?_;rintro e w2 ⟨rfl,hg2⟩;have hc2:=hg2.cells;have hz2:w1.heap.size<w2.heap.size:=lt_of_grew hg2;have HG:Grew w w2:=(hg1.alloc _ _).trans hg2) | (go_at_call 200;refine(low_N N _).mono ?_;rintro e w3 ⟨rfl,hg3⟩;have hc3:=hg3.cells;have hz3:=hg3.size;have HG:=HG.trans hg3))
     go_ret2
     exact⟨ret2 (fin_pos hs HNe C1 hlo c2).1 (fin_pos hs HNe C1 hlo c2).2,HG⟩
    ·go_enter Tryz.func184,Tryz.ntmps184
     go_wp2_with (first | (go_at_call 198;refine(size_mag _ ‹_› _).mono ?_;rintro e w' ⟨rfl,rfl⟩) | (go_at_call 127;refine(CM.out _).mono ?_;rintro e w1 ⟨rfl,hg1⟩) | (go_at_call 199;refine(high_N N hN0.1 (by omega) _).mono ?_;rintro e w2 ⟨rfl,hg2⟩;have hc2:=hg2.cells;have hz2:w1.heap.size<w2.heap.size:=lt_of_grew hg2;have HG:Grew w w2:=(hg1.alloc _ _).trans hg2) | (go_at_call 200;refine(low_N N _).mono ?_;rintro e w3 ⟨rfl,hg3⟩;have hc3:=hg3.cells;have hz3:=hg3.size;have HG:=HG.trans hg3))
     go_ret2
     exact⟨ret2 (fin_over1 hs HNe hhi hlo (by omega)).1 (fin_over1 hs HNe hhi hlo (by omega)).2,HG⟩
   ·have c1':(hi N != 0)=true:=by simp[c1]
    have c2:1≤hi N:=by omega
    clear c1
    go_enter Tryz.func184,Tryz.ntmps184
    go_wp2_with (first | (go_at_call 198;refine(size_mag _ ‹_› _).mono ?_;rintro e w' ⟨rfl,rfl⟩) | (go_at_call 127;refine(CM.out _).mono ?_;rintro e w1 ⟨rfl,hg1⟩) | (go_at_call 199;refine(high_N N hN0.1 (by omega) _).mono ?_;rintro e w2 ⟨rfl,hg2⟩;have hc2:=hg2.cells;have hz2:w1.heap.size<w2.heap.size:=lt_of_grew hg2;have HG:Grew w w2:=(hg1.alloc _ _).trans hg2) | (go_at_call 200;refine(low_N N _).mono ?_;rintro e w3 ⟨rfl,hg3⟩;have hc3:=hg3.cells;have hz3:=hg3.size;have HG:=HG.trans hg3))
    go_ret2
    exact⟨ret2 (fin_over1 hs HNe hhi hlo (by omega)).1 (fin_over1 hs HNe hhi hlo (by omega)).2,HG⟩
  ·have sa':decide (a<0)=true:=by simpa using sa
   have sb':decide (b<0)=false:=by simpa using sb
   have hs:Hid (a*b = -N):=by rw[HN.out];exact mul_other (by simp[sa,sb])
   by_cases c1:hi N=0
   ·have c1':(hi N != 0)=false:=by simp[c1]
    have C1:=hid c1
    clear c1
    by_cases c2:lo N≤9223372036854775808
    ·go_enter Tryz.func184,Tryz.ntmps184
     go_wp2_with (first | (go_at_call 198;refine(size_mag _ ‹_› _).mono ?_;rintro e w' ⟨rfl,rfl⟩) | (go_at_call 127;refine(CM.out _).mono ?_;rintro e w1 ⟨rfl,hg1⟩) | (go_at_call 199;refine(high_N N hN0.1 (by omega) _).mono ?_;rintro e w2 ⟨rfl,hg2⟩;have hc2:=hg2.cells;have hz2:w1.heap.size<w2.heap.size:=lt_of_grew hg2;have HG:Grew w w2:=(hg1.alloc _ _).trans hg2) | (go_at_call 200;refine(low_N N _).mono ?_;rintro e w3 ⟨rfl,hg3⟩;have hc3:=hg3.cells;have hz3:=hg3.size;have HG:=HG.trans hg3))
     go_ret2
     exact⟨ret2 (fin_neg hs HNe C1 hlo c2).1 (fin_neg hs HNe C1 hlo c2).2,HG⟩
    ·go_enter Tryz.func184,Tryz.ntmps184
     go_wp2_with (first | (go_at_call 198;refine(size_mag _ ‹_› _).mono ?_;rintro e w' ⟨rfl,rfl⟩) | (go_at_call 127;refine(CM.out _).mono ?_;rintro e w1 ⟨rfl,hg1⟩) | (go_at_call 199;refine(high_N N hN0.1 (by omega) _).mono ?_;rintro e w2 ⟨rfl,hg2⟩;have hc2:=hg2.cells;have hz2:w1.heap.size<w2.heap.size:=lt_of_grew hg2;have HG:Grew w w2:=(hg1.alloc _ _).trans hg2) | (go_at_call 200;refine(low_N N _).mono ?_;rintro e w3 ⟨rfl,hg3⟩;have hc3:=hg3.cells;have hz3:=hg3.size;have HG:=HG.trans hg3))
     go_ret2
     exact⟨ret2 (fin_over hs HNe hhi hlo (by omega)).1 (fin_over hs HNe hhi hlo (by omega)).2,HG⟩
   ·have c1':(hi N != 0)=true:=by simp[c1]
    have c2:1≤hi N:=by omega
    clear c1
    go_enter Tryz.func184,Tryz.ntmps184
    go_wp2_with (first | (go_at_call 198;refine(size_mag _ ‹_› _).mono ?_;rintro e w' ⟨rfl,rfl⟩) | (go_at_call 127;refine(CM.out _).mono ?_;rintro e w1 ⟨rfl,hg1⟩) | (go_at_call 199;refine(high_N N hN0.1 (by omega) _).mono ?_;rintro e w2 ⟨rfl,hg2⟩;have hc2:=hg2.cells;have hz2:w1.heap.size<w2.heap.size:=lt_of_grew hg2;have HG:Grew w w2:=(hg1.alloc _ _).trans hg2) | (go_at_call 200;refine(low_N N _).mono ?_;rintro e w3 ⟨rfl,hg3⟩;have hc3:=hg3.cells;have hz3:=hg3.size;have HG:=HG.trans hg3))
    go_ret2
    exact⟨ret2 (fin_over hs HNe hhi hlo (by omega)).1 (fin_over hs HNe hhi hlo (by omega)).2,HG⟩
 ·by_cases sb:b<0
  ·have sa':decide (a<0)=false:=by simpa using sa
   have sb':decide (b<0)=true:=by simpa using sb
   have hs:Hid (a*b = -N):=by rw[HN.out];exact mul_other (by simp[sa,sb])
   by_cases c1:hi N=0
   ·have c1':(hi N != 0)=false:=by simp[c1]
    have C1:=hid c1
    clear c1
    by_cases c2:lo N≤9223372036854775808
    ·go_enter Tryz.func184,Tryz.ntmps184
     go_wp2_with (first | (go_at_call 198;refine(size_mag _ ‹_› _).mono ?_;rintro e w' ⟨rfl,rfl⟩) | (go_at_call 127;refine(CM.out _).mono ?_;rintro e w1 ⟨rfl,hg1⟩) | (go_at_call 199;refine(high_N N hN0.1 (by omega) _).mono ?_;rintro e w2 ⟨rfl,hg2⟩;have hc2:=hg2.cells;have hz2:w1.heap.size<w2.heap.size:=lt_of_grew hg2;have HG:Grew w w2:=(hg1.alloc _ _).trans hg2) | (go_at_call 200;refine(low_N N _).mono ?_;rintro e w3 ⟨rfl,hg3⟩;have hc3:=hg3.cells;have hz3:=hg3.size;have HG:=HG.trans hg3))
     go_ret2
     exact⟨ret2 (fin_neg hs HNe C1 hlo c2).1 (fin_neg hs HNe C1 hlo c2).2,HG⟩
    ·go_enter Tryz.func184,Tryz.ntmps184
     go_wp2_with (first | (go_at_call 198;refine(size_mag _ ‹_› _).mono ?_;rintro e w' ⟨rfl,rfl⟩) | (go_at_call 127;refine(CM.out _).mono ?_;rintro e w1 ⟨rfl,hg1⟩) | (go_at_call 199;refine(high_N N hN0.1 (by omega) _).mono ?_;rintro e w2 ⟨rfl,hg2⟩;have hc2:=hg2.cells;have hz2:w1.heap.size<w2.heap.size:=lt_of_grew hg2;have HG:Grew w w2:=(hg1.alloc _ _).trans hg2) | (go_at_call 200;refine(low_N N _).mono ?_;rintro e w3 ⟨rfl,hg3⟩;have hc3:=hg3.cells;have hz3:=hg3.size;have HG:=HG.trans hg3))
     go_ret2
     exact⟨ret2 (fin_over hs HNe hhi hlo (by omega)).1 (fin_over hs HNe hhi hlo (by omega)).2,HG⟩
   ·have c1':(hi N != 0)=true:=by simp[c1]
    have c2:1≤hi N:=by omega
    clear c1
    go_enter Tryz.func184,Tryz.ntmps184
    go_wp2_with (first | (go_at_call 198;refine(size_mag _ ‹_› _).mono ?_;rintro e w' ⟨rfl,rfl⟩) | (go_at_call 127;refine(CM.out _).mono ?_;rintro e w1 ⟨rfl,hg1⟩) | (go_at_call 199;refine(high_N N hN0.1 (by omega) _).mono ?_;rintro e w2 ⟨rfl,hg2⟩;have hc2:=hg2.cells;have hz2:w1.heap.size<w2.heap.size:=lt_of_grew hg2;have HG:Grew w w2:=(hg1.alloc _ _).trans hg2) | (go_at_call 200;refine(low_N N _).mono ?_;rintro e w3 ⟨rfl,hg3⟩;have hc3:=hg3.cells;have hz3:=hg3.size;have HG:=HG.trans hg3))
    go_ret2
    exact⟨ret2 (fin_over hs HNe hhi hlo (by omega)).1 (fin_over hs HNe hhi hlo (by omega)).2,HG⟩
  ·have sa':decide (a<0)=false:=by simpa using sa
   have sb':decide (b<0)=false:=by simpa using sb
   have hs:Hid (a*b=N):=by rw[HN.out];exact mul_same (by simp[sa,sb])
   by_cases c1:hi N=0
   ·have c1':(hi N != 0)=false:=by simp[c1]
    have C1:=hid c1
    clear c1
    by_cases c2:lo N≤9223372036854775807
    ·go_enter Tryz.func184,Tryz.ntmps184
     go_wp2_with (first | (go_at_call 198;refine(size_mag _ ‹_› _).mono ?_;rintro e w' ⟨rfl,rfl⟩) | (go_at_call 127;refine(CM.out _).mono ?_;rintro e w1 ⟨rfl,hg1⟩) | (go_at_call 199;refine(high_N N hN0.1 (by omega) _).mono ?_;rintro e w2 ⟨rfl,hg2⟩;have hc2:=hg2.cells;have hz2:w1.heap.size<w2.heap.size:=lt_of_grew hg2;have HG:Grew w w2:=(hg1.alloc _ _).trans hg2) | (go_at_call 200;refine(low_N N _).mono ?_;rintro e w3 ⟨rfl,hg3⟩;have hc3:=hg3.cells;have hz3:=hg3.size;have HG:=HG.trans hg3))
     go_ret2
     exact⟨ret2 (fin_pos hs HNe C1 hlo c2).1 (fin_pos hs HNe C1 hlo c2).2,HG⟩
    ·go_enter Tryz.func184,Tryz.ntmps184
     go_wp2_with (first | (go_at_call 198;refine(size_mag _ ‹_› _).mono ?_;rintro e w' ⟨rfl,rfl⟩) | (go_at_call 127;refine(CM.out _).mono ?_;rintro e w1 ⟨rfl,hg1⟩) | (go_at_call 199;refine(high_N N hN0.1 (by omega) _).mono ?_;rintro e w2 ⟨rfl,hg2⟩;have hc2:=hg2.cells;have hz2:w1.heap.size<w2.heap.size:=lt_of_grew hg2;have HG:Grew w w2:=(hg1.alloc _ _).trans hg2) | (go_at_call 200;refine(low_N N _).mono ?_;rintro e w3 ⟨rfl,hg3⟩;have hc3:=hg3.cells;have hz3:=hg3.size;have HG:=HG.trans hg3))
     go_ret2
     exact⟨ret2 (fin_over1 hs HNe hhi hlo (by omega)).1 (fin_over1 hs HNe hhi hlo (by omega)).2,HG⟩
   ·have c1':(hi N != 0)=true:=by simp[c1]
    have c2:1≤hi N:=by omega
    clear c1
    go_enter Tryz.func184,Tryz.ntmps184
    go_wp2_with (first | (go_at_call 198;refine(size_mag _ ‹_› _).mono ?_;rintro e w' ⟨rfl,rfl⟩) | (go_at_call 127;refine(CM.out _).mono ?_;rintro e w1 ⟨rfl,hg1⟩) | (go_at_call 199;refine(high_N N hN0.1 (by omega) _).mono ?_;rintro e w2 ⟨rfl,hg2⟩;have hc2:=hg2.cells;have hz2:w1.heap.size<w2.heap.size:=lt_of_grew hg2;have HG:Grew w w2:=(hg1.alloc _ _).trans hg2) | (go_at_call 200;refine(low_N N _).mono ?_;rintro e w3 ⟨rfl,hg3⟩;have hc3:=hg3.cells;have hz3:=hg3.size;have HG:=HG.trans hg3))
    go_ret2
    exact⟨ret2 (fin_over1 hs HNe hhi hlo (by omega)).1 (fin_over1 hs HNe hhi hlo (by omega)).2,HG⟩
end Go.Proofs.YtikcigjbhohboaaGreat.qar
end
section
namespace Go.Proofs.YtikcigjbhohboaaGreat.qar
open Go.ChangeShapes Go.WideShapes Go.ChangeAt Go.RowKit
def cmp4 (a0 a1 a2 a3 b0 b1 b2 b3:Int):Int :=
 if a3<b3 then -1 else if b3<a3 then 1 else if a2<b2 then -1 else if b2<a2 then 1 else if a1<b1 then -1 else if b1<a1 then 1 else if a0<b0 then -1 else if b0<a0 then 1 else 0
theorem cmp4_sgn (N M:Int):cmp4 (d0 N) (d1 N) (d2 N) (d3 N) (d0 M) (d1 M) (d2 M) (d3 M)=sgn N M:=by
 have e1:=dig_eq N
 have e2:=dig_eq M
 have a0:=d0_bd N
 have a1:=d1_bd N
 have a2:=d2_bd N
 have b0:=d0_bd M
 have b1:=d1_bd M
 have b2:=d2_bd M
 unfold cmp4 sgn
 repeat' split
 all_goals omega
theorem Grew.drewN {a w:World} (h:Grew a w) (n:Nat):Grew a (w.drewN n):=⟨⟨h.below.os,h.below.tape,h.below.output,h.below.size,h.below.block⟩,h.grown,Nat.le_trans h.draws (Nat.le_add_right _ _)⟩
set_option maxHeartbeats 1000000 in
theorem compare_any (a0 a1 a2 a3 b0 b1 b2 b3:Int) (w:World) :
  Calls Tryz.prog 128 #[.agg #[.int .u32 a0,.int .u32 a1,.int .u32 a2,.int .u32 a3],.agg #[.int .u32 b0,.int .u32 b1,.int .u32 b2,.int .u32 b3]] w fun e w'=>e=.returned (.int .i64 (cmp4 a0 a1 a2 a3 b0 b1 b2 b3))∧Grew w w':=by
 by_cases h3:a3<b3
 ·have hE:Hid (cmp4 a0 a1 a2 a3 b0 b1 b2 b3 = -1):=by show _=_;unfold cmp4;rw[if_pos h3]
  go_enter Tryz.func128,Tryz.ntmps128
  go_wp2
  refine wp_loop_rounds 5 ?_
  rw[rounds_succ]
  go_wp2
  go_quiet (fail)
  go_wp2
  go_ret
  exact⟨ret1 hE.out.symm,by repeat (first | exact Grew.refl _ | apply Grew.drewN | apply Grew.alloc)⟩
 ·by_cases k3:b3<a3
  ·have hE:Hid (cmp4 a0 a1 a2 a3 b0 b1 b2 b3=1):=by show _=_;unfold cmp4;rw[if_neg h3,if_pos k3]
   go_enter Tryz.func128,Tryz.ntmps128
   go_wp2
   refine wp_loop_rounds 5 ?_
   rw[rounds_succ]
   go_wp2
   go_quiet (fail)
   go_wp2
   go_quiet (fail)
   go_wp2
   go_ret
   exact⟨ret1 hE.out.symm,by repeat (first | exact Grew.refl _ | apply Grew.drewN | apply Grew.alloc)⟩
  ·obtain rfl:a3=b3:=by omega
   clear h3 k3
   by_cases h2:a2<b2
   ·have hE:Hid (cmp4 a0 a1 a2 a3 b0 b1 b2 a3 = -1):=by show _=_;simp[cmp4,h2]
    go_enter Tryz.func128,Tryz.ntmps128
    go_wp2
    refine wp_loop_rounds 5 ?_
    rw[rounds_succ]
    go_wp2
    go_quiet (fail)
    go_wp2
    go_quiet (fail)
    go_wp2
    rw[rounds_succ]
    go_wp2
    go_quiet (fail)
    go_wp2
    go_ret
    exact⟨ret1 hE.out.symm,by repeat (first | exact Grew.refl _ | apply Grew.drewN | apply Grew.alloc)⟩
   ·by_cases k2:b2<a2
    ·have hE:Hid (cmp4 a0 a1 a2 a3 b0 b1 b2 a3=1):=by show _=_;simp[cmp4,h2,k2]
     go_enter Tryz.func128,Tryz.ntmps128
     go_wp2
     refine wp_loop_rounds 5 ?_
     rw[rounds_succ]
     go_wp2
     go_quiet (fail)
     go_wp2
     go_quiet (fail)
     go_wp2
     rw[rounds_succ]
     go_wp2
     go_quiet (fail)
     go_wp2
     go_quiet (fail)
     go_wp2
     go_ret
     exact⟨ret1 hE.out.symm,by repeat (first | exact Grew.refl _ | apply Grew.drewN | apply Grew.alloc)⟩
    ·obtain rfl:a2=b2:=by omega
     clear h2 k2
     by_cases h1:a1<b1
     ·have hE:Hid (cmp4 a0 a1 a2 a3 b0 b1 a2 a3 = -1):=by show _=_;simp[cmp4,h1]
      go_enter Tryz.func128,Tryz.ntmps128
      go_wp2
      refine wp_loop_rounds 5 ?_
      rw[rounds_succ]
      go_wp2
      go_quiet (fail)
      go_wp2
      go_quiet (fail)
      go_wp2
      rw[rounds_succ]
      go_wp2
      go_quiet (fail)
      go_wp2
      go_quiet (fail)
      go_wp2
      rw[rounds_succ]
      go_wp2
      go_quiet (fail)
      go_wp2
      go_ret
      exact⟨ret1 hE.out.symm,by repeat (first | exact Grew.refl _ | apply Grew.drewN | apply Grew.alloc)⟩
     ·by_cases k1:b1<a1
      ·have hE:Hid (cmp4 a0 a1 a2 a3 b0 b1 a2 a3=1):=by show _=_;simp[cmp4,h1,k1]
       go_enter Tryz.func128,Tryz.ntmps128
       go_wp2
       refine wp_loop_rounds 5 ?_
       rw[rounds_succ]
       go_wp2
       go_quiet (fail)
       go_wp2
       go_quiet (fail)
       go_wp2
       rw[rounds_succ]
       go_wp2
       go_quiet (fail)
       go_wp2
       go_quiet (fail)
       go_wp2
       rw[rounds_succ]
       go_wp2
       go_quiet (fail)
       go_wp2
       go_quiet (fail)
       go_wp2
       go_ret
       exact⟨ret1 hE.out.symm,by repeat (first | exact Grew.refl _ | apply Grew.drewN | apply Grew.alloc)⟩
      ·obtain rfl:a1=b1:=by omega
       clear h1 k1
       by_cases h0:a0<b0
       ·have hE:Hid (cmp4 a0 a1 a2 a3 b0 a1 a2 a3 = -1):=by show _=_;simp[cmp4,h0]
        go_enter Tryz.func128,Tryz.ntmps128
        go_wp2
        refine wp_loop_rounds 5 ?_
        rw[rounds_succ]
        go_wp2
        go_quiet (fail)
        go_wp2
        go_quiet (fail)
        go_wp2
        rw[rounds_succ]
        go_wp2
        go_quiet (fail)
        go_wp2
        go_quiet (fail)
        go_wp2
        rw[rounds_succ]
        go_wp2
        go_quiet (fail)
        go_wp2
        go_quiet (fail)
        go_wp2
        rw[rounds_succ]
        go_wp2
        go_quiet (fail)
        go_wp2
        go_ret
        exact⟨ret1 hE.out.symm,by repeat (first | exact Grew.refl _ | apply Grew.drewN | apply Grew.alloc)⟩
       ·by_cases k0:b0<a0
        ·have hE:Hid (cmp4 a0 a1 a2 a3 b0 a1 a2 a3=1):=by show _=_;simp[cmp4,h0,k0]
         go_enter Tryz.func128,Tryz.ntmps128
         go_wp2
         refine wp_loop_rounds 5 ?_
         rw[rounds_succ]
         go_wp2
         go_quiet (fail)
         go_wp2
         go_quiet (fail)
         go_wp2
         rw[rounds_succ]
         go_wp2
         go_quiet (fail)
         go_wp2
         go_quiet (fail)
         go_wp2
         rw[rounds_succ]
         go_wp2
         go_quiet (fail)
         go_wp2
         go_quiet (fail)
         go_wp2
         rw[rounds_succ]
         go_wp2
         go_quiet (fail)
         go_wp2
         go_quiet (fail)
         go_wp2
         go_ret
         exact⟨ret1 hE.out.symm,by repeat (first | exact Grew.refl _ | apply Grew.drewN | apply Grew.alloc)⟩
        ·obtain rfl:a0=b0:=by omega
         clear h0 k0
         have hE:Hid (cmp4 a0 a1 a2 a3 a0 a1 a2 a3=0):=by show _=_;simp[cmp4]
         go_enter Tryz.func128,Tryz.ntmps128
         go_wp2
         refine wp_loop_rounds 5 ?_
         rw[rounds_succ]
         go_wp2
         go_quiet (fail)
         go_wp2
         go_quiet (fail)
         go_wp2
         rw[rounds_succ]
         go_wp2
         go_quiet (fail)
         go_wp2
         go_quiet (fail)
         go_wp2
         rw[rounds_succ]
         go_wp2
         go_quiet (fail)
         go_wp2
         go_quiet (fail)
         go_wp2
         rw[rounds_succ]
         go_wp2
         go_quiet (fail)
         go_wp2
         go_quiet (fail)
         go_wp2
         rw[rounds_succ]
         go_wp2
         go_ret
         exact⟨ret1 hE.out.symm,by repeat (first | exact Grew.refl _ | apply Grew.drewN | apply Grew.alloc)⟩
theorem compare_N (N M:Int) (w:World) :
  Calls Tryz.prog 128 #[.agg #[.int .u32 (d0 N),.int .u32 (d1 N),.int .u32 (d2 N),.int .u32 (d3 N)],.agg #[.int .u32 (d0 M),.int .u32 (d1 M),.int .u32 (d2 M),.int .u32 (d3 M)]] w fun e w'=>e=.returned (.int .i64 (sgn N M))∧Grew w w':=by
 rw[←cmp4_sgn];exact compare_any _ _ _ _ _ _ _ _ w
theorem cm_bad {a b c d:Int} (h:a<0∨b≤0∨c<0∨d≤0):0=cmV a b c d∧1=cmE a b c d:=⟨(if_pos h).symm,(if_pos h).symm⟩
theorem cm_good {a b c d:Int} (h0:0≤a) (h1:0<b) (h2:0≤c) (h3:0<d):sgn (a*d) (c*b)=cmV a b c d∧0=cmE a b c d:=⟨(if_neg (by omega)).symm,(if_neg (by omega)).symm⟩
theorem ret2c {a b c d:Int} (h:a=c∧b=d):Ending.returned (.tuple #[.int .i64 a,.int .i64 b])=.returned (.tuple #[.int .i64 c,.int .i64 d]):=by rw[h.1,h.2]
set_option maxHeartbeats 1000000 in
theorem cmp_bad (a b c d:Int) (h:a<0∨b≤0∨c<0∨d≤0) (w:World) :
  Calls Tryz.prog 106 #[.int .i64 a,.int .i64 b,.int .i64 c,.int .i64 d] w fun e w'=>e=.returned (.tuple #[.int .i64 (cmV a b c d),.int .i64 (cmE a b c d)])∧Grew w w':=by
 have hm:=Lib.hid (cm_bad h)
 by_cases h1:a<0
 ·clear h
  go_enter Tryz.func106,Tryz.ntmps106
  go_wp2
  go_ret2
  exact⟨ret2c hm.out,Grew.refl _⟩
 ·by_cases h2:b≤0
  ·clear h
   go_enter Tryz.func106,Tryz.ntmps106
   go_wp2
   go_ret2
   exact⟨ret2c hm.out,Grew.refl _⟩
  ·by_cases h3:c<0
   ·clear h
    go_enter Tryz.func106,Tryz.ntmps106
    go_wp2
    go_ret2
    exact⟨ret2c hm.out,Grew.refl _⟩
   ·have h4:d≤0:=by omega
    clear h
    go_enter Tryz.func106,Tryz.ntmps106
    go_wp2
    go_ret2
    exact⟨ret2c hm.out,Grew.refl _⟩
set_option maxHeartbeats 1000000 in
theorem cmp_good (a b c d:Int) (ha:inR a) (hb:inR b) (hc:inR c) (hd:inR d) (a0:0≤a) (b0:0<b) (c0:0≤c) (d0':0<d) (w:World) :
  Calls Tryz.prog 106 #[.int .i64 a,.int .i64 b,.int .i64 c,.int .i64 d] w fun e w'=>e=.returned (.tuple #[.int .i64 (cmV a b c d),.int .i64 (cmE a b c d)])∧Grew w w':=by
 have hm:=Lib.hid (cm_good a0 b0 c0 d0')
 unfold inR at ha hb hc hd
 obtain⟨ha1,ha2⟩:=ha
 obtain⟨hb1,hb2⟩:=hb
 obtain⟨hc1,hc2⟩:=hc
 obtain⟨hd1,hd2⟩:=hd
 obtain⟨N,hNe⟩:∃ N,N=a*d:=⟨_,rfl⟩
 obtain⟨M,hMe⟩:∃ M,M=c*b:=⟨_,rfl⟩
 have CM:Hid (∀ w,Calls Tryz.prog 127 #[.int .u64 a,.int .u64 d] w fun e w'=>e=.returned (.agg #[.int .u32 (d0 N),.int .u32 (d1 N),.int .u32 (d2 N),.int .u32 (d3 N)])∧Grew w w'):=by
  show ∀ w,_
  intro w;rw[hNe];exact multiply_any _ _ a0 (by omega) (by omega) (by omega) w
 have CN:Hid (∀ w,Calls Tryz.prog 127 #[.int .u64 c,.int .u64 b] w fun e w'=>e=.returned (.agg #[.int .u32 (d0 M),.int .u32 (d1 M),.int .u32 (d2 M),.int .u32 (d3 M)])∧Grew w w'):=by
  show ∀ w,_
  intro w;rw[hMe];exact multiply_any _ _ c0 (by omega) (by omega) (by omega) w
 rw[←hNe,←hMe] at hm
 clear hNe hMe
 go_enter Tryz.func106,Tryz.ntmps106
 go_wp2_with (first | (go_at_call 127;((with_reducible refine(CM.out _).mono ?_);rintro e w1 ⟨rfl,hg1⟩)) | (go_at_call 127;((with_reducible refine(CN.out _).mono ?_);rintro e w2 ⟨rfl,hg2⟩;have hc2:=hg2.cells;have hz2:w1.heap.size<w2.heap.size:=lt_of_grew hg2;have HG:=(hg1.alloc _ _).trans hg2)) | (go_at_call 128;((with_reducible refine(compare_N N M _).mono ?_);rintro e w3 ⟨rfl,hg3⟩)))
 go_ret2
 exact⟨ret2c hm.out,(HG.alloc _ _).trans hg3⟩
theorem cmp_any (a b c d:Int) (ha:inR a) (hb:inR b) (hc:inR c) (hd:inR d) (w:World) :
  Calls Tryz.prog 106 #[.int .i64 a,.int .i64 b,.int .i64 c,.int .i64 d] w fun e w'=>e=.returned (.tuple #[.int .i64 (cmV a b c d),.int .i64 (cmE a b c d)])∧Grew w w':=by
 by_cases h:a<0∨b≤0∨c<0∨d≤0
 ·exact cmp_bad a b c d h w
 ·exact cmp_good a b c d ha hb hc hd (by omega) (by omega) (by omega) (by omega) w
end Go.Proofs.YtikcigjbhohboaaGreat.qar
end
section
namespace Go.Proofs.YtikcigjbhohboaaGreat.qar
open Go.ChangeShapes Go.WideShapes Go.ChangeAt Go.RowKit
theorem ret2d {a b c d:Int} (h:a=c∧b=d):Ending.returned (.tuple #[.int .i64 a,.int .i64 b])=.returned (.tuple #[.int .i64 c,.int .i64 d]):=by rw[h.1,h.2]
theorem cd_bad {a b:Int} (h:a<0∨b≤0):0=cdV a b∧1=cdE a b:=⟨(if_pos h).symm,(if_pos h).symm⟩
theorem cd_zero {a b:Int} (h0:0≤a) (h1:0<b) (h:a % b=0):a/b=cdV a b∧0=cdE a b:=⟨by unfold cdV;rw[if_neg (by omega),if_pos h],(if_neg (by omega)).symm⟩
theorem cd_more {a b:Int} (h0:0≤a) (h1:0<b) (h:a % b≠0):a/b+1=cdV a b∧0=cdE a b:=⟨by unfold cdV;rw[if_neg (by omega),if_neg h],(if_neg (by omega)).symm⟩
theorem cd_small {a b:Int} (ha:inR a) (h0:0≤a) (h1:0<b) (h:a % b≠0):0≤a/b∧a/b≤4611686018427387904:=by
 unfold inR at ha
 have hb:2≤b:=by
  apply Classical.byContradiction;intro hb
  obtain rfl:b=1:=by omega
  omega
 refine⟨Int.ediv_nonneg h0 (by omega),?_⟩
 have:a/b≤a/2:=by
  rw[Int.le_ediv_iff_mul_le (by omega)]
  have h2:=Int.ediv_mul_le a (b:=b) (by omega)
  have h3:=Int.mul_le_mul_of_nonneg_left hb (Int.ediv_nonneg h0 (by omega:0≤b))
  omega
 omega
set_option maxHeartbeats 1000000 in
theorem ceildiv_any (a b:Int) (ha:inR a) (hb:inR b) (w:World) :
  Calls Tryz.prog 208 #[.int .i64 a,.int .i64 b] w fun e w'=>e=.returned (.tuple #[.int .i64 (cdV a b),.int .i64 (cdE a b)])∧w=w':=by
 by_cases h1:a<0
 ·have hm:=Lib.hid (cd_bad (b:=b) (Or.inl h1))
  go_enter Tryz.func208,Tryz.ntmps208
  go_wp2
  go_ret2
  exact⟨ret2d hm.out,rfl⟩
 ·by_cases h2:b≤0
  ·have hm:=Lib.hid (cd_bad (a:=a) (Or.inr h2))
   go_enter Tryz.func208,Tryz.ntmps208
   go_wp2
   go_ret2
   exact⟨ret2d hm.out,rfl⟩
  ·have h1':0≤a:=by omega
   have h2':1≤b:=by omega
   by_cases h3:a % b=0
   ·have hm:=Lib.hid (cd_zero h1' (by omega) h3)
    have h3':(a % b != 0)=false:=by simpa using h3
    unfold inR at ha hb
    clear h3 h1 h2
    go_enter Tryz.func208,Tryz.ntmps208
    go_wp2
    go_ret2
    exact⟨ret2d hm.out,rfl⟩
   ·have hm:=Lib.hid (cd_more h1' (by omega) h3)
    have hs:=cd_small ha h1' (by omega) h3
    have h3':(a % b != 0)=true:=by simpa using h3
    unfold inR at ha hb
    clear h3 h1 h2
    go_enter Tryz.func208,Tryz.ntmps208
    go_wp2
    go_ret2
    exact⟨ret2d hm.out,rfl⟩
structure GRel (a b x y:Int):Prop where
 x0:0≤x
 x1:x≤9223372036854775807
 y0:0≤y
 y1:y≤9223372036854775807
 eq:Int.gcd x y=Int.gcd a b
end Go.Proofs.YtikcigjbhohboaaGreat.qar
end
section
namespace Go.Proofs.YtikcigjbhohboaaGreat.qar
open Go.ChangeShapes Go.WideShapes Go.ChangeAt Go.RowKit
structure RRel (a b c:Int) (K:Nat) (q r:Int):Prop where
 eq:q*c+r=a/2 ^ K*b
 r0:0≤r
 r1:r<c
 q0:0≤q
 q1:q≤9223372036854775807
end Go.Proofs.YtikcigjbhohboaaGreat.qar
end
section
namespace Go.Proofs.YtikcigjbhohboaaGreat.qar
open Go.ChangeShapes Go.WideShapes Go.ChangeAt Go.RowKit
theorem _root_.Go.Proofs.YtikcigjbhohboaaGreat.Rd.grew {w w':World} {A:Option Addr} {n:Nat} {zs:List Int} (h:Rd w A n zs) (hg:Grew w w'):Rd w' A n zs :=
 ⟨h.len,h.max,fun hn=>by
  obtain⟨b,off,e,hb,hc⟩:=h.at_ hn
  exact⟨b,off,e,Nat.lt_of_lt_of_le hb hg.size,fun k hk=>by rw[hg.cells _ _ hb];exact hc k hk⟩,h.fit⟩
end Go.Proofs.YtikcigjbhohboaaGreat.qar
end
section
namespace Go.Proofs.YtikcigjbhohboaaGreat.qar
open Go.ChangeShapes Go.WideShapes Go.ChangeAt Go.RowKit
def tm (z t:Int):Int:=mdQ z 4294967296 t true
def ldGo : Int→List (Int × Int)→Int × Int
 | s, []=>(s,0)
 | s,x :: r=>if inR (tm x.1 x.2) then (if inR (s+tm x.1 x.2) then ldGo (s+tm x.1 x.2) r else (0,2)) else (0,2)
structure LRel (zs ts:List Int) (k:Nat) (s:Int):Prop where
 s0:0≤s
 s1:s≤9223372036854775807
 eq:ldGo s ((zs.zip ts).drop k)=ldGo 0 (zs.zip ts)
end Go.Proofs.YtikcigjbhohboaaGreat.qar
end
