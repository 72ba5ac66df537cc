/- Part 5 of a proof: QaC1 QaC2 QaC3 QaC5 QaC6 QaC4 QaB2 QaB3 QaC8 QaL1. -/
import Derived.Below
import Derived.BigQuiet
import Derived.Deep.QuietTactic
import Derived.Lib.Hide
import Derived.LoopN
import Derived.OpenShut
import Derived.ProofKit
import Derived.Test.YtjfaiaipojfhgaaGreatRows
import Derived.WalkKit
import Derived.Test.YtjfaiaipojfhgaaGreatR02
section
namespace Go.Proofs.YtjfaiaipojfhgaaGreat.qar
set_option linter.unusedSimpArgs false
open Go.ChangeShapes Go.WideShapes Go.ChangeAt Go.RowKit
theorem ret2 {a b c d:Int} (h:a=c) (k:b=d):Ending.returned (.tuple #[.int .i64 a,.int .i64 b])=.returned (.tuple #[.int .i64 c,.int .i64 d]):=by rw[h,k]
theorem add_any (a b:Int) (ha:inR a) (hb:inR b) (w:World) :
  Calls Tryz.prog 154 #[.int .i64 a,.int .i64 b] w fun e w'=>e=.returned (.tuple #[.int .i64 (exV (a+b)),.int .i64 (exE (a+b))])∧w=w':=by
 unfold inR at ha hb
 obtain⟨ha1,ha2⟩:=ha
 obtain⟨hb1,hb2⟩:=hb
 by_cases hb0:b<0
 all_goals
  go_enter Tryz.func154,Tryz.ntmps154
  go_wp2
  all_goals
   go_ret2
   refine⟨ret2 (eqV ?_ ?_) (eqE ?_ ?_),rfl⟩ <;> simp[wrap64,inR] at * <;> omega
structure Grew (a b:World):Prop where
 below:Below a.heap.size a b
 grown:Grown a b
theorem Grew.butNo {a b:World} (h:Grew a b):But No a b:=⟨h.below.os,h.below.tape,h.below.output,h.below.size,fun k hk _=>h.below.block k hk⟩
theorem Grew.refl (w:World):Grew w w:=⟨Below.refl _ _,Grown.refl _⟩
theorem Grew.trans {a b c:World} (h:Grew a b) (k:Grew b c):Grew a c :=
 ⟨h.below.trans (k.below.mono h.below.size),World.keptBut_trans h.grown.1 k.grown.1,fun x=>(k.grown.2.1 x).trans (h.grown.2.1 x),Nat.le_trans h.grown.2.2 k.grown.2.2⟩
theorem Grew.alloc {a w:World} (h:Grew a w) (c:Array Value) (t:TypeId):Grew a (w.alloc (.cells c t)):=⟨h.below.alloc h.below.size _,h.grown.alloc c t⟩
theorem Grew.setCell {a w:World} (h:Grew a w) {p:Addr} (hp:a.heap.size≤p.block) (u:Value):Grew a (w.setCell p u):=⟨h.below.setCell hp u,h.grown.setCell hp u⟩
theorem Grew.drew {a w:World} (h:Grew a w):Grew a w.drew:=⟨h.below.drew,h.grown.drew⟩
theorem Grew.size {a w:World} (h:Grew a w):a.heap.size≤w.heap.size:=h.below.size
theorem Grew.cells {W w1:World} (hb:Grew W w1):∀ b o,b<W.heap.size→w1.cell? ⟨b,o,none⟩=W.cell? ⟨b,o,none⟩:=fun b o h=>hb.below.cell (p:=⟨b,o,none⟩) h
theorem ret1 {k:IntKind} {a b:Int} (h:a=b):Ending.returned (.int k a)=.returned (.int k b):=by rw[h]
theorem join_any (a b:Int) (a0:0≤a) (a1:a<4294967296) (b0:0≤b) (b1:b<4294967296) (w:World) :
  Calls Tryz.prog 159 #[.int .u32 a,.int .u32 b] w fun e w'=>e=.returned (.int .u64 (a*4294967296+b))∧w=w':=by
 go_enter Tryz.func159,Tryz.ntmps159
 go_wp2
 go_ret
 exact⟨ret1 (or_join a b a0 a1 b0 b1),rfl⟩
theorem size_any (a:Int) (ha:inR a) (w:World):Calls Tryz.prog 147 #[.int .i64 a] w fun e w'=>e=.returned (.int .u64 a.natAbs)∧w=w':=by
 unfold inR at ha
 obtain⟨ha1,ha2⟩:=ha
 by_cases h:a<0
 ·have e:IntKind.u64.wrap (-IntKind.u64.wrap a)=a.natAbs:=by rw[IntKind.wrap_u64,IntKind.wrap_u64];omega
  have E:=Lib.hid e
  clear e
  go_enter Tryz.func147,Tryz.ntmps147
  go_wp2
  go_ret
  exact⟨ret1 E.out,rfl⟩
 ·go_enter Tryz.func147,Tryz.ntmps147
  go_wp2
  go_ret
  exact⟨ret1 (by omega),rfl⟩
theorem high_any (a b c d:Int) (c0:0≤c) (c1:c<4294967296) (d0:0≤d) (d1:d<4294967296) (w:World) :
  Calls Tryz.prog 148 #[.agg #[.int .u32 a,.int .u32 b,.int .u32 c,.int .u32 d]] w fun e w'=>e=.returned (.int .u64 (d*4294967296+c))∧Grew w w':=by
 go_enter Tryz.func148,Tryz.ntmps148
 go_wp2_with (go_at_call 159;refine(join_any _ _ (by omega) (by omega) (by omega) (by omega) _).mono ?_;rintro e w' ⟨rfl,rfl⟩)
 go_ret
 exact⟨rfl,(Grew.refl _).alloc _ _⟩
theorem low_any (a b c d:Int) (c0:0≤a) (c1:a<4294967296) (d0:0≤b) (d1:b<4294967296) (w:World) :
  Calls Tryz.prog 149 #[.agg #[.int .u32 a,.int .u32 b,.int .u32 c,.int .u32 d]] w fun e w'=>e=.returned (.int .u64 (b*4294967296+a))∧Grew w w':=by
 go_enter Tryz.func149,Tryz.ntmps149
 go_wp2_with (go_at_call 159;refine(join_any _ _ (by omega) (by omega) (by omega) (by omega) _).mono ?_;rintro e w' ⟨rfl,rfl⟩)
 go_ret
 exact⟨rfl,(Grew.refl _).alloc _ _⟩
end Go.Proofs.YtjfaiaipojfhgaaGreat.qar
end
section
namespace Go.Proofs.YtjfaiaipojfhgaaGreat.qar
open Go.ChangeShapes Go.WideShapes Go.ChangeAt Go.RowKit
theorem split_ex (a:Int) (w:World) :
  Calls Tryz.prog 158 #[.int .u64 a] w fun e w'=>e=.returned (.agg #[.int .u32 (a % 4294967296),.int .u32 (a/4294967296 % 4294967296)])∧w.alloc (.cells #[.int .u32 (a % 4294967296),.int .u32 (a/4294967296 % 4294967296)] 209)=w':=by
 go_enter Tryz.func158,Tryz.ntmps158
 go_wp2
 exact bodyPost_ret (v:=.agg #[.int .u32 (a % 4294967296),.int .u32 (a/4294967296 % 4294967296)]) (by simp[results,Tryz.results158,go_sem]) rfl ⟨rfl,rfl⟩
theorem split_as (a x0 x1:Int) (h0:Hid (x0=a % 4294967296)) (h1:Hid (x1=a/4294967296 % 4294967296)) (w:World) :
  Calls Tryz.prog 158 #[.int .u64 a] w fun e w'=>e=.returned (.agg #[.int .u32 x0,.int .u32 x1])∧w.alloc (.cells #[.int .u32 x0,.int .u32 x1] 209)=w':=by
 rw[h0.out,h1.out];exact split_ex a w
theorem school2 (a b:Int) (a0:0≤a) (a1:a<18446744073709551616) (b0:0≤b) (b1:b<18446744073709551616) (x0 x1 y0 y1:Int)
  (hx0:x0=a % 4294967296) (hx1:x1=a/4294967296 % 4294967296) (hy0:y0=b % 4294967296) (hy1:y1=b/4294967296 % 4294967296) :
  x0*y0 % 4294967296=d0 (a*b)∧(x1*y0+(x0*y1+x0*y0/4294967296)) % 4294967296=d1 (a*b)
  ∧ (x1*y1+(x0*y1+x0*y0/4294967296)/4294967296+(x1*y0+(x0*y1+x0*y0/4294967296) % 4294967296)/4294967296) % 4294967296=d2 (a*b)
  ∧ (x1*y1+(x0*y1+x0*y0/4294967296)/4294967296+(x1*y0+(x0*y1+x0*y0/4294967296) % 4294967296)/4294967296)/4294967296=d3 (a*b):=by
 obtain⟨h0,h1,h2,h3,k0,k1,k2,k3⟩:=school a b a0 a1 b0 b1 x0 x1 y0 y1 _ _ _ _ hx0 hx1 hy0 hy1 rfl rfl rfl rfl
 clear hx0 hx1 hy0 hy1
 rw[←h0,←h1,←h2,←h3]
 clear h0 h1 h2 h3
 generalize x0*y0=X at *
 generalize x0*y1=Y at *
 generalize x1*y0=Z at *
 generalize x1*y1=U at *
 have e0:X/4294967296 % 4294967296=X/4294967296:=by omega
 rw[e0] at *
 have e1:(Y+X/4294967296)/4294967296 % 4294967296=(Y+X/4294967296)/4294967296:=by omega
 rw[e1] at *
 have e2:(Z+(Y+X/4294967296) % 4294967296)/4294967296 % 4294967296=(Z+(Y+X/4294967296) % 4294967296)/4294967296:=by omega
 rw[e2] at *
 exact⟨rfl,by omega,rfl,by omega⟩
theorem agg4 {p q r s p' q' r' s':Int} (h0:p=p') (h1:q=q') (h2:r=r') (h3:s=s') :
  Ending.returned (.agg #[.int .u32 p,.int .u32 q,.int .u32 r,.int .u32 s])=.returned (.agg #[.int .u32 p',.int .u32 q',.int .u32 r',.int .u32 s']):=by rw[h0,h1,h2,h3]
theorem mul_bd {x y:Int} (hx:0≤x∧x≤4294967295) (hy:0≤y∧y≤4294967295):0≤x*y∧x*y≤18446744065119617025 :=
 ⟨Int.mul_nonneg hx.1 hy.1,Int.mul_le_mul (c:=4294967295) (d:=4294967295) hx.2 hy.2 hy.1 (by omega)⟩
set_option maxRecDepth 100000 in
set_option maxHeartbeats 1000000 in
theorem multiply_any (a b:Int) (a0:0≤a) (a1:a<18446744073709551616) (b0:0≤b) (b1:b<18446744073709551616) (w:World) :
  Calls Tryz.prog 146 #[.int .u64 a,.int .u64 b] w fun e w'=>e=.returned (.agg #[.int .u32 (d0 (a*b)),.int .u32 (d1 (a*b)),.int .u32 (d2 (a*b)),.int .u32 (d3 (a*b))])∧Grew w w':=by
 obtain⟨x0,hx0⟩:∃ x,x=a % 4294967296:=⟨_,rfl⟩
 obtain⟨x1,hx1⟩:∃ x,x=a/4294967296 % 4294967296:=⟨_,rfl⟩
 obtain⟨y0,hy0⟩:∃ x,x=b % 4294967296:=⟨_,rfl⟩
 obtain⟨y1,hy1⟩:∃ x,x=b/4294967296 % 4294967296:=⟨_,rfl⟩
 have SC:=Lib.hid (school2 a b a0 a1 b0 b1 x0 x1 y0 y1 hx0 hx1 hy0 hy1)
 have bx0:0≤x0∧x0≤4294967295:=by omega
 have bx1:0≤x1∧x1≤4294967295:=by omega
 have by0:0≤y0∧y0≤4294967295:=by omega
 have by1:0≤y1∧y1≤4294967295:=by omega
 have m00:=mul_bd bx0 by0
 have m01:=mul_bd bx0 by1
 have m10:=mul_bd bx1 by0
 have m11:=mul_bd bx1 by1
 have HX0:=Lib.hid hx0
 have HX1:=Lib.hid hx1
 have HY0:=Lib.hid hy0
 have HY1:=Lib.hid hy1
 clear hx0 hx1 hy0 hy1
 have i0:∀ w x y,(Instr.index 209 (.agg #[x,y]) (.int .i64 0)).run Tryz.prog w=.ok x w:=fun _ _ _=>by kernel_rfl
 have i1:∀ w x y,(Instr.index 209 (.agg #[x,y]) (.int .i64 1)).run Tryz.prog w=.ok y w:=fun _ _ _=>by kernel_rfl
 go_enter Tryz.func146,Tryz.ntmps146
 go_wp2_with (go_at_call 158;refine(split_as _ x0 x1 HX0 HX1 _).mono ?_;rintro e w' ⟨rfl,rfl⟩)
 refine wp_loop_rounds 3 ?_
 rw[rounds_succ]
 go_wp2_with (go_at_call 158;refine(split_as _ y0 y1 HY0 HY1 _).mono ?_;rintro e w' ⟨rfl,rfl⟩)
 refine wp_loop_rounds 3 ?_
 rw[rounds_succ]
 go_wp2
 rw[rounds_succ]
 go_wp2
 rw[rounds_succ]
 go_wp2
 rw[rounds_succ]
 go_wp2_with (go_at_call 158;refine(split_as _ y0 y1 HY0 HY1 _).mono ?_;rintro e w' ⟨rfl,rfl⟩)
 refine wp_loop_rounds 3 ?_
 rw[rounds_succ]
 go_wp2
 rw[rounds_succ]
 go_wp2
 rw[rounds_succ]
 go_wp2
 rw[rounds_succ]
 go_wp2
 obtain⟨h0,h1,h2,h3⟩:=SC.out
 refine bodyPost_ret (v:=.agg #[.int .u32 (x0*y0 % 4294967296),.int .u32 ((x1*y0+(x0*y1+x0*y0/4294967296)) % 4294967296),
  .int .u32 ((x1*y1+(x0*y1+x0*y0/4294967296)/4294967296+(x1*y0+(x0*y1+x0*y0/4294967296) % 4294967296)/4294967296) % 4294967296),
  .int .u32 ((x1*y1+(x0*y1+x0*y0/4294967296)/4294967296+(x1*y0+(x0*y1+x0*y0/4294967296) % 4294967296)/4294967296)/4294967296)])
  (by clear h0 h1 h2 h3;simp[results,Tryz.results146,go_sem]) rfl ⟨agg4 h0 h1 h2 h3,?_⟩
 exact(((((Grew.refl _).alloc _ _).alloc _ _).alloc _ _).alloc _ _).alloc _ _
end Go.Proofs.YtjfaiaipojfhgaaGreat.qar
end
section
namespace Go.Proofs.YtjfaiaipojfhgaaGreat.qar
open Go.Lib (hid)
open Go.ChangeShapes Go.WideShapes Go.ChangeAt Go.RowKit
def mag (a:Int):Int:=a.natAbs
theorem mag_bd {a:Int} (h:inR a):0≤mag a∧mag a≤9223372036854775808:=by unfold mag;unfold inR at h;omega
theorem mag_neg {a:Int} (h:a<0):a = - mag a:=by unfold mag;omega
theorem mag_pos {a:Int} (h:0≤a):a=mag a:=by unfold mag;omega
theorem mag_mul_bd {a b:Int} (ha:inR a) (hb:inR b):0≤mag a*mag b∧mag a*mag b≤85070591730234615865843651857942052864 :=
 ⟨Int.mul_nonneg (mag_bd ha).1 (mag_bd hb).1,Int.mul_le_mul (c:=9223372036854775808) (d:=9223372036854775808) (mag_bd ha).2 (mag_bd hb).2 (mag_bd hb).1 (by omega)⟩
theorem mul_same {a b:Int} (h:(a<0)=(b<0)):a*b=mag a*mag b:=by
 by_cases h1:a<0
 ·have h2:b<0:=by rw[←h];exact h1
  rw[mag_neg h1,mag_neg h2,Int.neg_mul_neg];unfold mag;simp
 ·have h2:¬b<0:=by rw[←h];exact h1
  rw[mag_pos (a:=a) (by omega),mag_pos (a:=b) (by omega)];unfold mag;simp
theorem mul_other {a b:Int} (h:(a<0)≠(b<0)):a*b = -(mag a*mag b):=by
 by_cases h1:a<0
 ·have h2:¬b<0:=by intro h2;exact h (by simp[h1,h2])
  rw[mag_neg h1,mag_pos (a:=b) (by omega),Int.neg_mul];unfold mag;simp
 ·have h2:b<0:=by apply Classical.byContradiction;intro h2;exact h (by simp[h1,h2])
  rw[mag_pos (a:=a) (by omega),mag_neg h2,Int.mul_neg];unfold mag;simp
theorem size_mag (a:Int) (ha:inR a) (w:World):Calls Tryz.prog 147 #[.int .i64 a] w fun e w'=>e=.returned (.int .u64 (mag a))∧w=w':=size_any a ha w
theorem high_N (N:Int) (h0:0≤N) (h1:N<340282366920938463463374607431768211456) (w:World) :
  Calls Tryz.prog 148 #[.agg #[.int .u32 (d0 N),.int .u32 (d1 N),.int .u32 (d2 N),.int .u32 (d3 N)]] w fun e w'=>e=.returned (.int .u64 (hi N))∧Grew w w':=by
 rw[←hi_eq N]
 have h2:=d2_bd N
 have h3:=d3_bd N h0 h1
 exact high_any _ _ _ _ h2.1 h2.2 h3.1 h3.2 w
theorem low_N (N:Int) (w:World) :
  Calls Tryz.prog 149 #[.agg #[.int .u32 (d0 N),.int .u32 (d1 N),.int .u32 (d2 N),.int .u32 (d3 N)]] w fun e w'=>e=.returned (.int .u64 (lo N))∧Grew w w':=by
 rw[←lo_eq N]
 have h2:=d0_bd N
 have h3:=d1_bd N
 exact low_any _ _ _ _ h2.1 h2.2 h3.1 h3.2 w
theorem fin_pos {a b N:Int} (hs:Hid (a*b=N)) (h:Hid (N=hi N*18446744073709551616+lo N)) (c:Hid (hi N=0)) (hl:0≤lo N∧lo N<18446744073709551616) (k:lo N≤9223372036854775807) :
  lo N=exV (a*b)∧0=exE (a*b):=by
 have h1:=hs.out;have h2:=h.out;have h3:=c.out;rw[h1]
 exact⟨eqV (fun _=>by omega) (fun g=>absurd (show inR N by unfold inR;omega) g),eqE (fun _=>rfl) (fun g=>absurd (show inR N by unfold inR;omega) g)⟩
theorem fin_neg {a b N:Int} (hs:Hid (a*b = -N)) (h:Hid (N=hi N*18446744073709551616+lo N)) (c:Hid (hi N=0)) (hl:0≤lo N∧lo N<18446744073709551616) (k:lo N≤9223372036854775808) :
  wrap64 (IntKind.u64.wrap (-lo N))=exV (a*b)∧0=exE (a*b):=by
 have h1:=hs.out;have h2:=h.out;have h3:=c.out;rw[h1]
 exact⟨eqV (fun _=>by rw[IntKind.wrap_u64];unfold wrap64;omega) (fun g=>absurd (show inR (-N)by unfold inR;omega) g),eqE (fun _=>rfl) (fun g=>absurd (show inR (-N)by unfold inR;omega) g)⟩
theorem fin_over1 {a b N:Int} (hs:Hid (a*b=N)) (h:Hid (N=hi N*18446744073709551616+lo N)) (hh:0≤hi N∧hi N<18446744073709551616) (hl:0≤lo N∧lo N<18446744073709551616) (k:9223372036854775807<lo N∨1≤hi N) :
  0=exV (a*b)∧2=exE (a*b):=by
 have h1:=hs.out;have h2:=h.out;rw[h1]
 exact⟨eqV (fun g=>absurd g (show ¬inR N by unfold inR;omega)) (fun _=>rfl),eqE (fun g=>absurd g (show ¬inR N by unfold inR;omega)) (fun _=>rfl)⟩
theorem fin_over {a b N:Int} (hs:Hid (a*b = -N)) (h:Hid (N=hi N*18446744073709551616+lo N)) (hh:0≤hi N∧hi N<18446744073709551616) (hl:0≤lo N∧lo N<18446744073709551616) (k:9223372036854775808<lo N∨1≤hi N) :
  0=exV (a*b)∧2=exE (a*b):=by
 have h1:=hs.out;have h2:=h.out;rw[h1]
 exact⟨eqV (fun g=>absurd g (show ¬inR (-N)by unfold inR;omega)) (fun _=>rfl),eqE (fun g=>absurd g (show ¬inR (-N)by unfold inR;omega)) (fun _=>rfl)⟩
theorem lt_of_grew {w w2:World} {o:Obj} (h:Grew (w.alloc o) w2):w.heap.size<w2.heap.size:=by have:=h.size;simp at this;omega
set_option maxHeartbeats 1000000 in
theorem mul_any (a b:Int) (ha:inR a) (hb:inR b) (w:World) :
  Calls Tryz.prog 131 #[.int .i64 a,.int .i64 b] w fun e w'=>e=.returned (.tuple #[.int .i64 (exV (a*b)),.int .i64 (exE (a*b))])∧Grew w w':=by
 obtain⟨N,hN⟩:∃ N,N=mag a*mag b:=⟨_,rfl⟩
 have hN0:0≤N∧N≤85070591730234615865843651857942052864:=by rw[hN];exact mag_mul_bd ha hb
 have ma:=mag_bd ha
 have mb:=mag_bd hb
 have hlo:=lo_bd N
 have hhi:=hi_bd N hN0.1 (by omega)
 have hNe:N=hi N*18446744073709551616+lo N:=by unfold hi lo;omega
 have HN:=hid hN
 have HNe:=hid hNe
 clear hN hNe
 have cm:∀ w,Calls Tryz.prog 146 #[.int .u64 (mag a),.int .u64 (mag b)] w fun e w'=>e=.returned (.agg #[.int .u32 (d0 N),.int .u32 (d1 N),.int .u32 (d2 N),.int .u32 (d3 N)])∧Grew w w':=by
  intro w;rw[HN.out];exact multiply_any _ _ ma.1 (by omega) mb.1 (by omega) w
 have CM:=hid cm
 clear cm
 have SG:((decide (a<0)=true∧decide (b<0)=true∧a*b=N)∨(decide (a<0)=false∧decide (b<0)=false∧a*b=N))∨(decide (a<0)=true∧decide (b<0)=false∧a*b = -N)∨(decide (a<0)=false∧decide (b<0)=true∧a*b = -N):=by
  rw[HN.out]
  by_cases sa:a<0 <;> by_cases sb:b<0
  ·exact .inl (.inl ⟨by simpa using sa,by simpa using sb,mul_same (by simp[sa,sb])⟩)
  ·exact .inr (.inl ⟨by simpa using sa,by simpa using sb,mul_other (by simp[sa,sb])⟩)
  ·exact .inr (.inr ⟨by simpa using sa,by simpa using sb,mul_other (by simp[sa,sb])⟩)
  ·exact .inl (.inr ⟨by simpa using sa,by simpa using sb,mul_same (by simp[sa,sb])⟩)
 have SC:(hi N=0∧(hi N != 0)=false)∨(1≤hi N∧(hi N != 0)=true):=by
  by_cases c1:hi N=0
  ·exact .inl ⟨c1,by simp[c1]⟩
  ·exact .inr ⟨by omega,by simp[c1]⟩
 rcases SG with SG | SG
 ·have c2:=Decidable.em (lo N≤9223372036854775807)
  rcases SG with⟨sa',sb',hs⟩ | ⟨sa',sb',hs⟩
  all_goals replace hs:=hid hs
  all_goals rcases SC with⟨c1,c1'⟩ | ⟨c2,c1'⟩
  all_goals try(replace c1:=hid c1;rcases c2 with c2 | c2)
  all_goals
   go_enter Tryz.func131,Tryz.ntmps131
   go_wp2_with (first | (go_at_call 147;refine(size_mag _ ‹_› _).mono ?_;rintro e w' ⟨rfl,rfl⟩) | (go_at_call 146;refine(CM.out _).mono ?_;rintro e w1 ⟨rfl,hg1⟩) | (go_at_call 148;refine(high_N N hN0.1 (by omega) _).mono ?_;rintro e w2 ⟨rfl,hg2⟩;have hc2:=hg2.cells;have hz2:w1.heap.size<w2.heap.size:=lt_of_grew hg2;have HG:Grew w w2:=(hg1.alloc _ _).trans hg2) | (go_at_call 149;refine(low_N N _).mono ?_;rintro e w3 ⟨rfl,hg3⟩;have hc3:=hg3.cells;have hz3:=hg3.size;have HG:=HG.trans hg3))
   go_ret2
   first
   | exact⟨ret2 (fin_pos hs HNe c1 hlo c2).1 (fin_pos hs HNe c1 hlo c2).2,HG⟩
   | exact⟨ret2 (fin_over1 hs HNe hhi hlo (by omega)).1 (fin_over1 hs HNe hhi hlo (by omega)).2,HG⟩
 ·have c2:=Decidable.em (lo N≤9223372036854775808)
  rcases SG with⟨sa',sb',hs⟩ | ⟨sa',sb',hs⟩
  all_goals replace hs:=hid hs
  all_goals rcases SC with⟨c1,c1'⟩ | ⟨c2,c1'⟩
  all_goals try(replace c1:=hid c1;rcases c2 with c2 | c2)
  all_goals
   go_enter Tryz.func131,Tryz.ntmps131
   go_wp2_with (first | (go_at_call 147;refine(size_mag _ ‹_› _).mono ?_;rintro e w' ⟨rfl,rfl⟩) | (go_at_call 146;refine(CM.out _).mono ?_;rintro e w1 ⟨rfl,hg1⟩) | (go_at_call 148;refine(high_N N hN0.1 (by omega) _).mono ?_;rintro e w2 ⟨rfl,hg2⟩;have hc2:=hg2.cells;have hz2:w1.heap.size<w2.heap.size:=lt_of_grew hg2;have HG:Grew w w2:=(hg1.alloc _ _).trans hg2) | (go_at_call 149;refine(low_N N _).mono ?_;rintro e w3 ⟨rfl,hg3⟩;have hc3:=hg3.cells;have hz3:=hg3.size;have HG:=HG.trans hg3))
   go_ret2
   first
   | exact⟨ret2 (fin_neg hs HNe c1 hlo c2).1 (fin_neg hs HNe c1 hlo c2).2,HG⟩
   | exact⟨ret2 (fin_over hs HNe hhi hlo (by omega)).1 (fin_over hs HNe hhi hlo (by omega)).2,HG⟩
end Go.Proofs.YtjfaiaipojfhgaaGreat.qar
end
section
namespace Go.Proofs.YtjfaiaipojfhgaaGreat.qar
open Go.ChangeShapes Go.WideShapes Go.ChangeAt Go.RowKit
theorem Grew.drewN {a w:World} (h:Grew a w) (n:Nat):Grew a (w.drewN n):=⟨⟨h.below.os,h.below.tape,h.below.output,h.below.size,h.below.block⟩,h.grown⟩
end Go.Proofs.YtjfaiaipojfhgaaGreat.qar
end
section
namespace Go.Proofs.YtjfaiaipojfhgaaGreat.qar
open Go.ChangeShapes Go.WideShapes Go.ChangeAt Go.RowKit
theorem ret2d {a b c d:Int} (h:a=c∧b=d):Ending.returned (.tuple #[.int .i64 a,.int .i64 b])=.returned (.tuple #[.int .i64 c,.int .i64 d]):=by rw[h.1,h.2]
theorem cd_bad {a b:Int} (h:a<0∨b≤0):0=cdV a b∧1=cdE a b:=⟨(if_pos h).symm,(if_pos h).symm⟩
theorem cd_zero {a b:Int} (h0:0≤a) (h1:0<b) (h:a % b=0):a/b=cdV a b∧0=cdE a b:=⟨by unfold cdV;rw[if_neg (by omega),if_pos h],(if_neg (by omega)).symm⟩
theorem cd_more {a b:Int} (h0:0≤a) (h1:0<b) (h:a % b≠0):a/b+1=cdV a b∧0=cdE a b:=⟨by unfold cdV;rw[if_neg (by omega),if_neg h],(if_neg (by omega)).symm⟩
theorem cd_small {a b:Int} (ha:inR a) (h0:0≤a) (h1:0<b) (h:a % b≠0):0≤a/b∧a/b≤4611686018427387904:=by
 unfold inR at ha
 have hb:2≤b:=by
  apply Classical.byContradiction;intro hb
  obtain rfl:b=1:=by omega
  omega
 refine⟨Int.ediv_nonneg h0 (by omega),?_⟩
 have:a/b≤a/2:=by
  rw[Int.le_ediv_iff_mul_le (by omega)]
  have h2:=Int.ediv_mul_le a (b:=b) (by omega)
  have h3:=Int.mul_le_mul_of_nonneg_left hb (Int.ediv_nonneg h0 (by omega:0≤b))
  omega
 omega
set_option maxHeartbeats 1000000 in
theorem ceildiv_any (a b:Int) (ha:inR a) (hb:inR b) (w:World) :
  Calls Tryz.prog 157 #[.int .i64 a,.int .i64 b] w fun e w'=>e=.returned (.tuple #[.int .i64 (cdV a b),.int .i64 (cdE a b)])∧w=w':=by
 by_cases h1:a<0
 ·have hm:=Lib.hid (cd_bad (b:=b) (Or.inl h1))
  go_enter Tryz.func157,Tryz.ntmps157
  go_wp2
  go_ret2
  exact⟨ret2d hm.out,rfl⟩
 ·by_cases h2:b≤0
  ·have hm:=Lib.hid (cd_bad (a:=a) (Or.inr h2))
   go_enter Tryz.func157,Tryz.ntmps157
   go_wp2
   go_ret2
   exact⟨ret2d hm.out,rfl⟩
  ·have h1':0≤a:=by omega
   have h2':1≤b:=by omega
   by_cases h3:a % b=0
   ·have hm:=Lib.hid (cd_zero h1' (by omega) h3)
    have h3':(a % b != 0)=false:=by simpa using h3
    unfold inR at ha hb
    clear h3 h1 h2
    go_enter Tryz.func157,Tryz.ntmps157
    go_wp2
    go_ret2
    exact⟨ret2d hm.out,rfl⟩
   ·have hm:=Lib.hid (cd_more h1' (by omega) h3)
    have hs:=cd_small ha h1' (by omega) h3
    have h3':(a % b != 0)=true:=by simpa using h3
    unfold inR at ha hb
    clear h3 h1 h2
    go_enter Tryz.func157,Tryz.ntmps157
    go_wp2
    go_ret2
    exact⟨ret2d hm.out,rfl⟩
structure GRel (a b x y:Int):Prop where
 x0:0≤x
 x1:x≤9223372036854775807
 y0:0≤y
 y1:y≤9223372036854775807
 eq:Int.gcd x y=Int.gcd a b
theorem GRel.start {a b:Int} (ha:inR a) (hb:inR b) (h0:0≤a) (h1:0≤b):GRel a b a b:=by unfold inR at ha hb;exact⟨h0,ha.2,h1,hb.2,rfl⟩
theorem GRel.next {a b x y:Int} (h:GRel a b x y) (hy:0<y):GRel a b y (x % y):=by
 refine⟨h.y0,h.y1,Int.emod_nonneg _ (by omega),?_,?_⟩
 ·have:=Int.emod_lt_of_pos x hy;have:=h.y1;omega
 ·rw[←h.eq]
  have hx:=h.x0
  obtain⟨m,rfl⟩:=Int.eq_ofNat_of_zero_le hx
  obtain⟨n,rfl⟩:=Int.eq_ofNat_of_zero_le h.y0
  show Nat.gcd n ((m:Int) % (n:Int)).natAbs=Nat.gcd m n
  have e:((m:Int) % (n:Int)).natAbs=m % n:=by rw[←Int.natCast_emod];rfl
  rw[e,Nat.gcd_comm m n,Nat.gcd_rec n m,Nat.gcd_comm]
theorem GRel.done {a b x y:Int} (h:GRel a b x y) (hy:y=0):x=Int.gcd a b:=by
 rw[←h.eq,hy,Int.gcd_zero_right];have:=h.x0;omega
end Go.Proofs.YtjfaiaipojfhgaaGreat.qar
end
section
namespace Go.Proofs.YtjfaiaipojfhgaaGreat.qar
open Go.ChangeShapes Go.WideShapes Go.ChangeAt Go.RowKit
theorem ret3 {a b c d:Int} {t:Bool} (h:a=c) (k:b=d):Ending.returned (.tuple #[.int .u64 a,.int .u64 b,.bool t])=.returned (.tuple #[.int .u64 c,.int .u64 d,.bool t]):=by rw[h,k]
theorem divide_no (N c:Int) (h0:0≤N) (h1:N<340282366920938463463374607431768211456) (hc:c≤hi N) (w:World) :
  Calls Tryz.prog 160 #[.agg #[.int .u32 (d0 N),.int .u32 (d1 N),.int .u32 (d2 N),.int .u32 (d3 N)],.int .u64 c] w fun e w'=>e=.returned (.tuple #[.int .u64 0,.int .u64 0,.bool false])∧Grew w w':=by
 go_enter Tryz.func160,Tryz.ntmps160
 go_wp2_with (go_at_call 148;refine(high_N N h0 h1 _).mono ?_;rintro e w2 ⟨rfl,hg2⟩;have HG:=((Grew.refl w).alloc _ _).trans hg2)
 go_ret3
 exact⟨rfl,HG⟩
set_option maxHeartbeats 1000000 in
theorem divide_yes (N c:Int) (h0:0≤N) (h1:N<340282366920938463463374607431768211456) (hc:hi N<c) (hc1:c<9223372036854775808) (w:World) :
  Calls Tryz.prog 160 #[.agg #[.int .u32 (d0 N),.int .u32 (d1 N),.int .u32 (d2 N),.int .u32 (d3 N)],.int .u64 c] w fun e w'=>e=.returned (.tuple #[.int .u64 (N/c),.int .u64 (N % c),.bool true])∧Grew w w':=by
 have hh:=hi_bd N h0 h1
 have hl:=lo_bd N
 have hN:Hid (hi N*18446744073709551616+lo N=N):=by show hi N*18446744073709551616+lo N=N;unfold hi lo;omega
 go_enter Tryz.func160,Tryz.ntmps160
 go_wp2_with (first | (go_at_call 148;refine(high_N N h0 h1 _).mono ?_;rintro e w2 ⟨rfl,hg2⟩;have hc2:=hg2.cells;have hz2:w.heap.size<w2.heap.size:=lt_of_grew hg2;have HG:=((Grew.refl w).alloc _ _).trans hg2) | (go_at_call 149;refine(low_N N _).mono ?_;rintro e w3 ⟨rfl,hg3⟩;have HG:=HG.trans hg3))
 go_loop [4,5,7,15] (fun q r n i=>∃ (k:Nat) (q' r' n':Int),k≤64∧i=.int .i64 k∧q=.int .u64 q'∧r=.int .u64 r'∧n=.int .u64 n'∧Hid (DivRel (hi N) (lo N) c k q' r' n')) (fun _ _ _ i=>64-(intOf i).toNat)
 case atStart=>exact⟨0,0,_,_,by omega,rfl,rfl,rfl,rfl,DivRel.start hh.1 hc⟩
 case round =>
  obtain⟨k,q,r,n,hk,rfl,rfl,rfl,rfl,hd⟩:=hrel
  have hr0:=hd.out.r0
  have hr1:=hd.out.r1
  have hq0:=hd.out.q0
  have hn:=hd.out.nbd hl
  by_cases hlt:k<64
  ·have hq1:=hd.out.qbd hlt
   have e1:=or_bit r (n/9223372036854775808) hr0 (by omega) (by omega) (by omega)
   have e2:=or_bit q 1 hq0 hq1 (by omega) (by omega)
   by_cases hs:r*2+n/9223372036854775808<c
   ·have hd':=Lib.hid (hd.out.less hs hl)
    go_wp2
    go_round
    case rel=>exact⟨k+1,_,_,_,by omega,by go_num,rfl,rfl,rfl,hd'⟩
    case measure=>simp[intOf];omega
   ·have hd':=Lib.hid (hd.out.more (by omega) hl)
    go_wp2
    go_round
    case rel=>exact⟨k+1,_,_,_,by omega,by go_num,rfl,rfl,rfl,hd'⟩
    case measure=>simp[intOf];omega
  ·go_wp2
   go_ret3
   obtain rfl:k=64:=by omega
   have e:=hd.out.done hl
   rw[hN.out] at e
   exact⟨ret3 e.1.symm e.2.symm,HG⟩
theorem ret2b {a b c d:Int} (h:a=c∧b=d):Ending.returned (.tuple #[.int .i64 a,.int .i64 b])=.returned (.tuple #[.int .i64 c,.int .i64 d]):=by rw[h.1,h.2]
theorem div_big {N c:Int} (hc:0<c) (h:c≤hi N):18446744073709551616≤N/c:=by
 have h1:c*18446744073709551616≤N:=by unfold hi at h;omega
 exact(Int.le_ediv_iff_mul_le hc).2 (by rw[Int.mul_comm];exact h1)
theorem mul_pos_bd {a b:Int} (ha:inR a) (hb:inR b) (a0:0≤a) (b0:0≤b):0≤a*b∧a*b≤85070591730234615847396907784232501249:=by
 unfold inR at ha hb
 exact⟨Int.mul_nonneg a0 b0,Int.mul_le_mul (c:=9223372036854775807) (d:=9223372036854775807) ha.2 hb.2 b0 (by omega)⟩
set_option maxHeartbeats 1000000 in
theorem muldiv_bad (a b c:Int) (up:Bool) (h:a<0∨b<0∨c≤0) (w:World) :
  Calls Tryz.prog 153 #[.int .i64 a,.int .i64 b,.int .i64 c,.bool up] w fun e w'=>e=.returned (.tuple #[.int .i64 (mdV a b c up),.int .i64 (mdE a b c up)])∧Grew w w':=by
 have hm:=Lib.hid (md_bad (up:=up) h)
 by_cases h1:a<0
 ·clear h
  go_enter Tryz.func153,Tryz.ntmps153
  go_wp2
  go_ret2
  exact⟨ret2b ⟨hm.out.1.symm,hm.out.2.symm⟩,Grew.refl _⟩
 ·have h1':0≤a:=by omega
  by_cases h2:b<0
  ·clear h
   go_enter Tryz.func153,Tryz.ntmps153
   go_wp2
   go_ret2
   exact⟨ret2b ⟨hm.out.1.symm,hm.out.2.symm⟩,Grew.refl _⟩
  ·have h2':0≤b:=by omega
   have h3':c≤0:=by omega
   clear h h1 h2
   go_enter Tryz.func153,Tryz.ntmps153
   go_wp2
   go_ret2
   exact⟨ret2b ⟨hm.out.1.symm,hm.out.2.symm⟩,Grew.refl _⟩
set_option maxHeartbeats 1000000 in
theorem muldiv_good (a b c:Int) (up:Bool) (ha:inR a) (hb:inR b) (hc:inR c) (a0:0≤a) (b0:0≤b) (c0:0<c) (w:World) :
  Calls Tryz.prog 153 #[.int .i64 a,.int .i64 b,.int .i64 c,.bool up] w fun e w'=>e=.returned (.tuple #[.int .i64 (mdV a b c up),.int .i64 (mdE a b c up)])∧Grew w w':=by
 have hm:=Lib.hid (md_good (up:=up) a0 b0 c0)
 have hN:=mul_pos_bd ha hb a0 b0
 unfold inR at ha hb hc
 obtain⟨ha1,ha2⟩:=ha
 obtain⟨hb1,hb2⟩:=hb
 obtain⟨hc1,hc2⟩:=hc
 obtain⟨N,hNe⟩:∃ N,N=a*b:=⟨_,rfl⟩
 rw[←hNe] at hN
 have HN:=Lib.hid hNe
 clear hNe
 have CM:Hid (∀ w,Calls Tryz.prog 146 #[.int .u64 a,.int .u64 b] w fun e w'=>e=.returned (.agg #[.int .u32 (d0 N),.int .u32 (d1 N),.int .u32 (d2 N),.int .u32 (d3 N)])∧Grew w w'):=by
  show ∀ w,_
  intro w;rw[HN.out];exact multiply_any _ _ a0 (by omega) b0 (by omega) w
 by_cases hf:hi N<c
 ·have HQ:Hid (mdQ a b c up=if up=true∧N % c≠0 then N/c+1 else N/c):=by show _=_;unfold mdQ;rw[←HN.out]
  have hq0:0≤N/c:=Int.ediv_nonneg hN.1 (by omega)
  have hr0:0≤N % c:=Int.emod_nonneg _ (by omega)
  have hr1:N % c<c:=Int.emod_lt_of_pos _ c0
  have hq2:N/c≤N:=Int.ediv_le_self _ hN.1
  obtain⟨q,hqe⟩:∃ q,q=N/c:=⟨_,rfl⟩
  obtain⟨r,hre⟩:∃ r,r=N % c:=⟨_,rfl⟩
  rw[←hqe] at hq0 hq2
  rw[←hre] at hr0 hr1
  have CD:Hid (∀ w,Calls Tryz.prog 160 #[.agg #[.int .u32 (d0 N),.int .u32 (d1 N),.int .u32 (d2 N),.int .u32 (d3 N)],.int .u64 c] w fun e w'=>e=.returned (.tuple #[.int .u64 q,.int .u64 r,.bool true])∧Grew w w'):=by
   show ∀ w,_
   intro w;rw[hqe,hre];exact divide_yes N c hN.1 (by omega) hf (by omega) w
  have HQ':Hid (mdQ a b c up=if up=true∧r≠0 then q+1 else q):=by show _=_;rw[HQ.out,hqe,hre]
  clear HQ hqe hre
  by_cases hq:q≤9223372036854775807
  ·by_cases hup:up=true∧r≠0
   ·have hE:Hid (mdQ a b c up=q+1):=by show _=_;rw[HQ'.out,if_pos hup]
    obtain⟨hu,hr⟩:=hup
    have hr':(r != 0)=true:=by simpa using hr
    clear hr
    subst hu
    go_enter Tryz.func153,Tryz.ntmps153
    go_wp2_with (first | (go_at_call 146;refine(CM.out _).mono ?_;rintro e w1 ⟨rfl,hg1⟩) | (go_at_call 160;refine(CD.out _).mono ?_;rintro e w2 ⟨rfl,hg2⟩;have HG:=hg1.trans hg2) | (go_at_call 154;refine(add_any _ _ (by unfold inR;omega) (by unfold inR;omega) _).mono ?_;rintro e w' ⟨rfl,rfl⟩))
    go_ret2
    exact⟨ret2b ⟨by rw[hm.out.1,hE.out],by rw[hm.out.2,hE.out]⟩,HG⟩
   ·have hE:Hid (mdQ a b c up=q):=by show _=_;rw[HQ'.out,if_neg hup]
    have hin:Hid (inR q):=by show inR q;unfold inR;omega
    cases up
    ·clear hup
     go_enter Tryz.func153,Tryz.ntmps153
     go_wp2_with (first | (go_at_call 146;refine(CM.out _).mono ?_;rintro e w1 ⟨rfl,hg1⟩) | (go_at_call 160;refine(CD.out _).mono ?_;rintro e w2 ⟨rfl,hg2⟩;have HG:=hg1.trans hg2))
     go_ret2
     exact⟨ret2b ⟨by rw[hm.out.1,hE.out,exV_in hin.out],by rw[hm.out.2,hE.out,exE_in hin.out]⟩,HG⟩
    ·have hr':(r != 0)=false:=by simpa using hup
     clear hup
     go_enter Tryz.func153,Tryz.ntmps153
     go_wp2_with (first | (go_at_call 146;refine(CM.out _).mono ?_;rintro e w1 ⟨rfl,hg1⟩) | (go_at_call 160;refine(CD.out _).mono ?_;rintro e w2 ⟨rfl,hg2⟩;have HG:=hg1.trans hg2))
     go_ret2
     exact⟨ret2b ⟨by rw[hm.out.1,hE.out,exV_in hin.out],by rw[hm.out.2,hE.out,exE_in hin.out]⟩,HG⟩
  ·have hin:Hid (¬inR (mdQ a b c up)):=by
    show ¬_;rw[HQ'.out];unfold inR;split <;> omega
   clear HQ'
   go_enter Tryz.func153,Tryz.ntmps153
   go_wp2_with (first | (go_at_call 146;refine(CM.out _).mono ?_;rintro e w1 ⟨rfl,hg1⟩) | (go_at_call 160;refine(CD.out _).mono ?_;rintro e w2 ⟨rfl,hg2⟩;have HG:=hg1.trans hg2))
   go_ret2
   exact⟨ret2b ⟨by rw[hm.out.1,exV_out hin.out],by rw[hm.out.2,exE_out hin.out]⟩,HG⟩
 ·have hq:18446744073709551616≤N/c:=div_big c0 (by omega)
  have hin:Hid (¬inR (mdQ a b c up)):=by
   show ¬_;unfold mdQ;rw[←HN.out];unfold inR;split <;> omega
  clear hq
  go_enter Tryz.func153,Tryz.ntmps153
  go_wp2_with (first | (go_at_call 146;refine(CM.out _).mono ?_;rintro e w1 ⟨rfl,hg1⟩) | (go_at_call 160;refine(divide_no N c hN.1 (by omega) (by omega) _).mono ?_;rintro e w2 ⟨rfl,hg2⟩;have HG:=hg1.trans hg2))
  go_ret2
  exact⟨ret2b ⟨by rw[hm.out.1,exV_out hin.out],by rw[hm.out.2,exE_out hin.out]⟩,HG⟩
theorem muldiv_any (a b c:Int) (up:Bool) (ha:inR a) (hb:inR b) (hc:inR c) (w:World) :
  Calls Tryz.prog 153 #[.int .i64 a,.int .i64 b,.int .i64 c,.bool up] w fun e w'=>e=.returned (.tuple #[.int .i64 (mdV a b c up),.int .i64 (mdE a b c up)])∧Grew w w':=by
 by_cases h:a<0∨b<0∨c≤0
 ·exact muldiv_bad a b c up h w
 ·exact muldiv_good a b c up ha hb hc (by omega) (by omega) (by omega) w
end Go.Proofs.YtjfaiaipojfhgaaGreat.qar
end
section
namespace Go.Proofs.YtjfaiaipojfhgaaGreat.qar
open Go.ChangeShapes Go.WideShapes Go.ChangeAt Go.RowKit
theorem add_in (a b:Int) (ha:inR a) (hb:inR b) (h:inR (a+b)) (w:World) :
  Calls Tryz.prog 154 #[.int .i64 a,.int .i64 b] w fun e w'=>e=.returned (.tuple #[.int .i64 (a+b),.int .i64 0])∧w=w' :=
 (add_any a b ha hb w).mono fun _ _ ⟨k,l⟩=>⟨k.trans (ret2 (exV_in h) (exE_in h)),l⟩
theorem add_out (a b:Int) (ha:inR a) (hb:inR b) (h:¬inR (a+b)) (w:World) :
  Calls Tryz.prog 154 #[.int .i64 a,.int .i64 b] w fun e w'=>e=.returned (.tuple #[.int .i64 0,.int .i64 2])∧w=w' :=
 (add_any a b ha hb w).mono fun _ _ ⟨k,l⟩=>⟨k.trans (ret2 (exV_out h) (exE_out h)),l⟩
end Go.Proofs.YtjfaiaipojfhgaaGreat.qar
end
section
namespace Go.Proofs.YtjfaiaipojfhgaaGreat.qar
open Go.ChangeShapes Go.WideShapes Go.ChangeAt Go.RowKit
theorem md_as (a b c x y:Int) (up:Bool) (ha:inR a) (hb:inR b) (hc:inR c) (h:Hid (x=mdV a b c up∧y=mdE a b c up)) (w:World) :
  Calls Tryz.prog 153 #[.int .i64 a,.int .i64 b,.int .i64 c,.bool up] w fun e w'=>e=.returned (.tuple #[.int .i64 x,.int .i64 y])∧Grew w w' :=
 (muldiv_any a b c up ha hb hc w).mono fun _ _ ⟨k,l⟩=>⟨k.trans (ret2 h.out.1.symm h.out.2.symm),l⟩
theorem md_in {a b c q:Int} {up:Bool} (h0:0≤a) (h1:0≤b) (h2:0<c) (hq:mdQ a b c up=q) (h:inR q):q=mdV a b c up∧0=mdE a b c up:=by
 have g:=md_good (up:=up) h0 h1 h2
 rw[g.1,g.2,hq,exV_in h,exE_in h];exact⟨rfl,rfl⟩
theorem md_out {a b c q:Int} {up:Bool} (h0:0≤a) (h1:0≤b) (h2:0<c) (hq:mdQ a b c up=q) (h:¬inR q):0=mdV a b c up∧2=mdE a b c up:=by
 have g:=md_good (up:=up) h0 h1 h2
 rw[g.1,g.2,hq,exV_out h,exE_out h];exact⟨rfl,rfl⟩
end Go.Proofs.YtjfaiaipojfhgaaGreat.qar
end
section
namespace Go.Proofs.YtjfaiaipojfhgaaGreat.qar
open Go.ChangeShapes Go.WideShapes Go.ChangeAt Go.RowKit
theorem plus_less (r s c:Int) (r0:0≤r) (s0:0≤s) (s1:s<c) (c1:c≤9223372036854775807) (h:r+s<c) (w:World) :
  Calls Tryz.prog 150 #[.int .i64 r,.int .i64 s,.int .i64 c] w fun e w'=>e=.returned (.tuple #[.int .i64 (r+s),.int .i64 0])∧w=w':=by
 go_enter Tryz.func150,Tryz.ntmps150
 go_wp2
 go_ret2
 exact⟨rfl,rfl⟩
theorem plus_more (r s c:Int) (r0:0≤r) (r1:r<c) (_s0:0≤s) (s1:s<c) (c1:c≤9223372036854775807) (h:c≤r+s) (w:World) :
  Calls Tryz.prog 150 #[.int .i64 r,.int .i64 s,.int .i64 c] w fun e w'=>e=.returned (.tuple #[.int .i64 (r+s-c),.int .i64 1])∧w=w':=by
 go_enter Tryz.func150,Tryz.ntmps150
 go_wp2
 go_ret2
 exact⟨ret2 (by omega) rfl,rfl⟩
structure RRel (a b c:Int) (K:Nat) (q r:Int):Prop where
 eq:q*c+r=a/2 ^ K*b
 r0:0≤r
 r1:r<c
 q0:0≤q
 q1:q≤9223372036854775807
theorem RRel.start {a b c:Int} (ha:inR a) (a0:0≤a) (c0:0<c):RRel a b c 63 0 0:=by
 unfold inR at ha
 refine⟨?_,by omega,c0,by omega,by omega⟩
 rw[Int.ediv_eq_zero_of_lt a0 (by
   have:(2:Int) ^ 63=9223372036854775808:=by decide
   omega)]
 simp
theorem pow_pos' (K:Nat):(0:Int)<2 ^ K:=by
 have:0<2 ^ K:=Nat.two_pow_pos K
 exact_mod_cast this
theorem half (a:Int) (K:Nat):a/2 ^ K=a/2 ^ (K+1)*2+a/2 ^ K % 2:=by
 have h:a/2 ^ (K+1)=a/2 ^ K/2:=by
  rw[Int.pow_succ,Int.ediv_ediv_of_nonneg (Int.le_of_lt (pow_pos' K))]
 omega
theorem part_le {a b:Int} (a0:0≤a) (b0:0≤b) (K:Nat):a/2 ^ K*b≤a*b:=Int.mul_le_mul_of_nonneg_right (Int.ediv_le_self _ a0) b0
theorem big_of {a b c x r:Int} (a0:0≤a) (b0:0≤b) (c0:0<c) {K:Nat} (h:x*c+r=a/2 ^ K*b) (r0:0≤r):x≤a*b/c:=by
 rw[Int.le_ediv_iff_mul_le c0]
 have:=part_le a0 b0 K
 omega
theorem twice (a b:Int) (K:Nat):a/2 ^ K*b=a/2 ^ (K+1)*b*2+a/2 ^ K % 2*b:=by
 have h:=half a K
 generalize a/2 ^ K % 2=m at *
 generalize a/2 ^ (K+1)=X at *
 rw[h,Int.add_mul,Int.mul_right_comm]
theorem RRel.over {a b c q r:Int} {K:Nat} (h:RRel a b c (K+1) q r) (a0:0≤a) (b0:0≤b) (c0:0<c) (hq:4611686018427387904≤q):9223372036854775808≤a*b/c:=by
 have h1:(q*2)*c+(r*2+a/2 ^ K % 2*b)=a/2 ^ K*b:=by
  rw[twice a b K,←h.eq,Int.mul_right_comm]
  omega
 have h2:=big_of a0 b0 c0 h1 (by have:=h.r0;have:=Int.mul_nonneg (show 0≤a/2 ^ K % 2 by omega) b0;omega)
 omega
theorem RRel.zero {a b c q r q' r' o:Int} {K:Nat} (h:RRel a b c (K+1) q r) (hb:a/2 ^ K % 2=0) (ho:r*2=o*c+r') (r0:0≤r') (r1:r'<c) (hq:q'=q*2+o) (q0:0≤q') (q1:q'≤9223372036854775807) :
  RRel a b c K q' r':=by
 refine⟨?_,r0,r1,q0,q1⟩
 rw[twice a b K,hb,Int.zero_mul,Int.add_zero,←h.eq,hq,Int.add_mul,Int.mul_right_comm]
 omega
theorem plus_any (r s c:Int) (r0:0≤r) (r1:r<c) (s0:0≤s) (s1:s<c) (c1:c≤9223372036854775807) :
  ∃ x o:Int,(0≤x∧x<c)∧(0≤o∧o≤1)∧r+s=o*c+x∧∀ w,Calls Tryz.prog 150 #[.int .i64 r,.int .i64 s,.int .i64 c] w fun e w'=>e=.returned (.tuple #[.int .i64 x,.int .i64 o])∧w=w':=by
 by_cases h:r+s<c
 ·exact⟨r+s,0,by omega,by omega,by omega,plus_less r s c r0 s0 s1 c1 h⟩
 ·exact⟨r+s-c,1,by omega,by omega,by omega,plus_more r s c r0 r1 s0 s1 c1 (by omega)⟩
theorem RRel.done {a b c q r:Int} (h:RRel a b c 0 q r):a*b/c=q∧a*b % c=r:=by
 refine divmod_of ?_ h.r0 h.r1
 have:=h.eq
 simpa using this
end Go.Proofs.YtjfaiaipojfhgaaGreat.qar
end
section
namespace Go.Proofs.YtjfaiaipojfhgaaGreat.qar
open Go.ChangeShapes Go.WideShapes Go.ChangeAt Go.RowKit
theorem _root_.Go.Proofs.YtjfaiaipojfhgaaGreat.Rd.grew {w w':World} {A:Option Addr} {n:Nat} {zs:List Int} (h:Rd w A n zs) (hg:Grew w w'):Rd w' A n zs :=
 ⟨h.len,h.max,fun hn=>by
  obtain⟨b,off,e,hb,hc⟩:=h.at_ hn
  exact⟨b,off,e,Nat.lt_of_lt_of_le hb hg.size,fun k hk=>by rw[hg.cells _ _ hb];exact hc k hk⟩,h.fit⟩
def okL (zs ts:List Int):Bool:=zs.length == ts.length && (List.range zs.length).all fun k=>decide (0≤zs.getD k 0) && decide (0<ts.getD k 0)
theorem okL_false_len {zs ts:List Int} (h:zs.length≠ts.length):okL zs ts=false:=by unfold okL;simp[h]
theorem okL_false_at {zs ts:List Int} {k:Nat} (hk:k<zs.length) (h:zs.getD k 0<0∨ts.getD k 0≤0):okL zs ts=false:=by
 cases hb:okL zs ts with
 | false=>rfl
 | true =>
  unfold okL at hb
  rw[Bool.and_eq_true,List.all_eq_true] at hb
  have:=hb.2 k (List.mem_range.2 hk)
  rw[Bool.and_eq_true,decide_eq_true_eq,decide_eq_true_eq] at this
  omega
theorem okL_true {zs ts:List Int} (hl:zs.length=ts.length) (h:∀ k,k<zs.length→0≤zs.getD k 0∧0<ts.getD k 0):okL zs ts=true:=by
 unfold okL
 rw[Bool.and_eq_true,List.all_eq_true]
 refine⟨by simpa using hl,fun k hk=>?_⟩
 have:=h k (List.mem_range.1 hk)
 rw[Bool.and_eq_true,decide_eq_true_eq,decide_eq_true_eq]
 exact this
theorem okL_at {zs ts:List Int} (h:okL zs ts=true):zs.length=ts.length∧∀ k,k<zs.length→0≤zs.getD k 0∧0<ts.getD k 0:=by
 unfold okL at h
 rw[Bool.and_eq_true,List.all_eq_true] at h
 refine⟨by simpa using h.1,fun k hk=>?_⟩
 have:=h.2 k (List.mem_range.2 hk)
 rw[Bool.and_eq_true,decide_eq_true_eq,decide_eq_true_eq] at this
 exact this
theorem retb {a b:Bool} (h:a=b):Ending.returned (.bool a)=.returned (.bool b):=by rw[h]
set_option maxHeartbeats 1000000 in
theorem isload_any (A B:Option Addr) (n m c d:Nat) (zs ts:List Int) (w:World) (hz:Rd w A n zs) (ht:Rd w B m ts) :
  Calls Tryz.prog 152 #[.slice A n c,.slice B m d] w fun e w'=>e=.returned (.bool (okL zs ts))∧w=w':=by
 have hlz:=hz.len
 have hlt:=ht.len
 have hmx:=hz.max
 have hmy:=ht.max
 by_cases hnm:n=m
 ·subst hnm
  have HL:Hid (zs.length=n∧ts.length=n):=⟨hlz,hlt⟩
  have HZ:=Lib.hid hz
  have HT:=Lib.hid ht
  clear hz ht hlz hlt
  go_enter Tryz.func152,Tryz.ntmps152
  go_wp2
  go_loop [13] (fun i=>∃ k:Nat,k≤n∧i=.int .i64 k∧Hid (∀ j,j<k→0≤zs.getD j 0∧0<ts.getD j 0)) (fun i=>n-(intOf i).toNat)
  case atStart=>exact⟨0,by omega,rfl,fun j hj=>absurd hj (by omega)⟩
  case round =>
   obtain⟨k,hk,rfl,hall⟩:=hrel
   by_cases hlt:k<n
   ·obtain⟨b,off,rfl,hb,hc⟩:=HZ.out.at_ (by omega)
    obtain⟨b',off',rfl,hb',hc'⟩:=HT.out.at_ (by omega)
    have hck:=hc k hlt
    have hck':=hc' k hlt
    clear hc hc'
    obtain⟨z,hze⟩:∃ z,z=zs.getD k 0:=⟨_,rfl⟩
    obtain⟨t,hte⟩:∃ t,t=ts.getD k 0:=⟨_,rfl⟩
    rw[←hze] at hck
    rw[←hte] at hck'
    by_cases h1:z<0
    ·have hE:Hid (okL zs ts=false):=okL_false_at (k:=k) (by rw[HL.out.1];exact hlt) (by omega)
     clear hze hte
     go_wp2
     go_ret
     exact⟨retb hE.out.symm,rfl⟩
    ·by_cases h2:t≤0
     ·have hE:Hid (okL zs ts=false):=okL_false_at (k:=k) (by rw[HL.out.1];exact hlt) (by omega)
      clear hze hte
      go_wp2
      go_ret
      exact⟨retb hE.out.symm,rfl⟩
     ·have hall':Hid (∀ j,j<k+1→0≤zs.getD j 0∧0<ts.getD j 0):=by
       intro j hj
       by_cases e:j=k
       ·subst e;omega
       ·exact hall.out j (by omega)
      clear hze hte
      go_wp2
      go_round
      case rel=>exact⟨k+1,by omega,by go_num,hall'⟩
      case measure=>simp[intOf];omega
   ·have hE:Hid (okL zs ts=true):=okL_true (by rw[HL.out.1,HL.out.2]) (fun j hj=>hall.out j (by have:=HL.out.1;omega))
    go_wp2
    go_ret
    exact⟨retb hE.out.symm,rfl⟩
 ·have hE:Hid (okL zs ts=false):=okL_false_len (by rw[hlz,hlt];exact hnm)
  have hne:((n:Int) != (m:Int))=true:=by simp;omega
  clear hz ht hlz hlt
  go_enter Tryz.func152,Tryz.ntmps152
  go_wp2
  all_goals go_ret
  all_goals exact⟨retb hE.out.symm,rfl⟩
end Go.Proofs.YtjfaiaipojfhgaaGreat.qar
end
