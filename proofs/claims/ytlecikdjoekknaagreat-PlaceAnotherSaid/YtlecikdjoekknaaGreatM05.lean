/- Part 5 of a proof: QaC4 QaB2 QaB3 QaC8 QaL1 QaL2. -/
import Derived.Test.YtlecikdjoekknaaGreatM04
set_option maxRecDepth 100000
set_option maxHeartbeats 16000000
set_option linter.unusedVariables false
set_option linter.unusedSimpArgs false
section
namespace Go.Proofs.YtlecikdjoekknaaGreat.qar
open Go.ChangeShapes Go.WideShapes Go.ChangeAt Go.RowKit
theorem ret3 {a b c d:Int} {t:Bool} (h:a=c) (k:b=d):Ending.returned (.tuple #[.int .u64 a,.int .u64 b,.bool t])=.returned (.tuple #[.int .u64 c,.int .u64 d,.bool t]):=by rw[h,k]
theorem divide_no (N c:Int) (h0:0<=N) (h1:N<340282366920938463463374607431768211456) (hc:c<=hi N) (w:World) :
  Calls Tryz.prog 73 #[.agg #[.int .u32 (d0 N),.int .u32 (d1 N),.int .u32 (d2 N),.int .u32 (d3 N)],.int .u64 c] w λ e w'=>e=.returned (.tuple #[.int .u64 0,.int .u64 0,.bool false])/\Grew w w':=by
 go_enter Tryz.func73,Tryz.ntmps73
 go_wp2_with (go_at_call 109;refine(high_N N h0 h1 _).mono ?_;rintro e w2 ⟨rfl,hg2⟩;have HG:=((Grew.refl w).alloc _ _).trans hg2)
 go_ret3
 exact⟨rfl,HG⟩
theorem divide_yes (N c:Int) (h0:0<=N) (h1:N<340282366920938463463374607431768211456) (hc:hi N<c) (hc1:c<9223372036854775808) (w:World) :
  Calls Tryz.prog 73 #[.agg #[.int .u32 (d0 N),.int .u32 (d1 N),.int .u32 (d2 N),.int .u32 (d3 N)],.int .u64 c] w λ e w'=>e=.returned (.tuple #[.int .u64 (N/c),.int .u64 (N % c),.bool true])/\Grew w w':=by
 have hh:=hi_bd N h0 h1
 have hl:=lo_bd N
 have hN:Hid (hi N*18446744073709551616+lo N=N):=by show hi N*18446744073709551616+lo N=N;unfold hi lo;omega
 go_enter Tryz.func73,Tryz.ntmps73
 go_wp2_with (first | (go_at_call 109;refine(high_N N h0 h1 _).mono ?_;rintro e w2 ⟨rfl,hg2⟩;have hc2:=hg2.cells;have hz2:w.heap.size<w2.heap.size:=lt_of_grew hg2;have HG:=((Grew.refl w).alloc _ _).trans hg2) | (go_at_call 110;refine(low_N N _).mono ?_;rintro e w3 ⟨rfl,hg3⟩;have HG:=HG.trans hg3))
 go_loop [4,5,7,15] (λ q r n i=>∃ (k:Nat) (q' r' n':Int),k<=64/\i=.int .i64 k/\q=.int .u64 q'/\r=.int .u64 r'/\n=.int .u64 n'/\Hid (DivRel (hi N) (lo N) c k q' r' n')) (λ _ _ _ i=>64-(intOf i).toNat)
 case atStart=>exact⟨0,0,_,_,by omega,rfl,rfl,rfl,rfl,DivRel.start hh.1 hc⟩
 case round =>
  obtain⟨k,q,r,n,hk,rfl,rfl,rfl,rfl,hd⟩:=hrel
  have hr0:=hd.out.r0
  have hr1:=hd.out.r1
  have hq0:=hd.out.q0
  have hn:=hd.out.nbd hl
  by_cases hlt:k<64
  ·have hq1:=hd.out.qbd hlt
   have e1:=or_bit r (n/9223372036854775808) hr0 (by omega) (by omega) (by omega)
   have e2:=or_bit q 1 hq0 hq1 (by omega) (by omega)
   by_cases hs:r*2+n/9223372036854775808<c
   ·have hd':=Lib.hid (hd.out.less hs hl)
    go_wp2
    go_round
    case rel=>exact⟨k+1,_,_,_,by omega,by go_num,rfl,rfl,rfl,hd'⟩
    case measure=>simp[intOf];omega
   ·have hd':=Lib.hid (hd.out.more (by omega) hl)
    go_wp2
    go_round
    case rel=>exact⟨k+1,_,_,_,by omega,by go_num,rfl,rfl,rfl,hd'⟩
    case measure=>simp[intOf];omega
  ·go_wp2
   go_ret3
   obtain rfl:k=64:=by omega
   have e:=hd.out.done hl
   rw[hN.out] at e
   exact⟨ret3 e.1.symm e.2.symm,HG⟩
theorem ret2b {a b c d:Int} (h:a=c/\b=d):Ending.returned (.tuple #[.int .i64 a,.int .i64 b])=.returned (.tuple #[.int .i64 c,.int .i64 d]):=by rw[h.1,h.2]
theorem div_big {N c:Int} (hc:0<c) (h:c<=hi N):18446744073709551616<=N/c:=by
 have h1:c*18446744073709551616<=N:=by unfold hi at h;omega
 exact(Int.le_ediv_iff_mul_le hc).2 (by rw[Int.mul_comm];exact h1)
theorem mul_pos_bd {a b:Int} (ha:inR a) (hb:inR b) (a0:0<=a) (b0:0<=b):0<=a*b/\a*b<=85070591730234615847396907784232501249:=by
 unfold inR at ha hb
 exact⟨Int.mul_nonneg a0 b0,Int.mul_le_mul (c:=9223372036854775807) (d:=9223372036854775807) ha.2 hb.2 b0 (by omega)⟩
theorem muldiv_bad (a b c:Int) (up:Bool) (h:a<0\/b<0\/c<=0) (w:World) :
  Calls Tryz.prog 40 #[.int .i64 a,.int .i64 b,.int .i64 c,.bool up] w λ e w'=>e=.returned (.tuple #[.int .i64 (mdV a b c up),.int .i64 (mdE a b c up)])/\Grew w w':=by
 have hm:=Lib.hid (md_bad (up:=up) h)
 by_cases h1:a<0
 ·clear h
  go_enter Tryz.func40,Tryz.ntmps40
  go_wp2
  go_ret2
  exact⟨ret2b ⟨hm.out.1.symm,hm.out.2.symm⟩,Grew.refl _⟩
 ·have h1':0<=a:=by omega
  by_cases h2:b<0
  ·clear h
   go_enter Tryz.func40,Tryz.ntmps40
   go_wp2
   go_ret2
   exact⟨ret2b ⟨hm.out.1.symm,hm.out.2.symm⟩,Grew.refl _⟩
  ·have h2':0<=b:=by omega
   have h3':c<=0:=by omega
   clear h h1 h2
   go_enter Tryz.func40,Tryz.ntmps40
   go_wp2
   go_ret2
   exact⟨ret2b ⟨hm.out.1.symm,hm.out.2.symm⟩,Grew.refl _⟩
theorem muldiv_good (a b c:Int) (up:Bool) (ha:inR a) (hb:inR b) (hc:inR c) (a0:0<=a) (b0:0<=b) (c0:0<c) (w:World) :
  Calls Tryz.prog 40 #[.int .i64 a,.int .i64 b,.int .i64 c,.bool up] w λ e w'=>e=.returned (.tuple #[.int .i64 (mdV a b c up),.int .i64 (mdE a b c up)])/\Grew w w':=by
 have hm:=Lib.hid (md_good (up:=up) a0 b0 c0)
 have hN:=mul_pos_bd ha hb a0 b0
 unfold inR at ha hb hc
 obtain⟨ha1,ha2⟩:=ha
 obtain⟨hb1,hb2⟩:=hb
 obtain⟨hc1,hc2⟩:=hc
 obtain⟨N,hNe⟩:∃ N,N=a*b:=⟨_,rfl⟩
 rw[<-hNe] at hN
 have HN:=Lib.hid hNe
 clear hNe
 have CM:Hid (∀ w,Calls Tryz.prog 37 #[.int .u64 a,.int .u64 b] w λ e w'=>e=.returned (.agg #[.int .u32 (d0 N),.int .u32 (d1 N),.int .u32 (d2 N),.int .u32 (d3 N)])/\Grew w w'):=by
  show ∀ w,_
  intro w;rw[HN.out];exact multiply_any _ _ a0 (by omega) b0 (by omega) w
 by_cases hf:hi N<c
 ·have HQ:Hid (mdQ a b c up=if up=true/\N % c≠0 then N/c+1 else N/c):=by show _=_;unfold mdQ;rw[<-HN.out]
  have hq0:0<=N/c:=Int.ediv_nonneg hN.1 (by omega)
  have hr0:0<=N % c:=Int.emod_nonneg _ (by omega)
  have hr1:N % c<c:=Int.emod_lt_of_pos _ c0
  have hq2:N/c<=N:=Int.ediv_le_self _ hN.1
  obtain⟨q,hqe⟩:∃ q,q=N/c:=⟨_,rfl⟩
  obtain⟨r,hre⟩:∃ r,r=N % c:=⟨_,rfl⟩
  rw[<-hqe] at hq0 hq2
  rw[<-hre] at hr0 hr1
  have CD:Hid (∀ w,Calls Tryz.prog 73 #[.agg #[.int .u32 (d0 N),.int .u32 (d1 N),.int .u32 (d2 N),.int .u32 (d3 N)],.int .u64 c] w λ e w'=>e=.returned (.tuple #[.int .u64 q,.int .u64 r,.bool true])/\Grew w w'):=by
   show ∀ w,_
   intro w;rw[hqe,hre];exact divide_yes N c hN.1 (by omega) hf (by omega) w
  have HQ':Hid (mdQ a b c up=if up=true/\r≠0 then q+1 else q):=by show _=_;rw[HQ.out,hqe,hre]
  clear HQ hqe hre
  by_cases hq:q<=9223372036854775807
  ·by_cases hup:up=true/\r≠0
   ·have hE:Hid (mdQ a b c up=q+1):=by show _=_;rw[HQ'.out,if_pos hup]
    obtain⟨hu,hr⟩:=hup
    have hr':(r != 0)=true:=by simpa using hr
    clear hr
    subst hu
    go_enter Tryz.func40,Tryz.ntmps40
    go_wp2_with (first | (go_at_call 37;refine(CM.out _).mono ?_;rintro e w1 ⟨rfl,hg1⟩) | (go_at_call 73;refine(CD.out _).mono ?_;rintro e w2 ⟨rfl,hg2⟩;have HG:=hg1.trans hg2) | (go_at_call 41;refine(add_any _ _ (by unfold inR;omega) (by unfold inR;omega) _).mono ?_;rintro e w' ⟨rfl,rfl⟩))
    go_ret2
    exact⟨ret2b ⟨by rw[hm.out.1,hE.out],by rw[hm.out.2,hE.out]⟩,HG⟩
   ·have hE:Hid (mdQ a b c up=q):=by show _=_;rw[HQ'.out,if_neg hup]
    have hin:Hid (inR q):=by show inR q;unfold inR;omega
    cases up
    ·clear hup
     go_enter Tryz.func40,Tryz.ntmps40
     go_wp2_with (first | (go_at_call 37;refine(CM.out _).mono ?_;rintro e w1 ⟨rfl,hg1⟩) | (go_at_call 73;refine(CD.out _).mono ?_;rintro e w2 ⟨rfl,hg2⟩;have HG:=hg1.trans hg2))
     go_ret2
     exact⟨ret2b ⟨by rw[hm.out.1,hE.out,exV_in hin.out],by rw[hm.out.2,hE.out,exE_in hin.out]⟩,HG⟩
    ·have hr':(r != 0)=false:=by simpa using hup
     clear hup
     go_enter Tryz.func40,Tryz.ntmps40
     go_wp2_with (first | (go_at_call 37;refine(CM.out _).mono ?_;rintro e w1 ⟨rfl,hg1⟩) | (go_at_call 73;refine(CD.out _).mono ?_;rintro e w2 ⟨rfl,hg2⟩;have HG:=hg1.trans hg2))
     go_ret2
     exact⟨ret2b ⟨by rw[hm.out.1,hE.out,exV_in hin.out],by rw[hm.out.2,hE.out,exE_in hin.out]⟩,HG⟩
  ·have hin:Hid (¬inR (mdQ a b c up)):=by
    show ¬_;rw[HQ'.out];unfold inR;split <;> omega
   clear HQ'
   go_enter Tryz.func40,Tryz.ntmps40
   go_wp2_with (first | (go_at_call 37;refine(CM.out _).mono ?_;rintro e w1 ⟨rfl,hg1⟩) | (go_at_call 73;refine(CD.out _).mono ?_;rintro e w2 ⟨rfl,hg2⟩;have HG:=hg1.trans hg2))
   go_ret2
   exact⟨ret2b ⟨by rw[hm.out.1,exV_out hin.out],by rw[hm.out.2,exE_out hin.out]⟩,HG⟩
 ·have hq:18446744073709551616<=N/c:=div_big c0 (by omega)
  have hin:Hid (¬inR (mdQ a b c up)):=by
   show ¬_;unfold mdQ;rw[<-HN.out];unfold inR;split <;> omega
  clear hq
  go_enter Tryz.func40,Tryz.ntmps40
  go_wp2_with (first | (go_at_call 37;refine(CM.out _).mono ?_;rintro e w1 ⟨rfl,hg1⟩) | (go_at_call 73;refine(divide_no N c hN.1 (by omega) (by omega) _).mono ?_;rintro e w2 ⟨rfl,hg2⟩;have HG:=hg1.trans hg2))
  go_ret2
  exact⟨ret2b ⟨by rw[hm.out.1,exV_out hin.out],by rw[hm.out.2,exE_out hin.out]⟩,HG⟩
theorem muldiv_any (a b c:Int) (up:Bool) (ha:inR a) (hb:inR b) (hc:inR c) (w:World) :
  Calls Tryz.prog 40 #[.int .i64 a,.int .i64 b,.int .i64 c,.bool up] w λ e w'=>e=.returned (.tuple #[.int .i64 (mdV a b c up),.int .i64 (mdE a b c up)])/\Grew w w':=by
 by_cases h:a<0\/b<0\/c<=0
 ·exact muldiv_bad a b c up h w
 ·exact muldiv_good a b c up ha hb hc (by omega) (by omega) (by omega) w
theorem add_in (a b:Int) (ha:inR a) (hb:inR b) (h:inR (a+b)) (w:World) :
  Calls Tryz.prog 41 #[.int .i64 a,.int .i64 b] w λ e w'=>e=.returned (.tuple #[.int .i64 (a+b),.int .i64 0])/\w=w' :=
 (add_any a b ha hb w).mono λ _ _ ⟨k,l⟩=>⟨k.trans (ret2 (exV_in h) (exE_in h)),l⟩
theorem add_out (a b:Int) (ha:inR a) (hb:inR b) (h:¬inR (a+b)) (w:World) :
  Calls Tryz.prog 41 #[.int .i64 a,.int .i64 b] w λ e w'=>e=.returned (.tuple #[.int .i64 0,.int .i64 2])/\w=w' :=
 (add_any a b ha hb w).mono λ _ _ ⟨k,l⟩=>⟨k.trans (ret2 (exV_out h) (exE_out h)),l⟩
theorem md_as (a b c x y:Int) (up:Bool) (ha:inR a) (hb:inR b) (hc:inR c) (h:Hid (x=mdV a b c up/\y=mdE a b c up)) (w:World) :
  Calls Tryz.prog 40 #[.int .i64 a,.int .i64 b,.int .i64 c,.bool up] w λ e w'=>e=.returned (.tuple #[.int .i64 x,.int .i64 y])/\Grew w w' :=
 (muldiv_any a b c up ha hb hc w).mono λ _ _ ⟨k,l⟩=>⟨k.trans (ret2 h.out.1.symm h.out.2.symm),l⟩
theorem md_in {a b c q:Int} {up:Bool} (h0:0<=a) (h1:0<=b) (h2:0<c) (hq:mdQ a b c up=q) (h:inR q):q=mdV a b c up/\0=mdE a b c up:=by
 have g:=md_good (up:=up) h0 h1 h2
 rw[g.1,g.2,hq,exV_in h,exE_in h];exact⟨rfl,rfl⟩
theorem md_out {a b c q:Int} {up:Bool} (h0:0<=a) (h1:0<=b) (h2:0<c) (hq:mdQ a b c up=q) (h:¬inR q):0=mdV a b c up/\2=mdE a b c up:=by
 have g:=md_good (up:=up) h0 h1 h2
 rw[g.1,g.2,hq,exV_out h,exE_out h];exact⟨rfl,rfl⟩
theorem plus_less (r s c:Int) (r0:0<=r) (s0:0<=s) (s1:s<c) (c1:c<=9223372036854775807) (h:r+s<c) (w:World) :
  Calls Tryz.prog 185 #[.int .i64 r,.int .i64 s,.int .i64 c] w λ e w'=>e=.returned (.tuple #[.int .i64 (r+s),.int .i64 0])/\w=w':=by
 go_enter Tryz.func185,Tryz.ntmps185
 go_wp2
 go_ret2
 exact⟨rfl,rfl⟩
theorem plus_more (r s c:Int) (r0:0<=r) (r1:r<c) (_s0:0<=s) (s1:s<c) (c1:c<=9223372036854775807) (h:c<=r+s) (w:World) :
  Calls Tryz.prog 185 #[.int .i64 r,.int .i64 s,.int .i64 c] w λ e w'=>e=.returned (.tuple #[.int .i64 (r+s-c),.int .i64 1])/\w=w':=by
 go_enter Tryz.func185,Tryz.ntmps185
 go_wp2
 go_ret2
 exact⟨ret2 (by omega) rfl,rfl⟩
structure RRel (a b c:Int) (K:Nat) (q r:Int):Prop where
 eq:q*c+r=a/2 ^ K*b
 r0:0<=r
 r1:r<c
 q0:0<=q
 q1:q<=9223372036854775807
theorem part_le {a b:Int} (a0:0<=a) (b0:0<=b) (K:Nat):a/2 ^ K*b<=a*b:=Int.mul_le_mul_of_nonneg_right (Int.ediv_le_self _ a0) b0
theorem plus_any (r s c:Int) (r0:0<=r) (r1:r<c) (s0:0<=s) (s1:s<c) (c1:c<=9223372036854775807) :
  ∃ x o:Int,(0<=x/\x<c)/\(0<=o/\o<=1)/\r+s=o*c+x/\∀ w,Calls Tryz.prog 185 #[.int .i64 r,.int .i64 s,.int .i64 c] w λ e w'=>e=.returned (.tuple #[.int .i64 x,.int .i64 o])/\w=w':=by
 by_cases h:r+s<c
 ·exact⟨r+s,0,by omega,by omega,by omega,plus_less r s c r0 s0 s1 c1 h⟩
 ·exact⟨r+s-c,1,by omega,by omega,by omega,plus_more r s c r0 r1 s0 s1 c1 (by omega)⟩
theorem _root_.Go.Proofs.YtlecikdjoekknaaGreat.Rd.grew {w w':World} {A:Option Addr} {n:Nat} {zs:List Int} (h:Rd w A n zs) (hg:Grew w w'):Rd w' A n zs :=
 ⟨h.len,h.max,λ hn=>by
  obtain⟨b,off,e,hb,hc⟩:=h.at_ hn
  exact⟨b,off,e,Nat.lt_of_lt_of_le hb hg.size,λ k hk=>by rw[hg.cells _ _ hb];exact hc k hk⟩,h.fit⟩
def okL (zs ts:List Int):Bool:=zs.length == ts.length && (List.range zs.length).all λ k=>decide (0<=zs.getD k 0) && decide (0<ts.getD k 0)
theorem okL_false_len {zs ts:List Int} (h:zs.length≠ts.length):okL zs ts=false:=by unfold okL;simp[h]
theorem okL_false_at {zs ts:List Int} {k:Nat} (hk:k<zs.length) (h:zs.getD k 0<0\/ts.getD k 0<=0):okL zs ts=false:=by
 cases hb:okL zs ts with
 | false=>rfl
 | true =>
  unfold okL at hb
  rw[Bool.and_eq_true,List.all_eq_true] at hb
  have:=hb.2 k (List.mem_range.2 hk)
  rw[Bool.and_eq_true,decide_eq_true_eq,decide_eq_true_eq] at this
  omega
theorem okL_true {zs ts:List Int} (hl:zs.length=ts.length) (h:∀ k,k<zs.length->0<=zs.getD k 0/\0<ts.getD k 0):okL zs ts=true:=by
 unfold okL
 rw[Bool.and_eq_true,List.all_eq_true]
 refine⟨by simpa using hl,λ k hk=>?_⟩
 have:=h k (List.mem_range.1 hk)
 rw[Bool.and_eq_true,decide_eq_true_eq,decide_eq_true_eq]
 exact this
theorem okL_at {zs ts:List Int} (h:okL zs ts=true):zs.length=ts.length/\∀ k,k<zs.length->0<=zs.getD k 0/\0<ts.getD k 0:=by
 unfold okL at h
 rw[Bool.and_eq_true,List.all_eq_true] at h
 refine⟨by simpa using h.1,λ k hk=>?_⟩
 have:=h.2 k (List.mem_range.2 hk)
 rw[Bool.and_eq_true,decide_eq_true_eq,decide_eq_true_eq] at this
 exact this
theorem retb {a b:Bool} (h:a=b):Ending.returned (.bool a)=.returned (.bool b):=by rw[h]
theorem isload_any (A B:Option Addr) (n m c d:Nat) (zs ts:List Int) (w:World) (hz:Rd w A n zs) (ht:Rd w B m ts) :
  Calls Tryz.prog 39 #[.slice A n c,.slice B m d] w λ e w'=>e=.returned (.bool (okL zs ts))/\w=w':=by
 have hlz:=hz.len
 have hlt:=ht.len
 have hmx:=hz.max
 have hmy:=ht.max
 by_cases hnm:n=m
 ·subst hnm
  have HL:Hid (zs.length=n/\ts.length=n):=⟨hlz,hlt⟩
  have HZ:=Lib.hid hz
  have HT:=Lib.hid ht
  clear hz ht hlz hlt
  go_enter Tryz.func39,Tryz.ntmps39
  go_wp2
  go_loop [13] (λ i=>∃ k:Nat,k<=n/\i=.int .i64 k/\Hid (∀ j,j<k->0<=zs.getD j 0/\0<ts.getD j 0)) (λ i=>n-(intOf i).toNat)
  case atStart=>exact⟨0,by omega,rfl,λ j hj=>absurd hj (by omega)⟩
  case round =>
   obtain⟨k,hk,rfl,hall⟩:=hrel
   by_cases hlt:k<n
   ·obtain⟨b,off,rfl,hb,hc⟩:=HZ.out.at_ (by omega)
    obtain⟨b',off',rfl,hb',hc'⟩:=HT.out.at_ (by omega)
    have hck:=hc k hlt
    have hck':=hc' k hlt
    clear hc hc'
    obtain⟨z,hze⟩:∃ z,z=zs.getD k 0:=⟨_,rfl⟩
    obtain⟨t,hte⟩:∃ t,t=ts.getD k 0:=⟨_,rfl⟩
    rw[<-hze] at hck
    rw[<-hte] at hck'
    by_cases h1:z<0
    ·have hE:Hid (okL zs ts=false):=okL_false_at (k:=k) (by rw[HL.out.1];exact hlt) (by omega)
     clear hze hte
     go_wp2
     go_ret
     exact⟨retb hE.out.symm,rfl⟩
    ·by_cases h2:t<=0
     ·have hE:Hid (okL zs ts=false):=okL_false_at (k:=k) (by rw[HL.out.1];exact hlt) (by omega)
      clear hze hte
      go_wp2
      go_ret
      exact⟨retb hE.out.symm,rfl⟩
     ·have hall':Hid (∀ j,j<k+1->0<=zs.getD j 0/\0<ts.getD j 0):=by
       intro j hj
       by_cases e:j=k
       ·subst e;omega
       ·exact hall.out j (by omega)
      clear hze hte
      go_wp2
      go_round
      case rel=>exact⟨k+1,by omega,by go_num,hall'⟩
      case measure=>simp[intOf];omega
   ·have hE:Hid (okL zs ts=true):=okL_true (by rw[HL.out.1,HL.out.2]) (λ j hj=>hall.out j (by have:=HL.out.1;omega))
    go_wp2
    go_ret
    exact⟨retb hE.out.symm,rfl⟩
 ·have hE:Hid (okL zs ts=false):=okL_false_len (by rw[hlz,hlt];exact hnm)
  have hne:((n:Int) != (m:Int))=true:=by simp;omega
  clear hz ht hlz hlt
  go_enter Tryz.func39,Tryz.ntmps39
  go_wp2
  all_goals go_ret
  all_goals exact⟨retb hE.out.symm,rfl⟩
open Go.Lib (hid)
def tm (z t:Int):Int:=mdQ z 4294967296 t true
def ldGo : Int->List (Int × Int)->Int × Int
 | s, []=>(s,0)
 | s,x :: r=>if inR (tm x.1 x.2) then (if inR (s+tm x.1 x.2) then ldGo (s+tm x.1 x.2) r else (0,2)) else (0,2)
def ldV (zs ts:List Int):Int:=if okL zs ts=true then (ldGo 0 (zs.zip ts)).1 else 0
def ldE (zs ts:List Int):Int:=if okL zs ts=true then (ldGo 0 (zs.zip ts)).2 else 1
theorem ld_bad {zs ts:List Int} (h:okL zs ts=false):0=ldV zs ts/\1=ldE zs ts:=by unfold ldV ldE;simp[h]
theorem ld_good {zs ts:List Int} (h:okL zs ts=true):ldV zs ts=(ldGo 0 (zs.zip ts)).1/\ldE zs ts=(ldGo 0 (zs.zip ts)).2:=by unfold ldV ldE;simp[h]
theorem drop_at {zs ts:List Int} {k:Nat} (h:k<zs.length) (hl:zs.length=ts.length):(zs.zip ts).drop k=(zs.getD k 0,ts.getD k 0) :: (zs.zip ts).drop (k+1):=by
 have h1:k<(zs.zip ts).length:=by rw[List.length_zip];omega
 rw[List.drop_eq_getElem_cons h1,List.getElem_zip]
 simp[List.getD,List.getElem?_eq_getElem h,List.getElem?_eq_getElem (show k<ts.length by omega)]
structure LRel (zs ts:List Int) (k:Nat) (s:Int):Prop where
 s0:0<=s
 s1:s<=9223372036854775807
 eq:ldGo s ((zs.zip ts).drop k)=ldGo 0 (zs.zip ts)
theorem LRel.start (zs ts:List Int):LRel zs ts 0 0:=⟨by omega,by omega,by simp⟩
theorem tm_nonneg {z t:Int} (hz:0<=z) (ht:0<t):0<=tm z t:=by
 unfold tm mdQ
 have:=Int.ediv_nonneg (a:=z*4294967296) (b:=t) (by omega) (by omega)
 split <;> omega
theorem LRel.big {zs ts:List Int} {k:Nat} {s:Int} (h:LRel zs ts k s) (hk:k<zs.length) (hl:zs.length=ts.length) (hb:¬inR (tm (zs.getD k 0) (ts.getD k 0))):ldGo 0 (zs.zip ts)=(0,2):=by
 rw[<-h.eq,drop_at hk hl,ldGo,if_neg hb]
theorem LRel.over {zs ts:List Int} {k:Nat} {s:Int} (h:LRel zs ts k s) (hk:k<zs.length) (hl:zs.length=ts.length) (hb:inR (tm (zs.getD k 0) (ts.getD k 0))) (ho:¬inR (s+tm (zs.getD k 0) (ts.getD k 0))):ldGo 0 (zs.zip ts)=(0,2):=by
 rw[<-h.eq,drop_at hk hl,ldGo,if_pos hb,if_neg ho]
theorem LRel.next {zs ts:List Int} {k:Nat} {s:Int} (h:LRel zs ts k s) (hk:k<zs.length) (hl:zs.length=ts.length) (hb:inR (tm (zs.getD k 0) (ts.getD k 0))) (ho:inR (s+tm (zs.getD k 0) (ts.getD k 0)))
  (h0:0<=tm (zs.getD k 0) (ts.getD k 0)):LRel zs ts (k+1) (s+tm (zs.getD k 0) (ts.getD k 0)):=by
 refine⟨by have:=h.s0;omega,by unfold inR at ho;omega,?_⟩
 rw[<-h.eq,drop_at hk hl,ldGo,if_pos hb,if_pos ho]
theorem LRel.done {zs ts:List Int} {k:Nat} {s:Int} (h:LRel zs ts k s) (hk:zs.length<=k):ldGo 0 (zs.zip ts)=(s,0):=by
 rw[<-h.eq,List.drop_eq_nil_of_le (by rw[List.length_zip];omega),ldGo]
theorem ret2p {x y:Int} {p:Int × Int} {a b:Int} (h:a=p.1/\b=p.2) (e:p=(x,y)):Ending.returned (.tuple #[.int .i64 x,.int .i64 y])=.returned (.tuple #[.int .i64 a,.int .i64 b]):=by rw[h.1,h.2,e]
theorem load_good (A B:Option Addr) (n m c d:Nat) (zs ts:List Int) (w:World) (hz:Rd w A n zs) (ht:Rd w B m ts) (hok:okL zs ts=true) :
  Calls Tryz.prog 20 #[.slice A n c,.slice B m d] w λ e w'=>e=.returned (.tuple #[.int .i64 (ldV zs ts),.int .i64 (ldE zs ts)])/\Grew w w':=by
 have hL:=hid (ld_good hok)
 obtain⟨hl,hall⟩:=okL_at hok
 have hlz:=hz.len
 have hlt:=ht.len
 have hmx:=hz.max
 have cI:Hid (∀ w,Rd w A n zs->Rd w B m ts->Calls Tryz.prog 39 #[.slice A n c,.slice B m d] w λ e w'=>e=.returned (.bool true)/\w=w'):=by
  intro w h1 h2;rw[<-hok];exact isload_any A B n m c d zs ts w h1 h2
 have HA:=hid hall
 have HL:Hid (zs.length=n/\ts.length=n/\zs.length=ts.length):=⟨hlz,by omega,hl⟩
 have hnm:m=n:=by omega
 subst hnm
 have HZ:=hid hz
 have HT:=hid ht
 clear hok hz ht hlz hlt hl hall
 go_enter Tryz.func20,Tryz.ntmps20
 go_wp2_with (go_at_call 39;refine(cI.out _ HZ.out HT.out).mono ?_;rintro e w' ⟨rfl,rfl⟩)
 go_loopw [6,16] (λ s i wx=>∃ (k:Nat) (s':Int),k<=m/\i=.int .i64 k/\s=.int .i64 s'/\Hid (LRel zs ts k s')/\Grew w wx) (λ _ i _=>m-(intOf i).toNat)
 case atStart=>exact⟨0,0,by omega,rfl,rfl,LRel.start zs ts,Grew.refl _⟩
 case round =>
  obtain⟨k,s,hk,rfl,rfl,hr,hg⟩:=hrel
  have s0:=hr.out.s0
  have s1:=hr.out.s1
  by_cases hlt:k<m
  ·obtain⟨b,off,rfl,hb,hc⟩:=(HZ.out.grew hg).at_ (by omega)
   obtain⟨b',off',rfl,hb',hc'⟩:=(HT.out.grew hg).at_ (by omega)
   have hck:=hc k hlt
   have hck':=hc' k hlt
   clear hc hc'
   obtain⟨z,hze⟩:∃ z,z=zs.getD k 0:=⟨_,rfl⟩
   obtain⟨t,hte⟩:∃ t,t=ts.getD k 0:=⟨_,rfl⟩
   have iz:inR z:=by rw[hze];exact HZ.out.fit k
   have it:inR t:=by rw[hte];exact HT.out.fit k
   have iw:inR 4294967296:=by decide
   obtain⟨z0,t0⟩:=HA.out k (by rw[HL.out.1];exact hlt)
   rw[<-hze] at z0 hck
   rw[<-hte] at t0 hck'
   have k0:(0:Int)<=(k:Int):=by omega
   have k1:(k:Int)<(m:Int):=by omega
   by_cases i1:inR (tm z t)
   ·have cM:=hid (md_in (up:=true) z0 (by omega) t0 rfl i1)
    have hp:=tm_nonneg z0 t0
    have i1':=i1
    unfold inR at i1'
    by_cases i2:inR (s+tm z t)
    ·have hr':Hid (LRel zs ts (k+1) (s+tm z t)):=by
      have:=hr.out.next (by rw[HL.out.1];exact hlt) HL.out.2.2 (by rw[<-hze,<-hte];exact i1) (by rw[<-hze,<-hte];exact i2) (by rw[<-hze,<-hte];exact hp)
      rw[<-hze,<-hte] at this;exact this
     clear hze hte
     obtain⟨x,hx⟩:∃ x,x=tm z t:=⟨_,rfl⟩
     rw[show mdQ z 4294967296 t true=x from hx.symm] at cM
     rw[<-hx] at i1 i2 hp i1' hr'
     clear hx
     go_wp2
     go_region_held3 (λ w'=>w'.cell? ⟨b,off+k,none⟩=some (.int .i64 z)/\w'.cell? ⟨b',off'+k,none⟩=some (.int .i64 t)/\Grew wr w')
      (first | exact⟨hck,hck',(Grew.refl _).drew⟩ | exact⟨by rw[hg2.cells _ _ hb];exact hck,by rw[hg2.cells _ _ hb'];exact hck',(Grew.refl _).drew.trans hg2⟩)
      (first | (go_at_call 40;((with_reducible refine(md_as z 4294967296 t x 0 true iz iw it cM _).mono ?_);rintro e w2 ⟨rfl,hg2⟩)))
     go_wp2_with (go_at_call 41;((with_reducible refine(add_in s x (by unfold inR;omega) i1 i2 _).mono ?_);rintro e w' ⟨rfl,rfl⟩))
     go_roundw
     case rel=>exact⟨k+1,s+x,by omega,by go_num,rfl,hr',(hg.trans ((Grew.refl _).drew.trans hg2))⟩
     case measure=>simp[intOf];omega
    ·have hE:Hid (ldGo 0 (zs.zip ts)=(0,2)):=hr.out.over (by rw[HL.out.1];exact hlt) HL.out.2.2 (by rw[<-hze,<-hte];exact i1) (by rw[<-hze,<-hte];exact i2)
     clear hze hte
     obtain⟨x,hx⟩:∃ x,x=tm z t:=⟨_,rfl⟩
     rw[show mdQ z 4294967296 t true=x from hx.symm] at cM
     rw[<-hx] at i1 i2 hp i1'
     clear hx
     go_wp2
     go_region_held3 (λ w'=>w'.cell? ⟨b,off+k,none⟩=some (.int .i64 z)/\w'.cell? ⟨b',off'+k,none⟩=some (.int .i64 t)/\Grew wr w')
      (first | exact⟨hck,hck',(Grew.refl _).drew⟩ | exact⟨by rw[hg2.cells _ _ hb];exact hck,by rw[hg2.cells _ _ hb'];exact hck',(Grew.refl _).drew.trans hg2⟩)
      (first | (go_at_call 40;((with_reducible refine(md_as z 4294967296 t x 0 true iz iw it cM _).mono ?_);rintro e w2 ⟨rfl,hg2⟩)))
     go_wp2_with (go_at_call 41;((with_reducible refine(add_out s x (by unfold inR;omega) i1 i2 _).mono ?_);rintro e w' ⟨rfl,rfl⟩))
     go_ret2
     exact⟨ret2p hL.out hE.out,(hg.trans ((Grew.refl _).drew.trans hg2))⟩
   ·have cM:=hid (md_out (up:=true) z0 (by omega) t0 rfl i1)
    have hE:Hid (ldGo 0 (zs.zip ts)=(0,2)):=hr.out.big (by rw[HL.out.1];exact hlt) HL.out.2.2 (by rw[<-hze,<-hte];exact i1)
    clear hze hte
    go_wp2
    go_region_held3 (λ w'=>w'.cell? ⟨b,off+k,none⟩=some (.int .i64 z)/\w'.cell? ⟨b',off'+k,none⟩=some (.int .i64 t)/\Grew wr w')
     (first | exact⟨hck,hck',(Grew.refl _).drew⟩ | exact⟨by rw[hg2.cells _ _ hb];exact hck,by rw[hg2.cells _ _ hb'];exact hck',(Grew.refl _).drew.trans hg2⟩)
     (first | (go_at_call 40;((with_reducible refine(md_as z 4294967296 t 0 2 true iz iw it cM _).mono ?_);rintro e w2 ⟨rfl,hg2⟩)))
    go_wp2
    go_ret2
    exact⟨ret2p hL.out hE.out,(hg.trans ((Grew.refl _).drew.trans hg2))⟩
  ·have hE:Hid (ldGo 0 (zs.zip ts)=(s,0)):=hr.out.done (by rw[HL.out.1];omega)
   go_wp2
   go_ret2
   exact⟨ret2p hL.out hE.out,hg⟩
theorem load_bad (A B:Option Addr) (n m c d:Nat) (zs ts:List Int) (w:World) (hz:Rd w A n zs) (ht:Rd w B m ts) (hok:okL zs ts=false) :
  Calls Tryz.prog 20 #[.slice A n c,.slice B m d] w λ e w'=>e=.returned (.tuple #[.int .i64 (ldV zs ts),.int .i64 (ldE zs ts)])/\Grew w w':=by
 have hL:=hid (ld_bad hok)
 have cI:Hid (∀ w,Rd w A n zs->Rd w B m ts->Calls Tryz.prog 39 #[.slice A n c,.slice B m d] w λ e w'=>e=.returned (.bool false)/\w=w'):=by
  intro w h1 h2;rw[<-hok];exact isload_any A B n m c d zs ts w h1 h2
 have HZ:=hid hz
 have HT:=hid ht
 clear hok hz ht
 go_enter Tryz.func20,Tryz.ntmps20
 go_wp2_with (go_at_call 39;refine(cI.out _ HZ.out HT.out).mono ?_;rintro e w' ⟨rfl,rfl⟩)
 go_ret2
 exact⟨ret2d hL.out,Grew.refl _⟩
theorem load_any (A B:Option Addr) (n m c d:Nat) (zs ts:List Int) (w:World) (hz:Rd w A n zs) (ht:Rd w B m ts) :
  Calls Tryz.prog 20 #[.slice A n c,.slice B m d] w λ e w'=>e=.returned (.tuple #[.int .i64 (ldV zs ts),.int .i64 (ldE zs ts)])/\Grew w w':=by
 cases hok:okL zs ts with
 | false=>exact load_bad A B n m c d zs ts w hz ht hok
 | true=>exact load_good A B n m c d zs ts w hz ht hok
end Go.Proofs.YtlecikdjoekknaaGreat.qar
end
