/- Part 7 of a proof: QaC8 QaL1 QaL2. -/
import Derived.Deep.RegionHeld3
import Derived.Test.YtjfaiaipojfhgaaGreatC06
section
namespace Go.Proofs.YtjfaiaipojfhgaaGreat.qar
open Go.ChangeShapes Go.WideShapes Go.ChangeAt Go.RowKit
theorem plus_less (r s c:Int) (r0:0≤r) (s0:0≤s) (s1:s<c) (c1:c≤9223372036854775807) (h:r+s<c) (w:World) :
  Calls Tryz.prog 150 #[.int .i64 r,.int .i64 s,.int .i64 c] w fun e w'=>e=.returned (.tuple #[.int .i64 (r+s),.int .i64 0])∧w=w':=by
 go_enter Tryz.func150,Tryz.ntmps150
 go_wp2
 go_ret2
 exact⟨rfl,rfl⟩
theorem plus_more (r s c:Int) (r0:0≤r) (r1:r<c) (_s0:0≤s) (s1:s<c) (c1:c≤9223372036854775807) (h:c≤r+s) (w:World) :
  Calls Tryz.prog 150 #[.int .i64 r,.int .i64 s,.int .i64 c] w fun e w'=>e=.returned (.tuple #[.int .i64 (r+s-c),.int .i64 1])∧w=w':=by
 go_enter Tryz.func150,Tryz.ntmps150
 go_wp2
 go_ret2
 exact⟨ret2 (by omega) rfl,rfl⟩
structure RRel (a b c:Int) (K:Nat) (q r:Int):Prop where
 eq:q*c+r=a/2 ^ K*b
 r0:0≤r
 r1:r<c
 q0:0≤q
 q1:q≤9223372036854775807
theorem RRel.start {a b c:Int} (ha:inR a) (a0:0≤a) (c0:0<c):RRel a b c 63 0 0:=by
 unfold inR at ha
 refine⟨?_,by omega,c0,by omega,by omega⟩
 rw[Int.ediv_eq_zero_of_lt a0 (by
   have:(2:Int) ^ 63=9223372036854775808:=by decide
   omega)]
 simp
theorem pow_pos' (K:Nat):(0:Int)<2 ^ K:=by
 have:0<2 ^ K:=Nat.two_pow_pos K
 exact_mod_cast this
theorem half (a:Int) (K:Nat):a/2 ^ K=a/2 ^ (K+1)*2+a/2 ^ K % 2:=by
 have h:a/2 ^ (K+1)=a/2 ^ K/2:=by
  rw[Int.pow_succ,Int.ediv_ediv_of_nonneg (Int.le_of_lt (pow_pos' K))]
 omega
theorem part_le {a b:Int} (a0:0≤a) (b0:0≤b) (K:Nat):a/2 ^ K*b≤a*b:=Int.mul_le_mul_of_nonneg_right (Int.ediv_le_self _ a0) b0
theorem big_of {a b c x r:Int} (a0:0≤a) (b0:0≤b) (c0:0<c) {K:Nat} (h:x*c+r=a/2 ^ K*b) (r0:0≤r):x≤a*b/c:=by
 rw[Int.le_ediv_iff_mul_le c0]
 have:=part_le a0 b0 K
 omega
theorem twice (a b:Int) (K:Nat):a/2 ^ K*b=a/2 ^ (K+1)*b*2+a/2 ^ K % 2*b:=by
 have h:=half a K
 generalize a/2 ^ K % 2=m at *
 generalize a/2 ^ (K+1)=X at *
 rw[h,Int.add_mul,Int.mul_right_comm]
theorem RRel.over {a b c q r:Int} {K:Nat} (h:RRel a b c (K+1) q r) (a0:0≤a) (b0:0≤b) (c0:0<c) (hq:4611686018427387904≤q):9223372036854775808≤a*b/c:=by
 have h1:(q*2)*c+(r*2+a/2 ^ K % 2*b)=a/2 ^ K*b:=by
  rw[twice a b K,←h.eq,Int.mul_right_comm]
  omega
 have h2:=big_of a0 b0 c0 h1 (by have:=h.r0;have:=Int.mul_nonneg (show 0≤a/2 ^ K % 2 by omega) b0;omega)
 omega
theorem RRel.zero {a b c q r q' r' o:Int} {K:Nat} (h:RRel a b c (K+1) q r) (hb:a/2 ^ K % 2=0) (ho:r*2=o*c+r') (r0:0≤r') (r1:r'<c) (hq:q'=q*2+o) (q0:0≤q') (q1:q'≤9223372036854775807) :
  RRel a b c K q' r':=by
 refine⟨?_,r0,r1,q0,q1⟩
 rw[twice a b K,hb,Int.zero_mul,Int.add_zero,←h.eq,hq,Int.add_mul,Int.mul_right_comm]
 omega
theorem plus_any (r s c:Int) (r0:0≤r) (r1:r<c) (s0:0≤s) (s1:s<c) (c1:c≤9223372036854775807) :
  ∃ x o:Int,(0≤x∧x<c)∧(0≤o∧o≤1)∧r+s=o*c+x∧∀ w,Calls Tryz.prog 150 #[.int .i64 r,.int .i64 s,.int .i64 c] w fun e w'=>e=.returned (.tuple #[.int .i64 x,.int .i64 o])∧w=w':=by
 by_cases h:r+s<c
 ·exact⟨r+s,0,by omega,by omega,by omega,plus_less r s c r0 s0 s1 c1 h⟩
 ·exact⟨r+s-c,1,by omega,by omega,by omega,plus_more r s c r0 r1 s0 s1 c1 (by omega)⟩
theorem RRel.done {a b c q r:Int} (h:RRel a b c 0 q r):a*b/c=q∧a*b % c=r:=by
 refine divmod_of ?_ h.r0 h.r1
 have:=h.eq
 simpa using this
end Go.Proofs.YtjfaiaipojfhgaaGreat.qar
end
section
namespace Go.Proofs.YtjfaiaipojfhgaaGreat.qar
open Go.ChangeShapes Go.WideShapes Go.ChangeAt Go.RowKit
theorem _root_.Go.Proofs.YtjfaiaipojfhgaaGreat.Rd.grew {w w':World} {A:Option Addr} {n:Nat} {zs:List Int} (h:Rd w A n zs) (hg:Grew w w'):Rd w' A n zs :=
 ⟨h.len,h.max,fun hn=>by
  obtain⟨b,off,e,hb,hc⟩:=h.at_ hn
  exact⟨b,off,e,Nat.lt_of_lt_of_le hb hg.size,fun k hk=>by rw[hg.cells _ _ hb];exact hc k hk⟩,h.fit⟩
def okL (zs ts:List Int):Bool:=zs.length == ts.length && (List.range zs.length).all fun k=>decide (0≤zs.getD k 0) && decide (0<ts.getD k 0)
theorem okL_false_len {zs ts:List Int} (h:zs.length≠ts.length):okL zs ts=false:=by unfold okL;simp[h]
theorem okL_false_at {zs ts:List Int} {k:Nat} (hk:k<zs.length) (h:zs.getD k 0<0∨ts.getD k 0≤0):okL zs ts=false:=by
 cases hb:okL zs ts with
 | false=>rfl
 | true =>
  unfold okL at hb
  rw[Bool.and_eq_true,List.all_eq_true] at hb
  have:=hb.2 k (List.mem_range.2 hk)
  rw[Bool.and_eq_true,decide_eq_true_eq,decide_eq_true_eq] at this
  omega
theorem okL_true {zs ts:List Int} (hl:zs.length=ts.length) (h:∀ k,k<zs.length→0≤zs.getD k 0∧0<ts.getD k 0):okL zs ts=true:=by
 unfold okL
 rw[Bool.and_eq_true,List.all_eq_true]
 refine⟨by simpa using hl,fun k hk=>?_⟩
 have:=h k (List.mem_range.1 hk)
 rw[Bool.and_eq_true,decide_eq_true_eq,decide_eq_true_eq]
 exact this
theorem okL_at {zs ts:List Int} (h:okL zs ts=true):zs.length=ts.length∧∀ k,k<zs.length→0≤zs.getD k 0∧0<ts.getD k 0:=by
 unfold okL at h
 rw[Bool.and_eq_true,List.all_eq_true] at h
 refine⟨by simpa using h.1,fun k hk=>?_⟩
 have:=h.2 k (List.mem_range.2 hk)
 rw[Bool.and_eq_true,decide_eq_true_eq,decide_eq_true_eq] at this
 exact this
theorem retb {a b:Bool} (h:a=b):Ending.returned (.bool a)=.returned (.bool b):=by rw[h]
set_option maxHeartbeats 1000000 in
theorem isload_any (A B:Option Addr) (n m c d:Nat) (zs ts:List Int) (w:World) (hz:Rd w A n zs) (ht:Rd w B m ts) :
  Calls Tryz.prog 152 #[.slice A n c,.slice B m d] w fun e w'=>e=.returned (.bool (okL zs ts))∧w=w':=by
 have hlz:=hz.len
 have hlt:=ht.len
 have hmx:=hz.max
 have hmy:=ht.max
 by_cases hnm:n=m
 ·subst hnm
  have HL:Hid (zs.length=n∧ts.length=n):=⟨hlz,hlt⟩
  have HZ:=Lib.hid hz
  have HT:=Lib.hid ht
  clear hz ht hlz hlt
  go_enter Tryz.func152,Tryz.ntmps152
  go_wp2
  go_loop [13] (fun i=>∃ k:Nat,k≤n∧i=.int .i64 k∧Hid (∀ j,j<k→0≤zs.getD j 0∧0<ts.getD j 0)) (fun i=>n-(intOf i).toNat)
  case atStart=>exact⟨0,by omega,rfl,fun j hj=>absurd hj (by omega)⟩
  case round =>
   obtain⟨k,hk,rfl,hall⟩:=hrel
   by_cases hlt:k<n
   ·obtain⟨b,off,rfl,hb,hc⟩:=HZ.out.at_ (by omega)
    obtain⟨b',off',rfl,hb',hc'⟩:=HT.out.at_ (by omega)
    have hck:=hc k hlt
    have hck':=hc' k hlt
    clear hc hc'
    obtain⟨z,hze⟩:∃ z,z=zs.getD k 0:=⟨_,rfl⟩
    obtain⟨t,hte⟩:∃ t,t=ts.getD k 0:=⟨_,rfl⟩
    rw[←hze] at hck
    rw[←hte] at hck'
    by_cases h1:z<0
    ·have hE:Hid (okL zs ts=false):=okL_false_at (k:=k) (by rw[HL.out.1];exact hlt) (by omega)
     clear hze hte
     go_wp2
     go_ret
     exact⟨retb hE.out.symm,rfl⟩
    ·by_cases h2:t≤0
     ·have hE:Hid (okL zs ts=false):=okL_false_at (k:=k) (by rw[HL.out.1];exact hlt) (by omega)
      clear hze hte
      go_wp2
      go_ret
      exact⟨retb hE.out.symm,rfl⟩
     ·have hall':Hid (∀ j,j<k+1→0≤zs.getD j 0∧0<ts.getD j 0):=by
       intro j hj
       by_cases e:j=k
       ·subst e;omega
       ·exact hall.out j (by omega)
      clear hze hte
      go_wp2
      go_round
      case rel=>exact⟨k+1,by omega,by go_num,hall'⟩
      case measure=>simp[intOf];omega
   ·have hE:Hid (okL zs ts=true):=okL_true (by rw[HL.out.1,HL.out.2]) (fun j hj=>hall.out j (by have:=HL.out.1;omega))
    go_wp2
    go_ret
    exact⟨retb hE.out.symm,rfl⟩
 ·have hE:Hid (okL zs ts=false):=okL_false_len (by rw[hlz,hlt];exact hnm)
  have hne:((n:Int) != (m:Int))=true:=by simp;omega
  clear hz ht hlz hlt
  go_enter Tryz.func152,Tryz.ntmps152
  go_wp2
  all_goals go_ret
  all_goals exact⟨retb hE.out.symm,rfl⟩
end Go.Proofs.YtjfaiaipojfhgaaGreat.qar
end
section
namespace Go.Proofs.YtjfaiaipojfhgaaGreat.qar
open Go.Lib (hid)
open Go.ChangeShapes Go.WideShapes Go.ChangeAt Go.RowKit
def tm (z t:Int):Int:=mdQ z 4294967296 t true
def ldGo : Int→List (Int × Int)→Int × Int
 | s, []=>(s,0)
 | s,x :: r=>if inR (tm x.1 x.2) then (if inR (s+tm x.1 x.2) then ldGo (s+tm x.1 x.2) r else (0,2)) else (0,2)
def ldV (zs ts:List Int):Int:=if okL zs ts=true then (ldGo 0 (zs.zip ts)).1 else 0
def ldE (zs ts:List Int):Int:=if okL zs ts=true then (ldGo 0 (zs.zip ts)).2 else 1
theorem ld_bad {zs ts:List Int} (h:okL zs ts=false):0=ldV zs ts∧1=ldE zs ts:=by unfold ldV ldE;simp[h]
theorem ld_good {zs ts:List Int} (h:okL zs ts=true):ldV zs ts=(ldGo 0 (zs.zip ts)).1∧ldE zs ts=(ldGo 0 (zs.zip ts)).2:=by unfold ldV ldE;simp[h]
theorem drop_at {zs ts:List Int} {k:Nat} (h:k<zs.length) (hl:zs.length=ts.length):(zs.zip ts).drop k=(zs.getD k 0,ts.getD k 0) :: (zs.zip ts).drop (k+1):=by
 have h1:k<(zs.zip ts).length:=by rw[List.length_zip];omega
 rw[List.drop_eq_getElem_cons h1,List.getElem_zip]
 simp[List.getD,List.getElem?_eq_getElem h,List.getElem?_eq_getElem (show k<ts.length by omega)]
structure LRel (zs ts:List Int) (k:Nat) (s:Int):Prop where
 s0:0≤s
 s1:s≤9223372036854775807
 eq:ldGo s ((zs.zip ts).drop k)=ldGo 0 (zs.zip ts)
theorem LRel.start (zs ts:List Int):LRel zs ts 0 0:=⟨by omega,by omega,by simp⟩
theorem tm_nonneg {z t:Int} (hz:0≤z) (ht:0<t):0≤tm z t:=by
 unfold tm mdQ
 have:=Int.ediv_nonneg (a:=z*4294967296) (b:=t) (by omega) (by omega)
 split <;> omega
theorem LRel.big {zs ts:List Int} {k:Nat} {s:Int} (h:LRel zs ts k s) (hk:k<zs.length) (hl:zs.length=ts.length) (hb:¬inR (tm (zs.getD k 0) (ts.getD k 0))):ldGo 0 (zs.zip ts)=(0,2):=by
 rw[←h.eq,drop_at hk hl,ldGo,if_neg hb]
theorem LRel.over {zs ts:List Int} {k:Nat} {s:Int} (h:LRel zs ts k s) (hk:k<zs.length) (hl:zs.length=ts.length) (hb:inR (tm (zs.getD k 0) (ts.getD k 0))) (ho:¬inR (s+tm (zs.getD k 0) (ts.getD k 0))):ldGo 0 (zs.zip ts)=(0,2):=by
 rw[←h.eq,drop_at hk hl,ldGo,if_pos hb,if_neg ho]
theorem LRel.next {zs ts:List Int} {k:Nat} {s:Int} (h:LRel zs ts k s) (hk:k<zs.length) (hl:zs.length=ts.length) (hb:inR (tm (zs.getD k 0) (ts.getD k 0))) (ho:inR (s+tm (zs.getD k 0) (ts.getD k 0)))
  (h0:0≤tm (zs.getD k 0) (ts.getD k 0)):LRel zs ts (k+1) (s+tm (zs.getD k 0) (ts.getD k 0)):=by
 refine⟨by have:=h.s0;omega,by unfold inR at ho;omega,?_⟩
 rw[←h.eq,drop_at hk hl,ldGo,if_pos hb,if_pos ho]
theorem LRel.done {zs ts:List Int} {k:Nat} {s:Int} (h:LRel zs ts k s) (hk:zs.length≤k):ldGo 0 (zs.zip ts)=(s,0):=by
 rw[←h.eq,List.drop_eq_nil_of_le (by rw[List.length_zip];omega),ldGo]
theorem ret2p {x y:Int} {p:Int × Int} {a b:Int} (h:a=p.1∧b=p.2) (e:p=(x,y)):Ending.returned (.tuple #[.int .i64 x,.int .i64 y])=.returned (.tuple #[.int .i64 a,.int .i64 b]):=by rw[h.1,h.2,e]
set_option maxHeartbeats 2000000 in
theorem load_good (A B:Option Addr) (n m c d:Nat) (zs ts:List Int) (w:World) (hz:Rd w A n zs) (ht:Rd w B m ts) (hok:okL zs ts=true) :
  Calls Tryz.prog 137 #[.slice A n c,.slice B m d] w fun e w'=>e=.returned (.tuple #[.int .i64 (ldV zs ts),.int .i64 (ldE zs ts)])∧Grew w w':=by
 have hL:=hid (ld_good hok)
 obtain⟨hl,hall⟩:=okL_at hok
 have hlz:=hz.len
 have hlt:=ht.len
 have hmx:=hz.max
 have cI:Hid (∀ w,Rd w A n zs→Rd w B m ts→Calls Tryz.prog 152 #[.slice A n c,.slice B m d] w fun e w'=>e=.returned (.bool true)∧w=w'):=by
  intro w h1 h2;rw[←hok];exact isload_any A B n m c d zs ts w h1 h2
 have HA:=hid hall
 have HL:Hid (zs.length=n∧ts.length=n∧zs.length=ts.length):=⟨hlz,by omega,hl⟩
 have hnm:m=n:=by omega
 subst hnm
 have HZ:=hid hz
 have HT:=hid ht
 clear hok hz ht hlz hlt hl hall
 go_enter Tryz.func137,Tryz.ntmps137
 go_wp2_with (go_at_call 152;refine(cI.out _ HZ.out HT.out).mono ?_;rintro e w' ⟨rfl,rfl⟩)
 go_loopw [6,16] (fun s i wx=>∃ (k:Nat) (s':Int),k≤m∧i=.int .i64 k∧s=.int .i64 s'∧Hid (LRel zs ts k s')∧Grew w wx) (fun _ i _=>m-(intOf i).toNat)
 case atStart=>exact⟨0,0,by omega,rfl,rfl,LRel.start zs ts,Grew.refl _⟩
 case round =>
  obtain⟨k,s,hk,rfl,rfl,hr,hg⟩:=hrel
  have s0:=hr.out.s0
  have s1:=hr.out.s1
  by_cases hlt:k<m
  ·obtain⟨b,off,rfl,hb,hc⟩:=(HZ.out.grew hg).at_ (by omega)
   obtain⟨b',off',rfl,hb',hc'⟩:=(HT.out.grew hg).at_ (by omega)
   have hck:=hc k hlt
   have hck':=hc' k hlt
   clear hc hc'
   obtain⟨z,hze⟩:∃ z,z=zs.getD k 0:=⟨_,rfl⟩
   obtain⟨t,hte⟩:∃ t,t=ts.getD k 0:=⟨_,rfl⟩
   have iz:inR z:=by rw[hze];exact HZ.out.fit k
   have it:inR t:=by rw[hte];exact HT.out.fit k
   have iw:inR 4294967296:=by decide
   obtain⟨z0,t0⟩:=HA.out k (by rw[HL.out.1];exact hlt)
   rw[←hze] at z0 hck
   rw[←hte] at t0 hck'
   have k0:(0:Int)≤(k:Int):=by omega
   have k1:(k:Int)<(m:Int):=by omega
   by_cases i1:inR (tm z t)
   ·have cM:=hid (md_in (up:=true) z0 (by omega) t0 rfl i1)
    have hp:=tm_nonneg z0 t0
    have i1':=i1
    unfold inR at i1'
    by_cases i2:inR (s+tm z t)
    ·have hr':Hid (LRel zs ts (k+1) (s+tm z t)):=by
      have:=hr.out.next (by rw[HL.out.1];exact hlt) HL.out.2.2 (by rw[←hze,←hte];exact i1) (by rw[←hze,←hte];exact i2) (by rw[←hze,←hte];exact hp)
      rw[←hze,←hte] at this;exact this
     clear hze hte
     obtain⟨x,hx⟩:∃ x,x=tm z t:=⟨_,rfl⟩
     rw[show mdQ z 4294967296 t true=x from hx.symm] at cM
     rw[←hx] at i1 i2 hp i1' hr'
     clear hx
     go_wp2
     go_region_held3 (fun w'=>w'.cell? ⟨b,off+k,none⟩=some (.int .i64 z)∧w'.cell? ⟨b',off'+k,none⟩=some (.int .i64 t)∧Grew wr w')
      (first | exact⟨hck,hck',(Grew.refl _).drew⟩ | exact⟨by rw[hg2.cells _ _ hb];exact hck,by rw[hg2.cells _ _ hb'];exact hck',(Grew.refl _).drew.trans hg2⟩)
      (first | (go_at_call 153;((with_reducible refine(md_as z 4294967296 t x 0 true iz iw it cM _).mono ?_);rintro e w2 ⟨rfl,hg2⟩)))
     go_wp2_with (go_at_call 154;((with_reducible refine(add_in s x (by unfold inR;omega) i1 i2 _).mono ?_);rintro e w' ⟨rfl,rfl⟩))
     go_roundw
     case rel=>exact⟨k+1,s+x,by omega,by go_num,rfl,hr',(hg.trans ((Grew.refl _).drew.trans hg2))⟩
     case measure=>simp[intOf];omega
    ·have hE:Hid (ldGo 0 (zs.zip ts)=(0,2)):=hr.out.over (by rw[HL.out.1];exact hlt) HL.out.2.2 (by rw[←hze,←hte];exact i1) (by rw[←hze,←hte];exact i2)
     clear hze hte
     obtain⟨x,hx⟩:∃ x,x=tm z t:=⟨_,rfl⟩
     rw[show mdQ z 4294967296 t true=x from hx.symm] at cM
     rw[←hx] at i1 i2 hp i1'
     clear hx
     go_wp2
     go_region_held3 (fun w'=>w'.cell? ⟨b,off+k,none⟩=some (.int .i64 z)∧w'.cell? ⟨b',off'+k,none⟩=some (.int .i64 t)∧Grew wr w')
      (first | exact⟨hck,hck',(Grew.refl _).drew⟩ | exact⟨by rw[hg2.cells _ _ hb];exact hck,by rw[hg2.cells _ _ hb'];exact hck',(Grew.refl _).drew.trans hg2⟩)
      (first | (go_at_call 153;((with_reducible refine(md_as z 4294967296 t x 0 true iz iw it cM _).mono ?_);rintro e w2 ⟨rfl,hg2⟩)))
     go_wp2_with (go_at_call 154;((with_reducible refine(add_out s x (by unfold inR;omega) i1 i2 _).mono ?_);rintro e w' ⟨rfl,rfl⟩))
     go_ret2
     exact⟨ret2p hL.out hE.out,(hg.trans ((Grew.refl _).drew.trans hg2))⟩
   ·have cM:=hid (md_out (up:=true) z0 (by omega) t0 rfl i1)
    have hE:Hid (ldGo 0 (zs.zip ts)=(0,2)):=hr.out.big (by rw[HL.out.1];exact hlt) HL.out.2.2 (by rw[←hze,←hte];exact i1)
    clear hze hte
    go_wp2
    go_region_held3 (fun w'=>w'.cell? ⟨b,off+k,none⟩=some (.int .i64 z)∧w'.cell? ⟨b',off'+k,none⟩=some (.int .i64 t)∧Grew wr w')
     (first | exact⟨hck,hck',(Grew.refl _).drew⟩ | exact⟨by rw[hg2.cells _ _ hb];exact hck,by rw[hg2.cells _ _ hb'];exact hck',(Grew.refl _).drew.trans hg2⟩)
     (first | (go_at_call 153;((with_reducible refine(md_as z 4294967296 t 0 2 true iz iw it cM _).mono ?_);rintro e w2 ⟨rfl,hg2⟩)))
    go_wp2
    go_ret2
    exact⟨ret2p hL.out hE.out,(hg.trans ((Grew.refl _).drew.trans hg2))⟩
  ·have hE:Hid (ldGo 0 (zs.zip ts)=(s,0)):=hr.out.done (by rw[HL.out.1];omega)
   go_wp2
   go_ret2
   exact⟨ret2p hL.out hE.out,hg⟩
theorem load_bad (A B:Option Addr) (n m c d:Nat) (zs ts:List Int) (w:World) (hz:Rd w A n zs) (ht:Rd w B m ts) (hok:okL zs ts=false) :
  Calls Tryz.prog 137 #[.slice A n c,.slice B m d] w fun e w'=>e=.returned (.tuple #[.int .i64 (ldV zs ts),.int .i64 (ldE zs ts)])∧Grew w w':=by
 have hL:=hid (ld_bad hok)
 have cI:Hid (∀ w,Rd w A n zs→Rd w B m ts→Calls Tryz.prog 152 #[.slice A n c,.slice B m d] w fun e w'=>e=.returned (.bool false)∧w=w'):=by
  intro w h1 h2;rw[←hok];exact isload_any A B n m c d zs ts w h1 h2
 have HZ:=hid hz
 have HT:=hid ht
 clear hok hz ht
 go_enter Tryz.func137,Tryz.ntmps137
 go_wp2_with (go_at_call 152;refine(cI.out _ HZ.out HT.out).mono ?_;rintro e w' ⟨rfl,rfl⟩)
 go_ret2
 exact⟨ret2d hL.out,Grew.refl _⟩
theorem load_any (A B:Option Addr) (n m c d:Nat) (zs ts:List Int) (w:World) (hz:Rd w A n zs) (ht:Rd w B m ts) :
  Calls Tryz.prog 137 #[.slice A n c,.slice B m d] w fun e w'=>e=.returned (.tuple #[.int .i64 (ldV zs ts),.int .i64 (ldE zs ts)])∧Grew w w':=by
 cases hok:okL zs ts with
 | false=>exact load_bad A B n m c d zs ts w hz ht hok
 | true=>exact load_good A B n m c d zs ts w hz ht hok
end Go.Proofs.YtjfaiaipojfhgaaGreat.qar
end
