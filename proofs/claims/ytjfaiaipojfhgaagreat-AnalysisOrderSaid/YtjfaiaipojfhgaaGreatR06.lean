/- Part 6 of a proof: QaL2. -/
import Derived.Deep.RegionHeld3
import Derived.Test.YtjfaiaipojfhgaaGreatR05
section
namespace Go.Proofs.YtjfaiaipojfhgaaGreat.qar
open Go.Lib (hid)
open Go.ChangeShapes Go.WideShapes Go.ChangeAt Go.RowKit
def tm (z t:Int):Int:=mdQ z 4294967296 t true
def ldGo : Int→List (Int × Int)→Int × Int
 | s, []=>(s,0)
 | s,x :: r=>if inR (tm x.1 x.2) then (if inR (s+tm x.1 x.2) then ldGo (s+tm x.1 x.2) r else (0,2)) else (0,2)
def ldV (zs ts:List Int):Int:=if okL zs ts=true then (ldGo 0 (zs.zip ts)).1 else 0
def ldE (zs ts:List Int):Int:=if okL zs ts=true then (ldGo 0 (zs.zip ts)).2 else 1
theorem ld_bad {zs ts:List Int} (h:okL zs ts=false):0=ldV zs ts∧1=ldE zs ts:=by unfold ldV ldE;simp[h]
theorem ld_good {zs ts:List Int} (h:okL zs ts=true):ldV zs ts=(ldGo 0 (zs.zip ts)).1∧ldE zs ts=(ldGo 0 (zs.zip ts)).2:=by unfold ldV ldE;simp[h]
theorem drop_at {zs ts:List Int} {k:Nat} (h:k<zs.length) (hl:zs.length=ts.length):(zs.zip ts).drop k=(zs.getD k 0,ts.getD k 0) :: (zs.zip ts).drop (k+1):=by
 have h1:k<(zs.zip ts).length:=by rw[List.length_zip];omega
 rw[List.drop_eq_getElem_cons h1,List.getElem_zip]
 simp[List.getD,List.getElem?_eq_getElem h,List.getElem?_eq_getElem (show k<ts.length by omega)]
structure LRel (zs ts:List Int) (k:Nat) (s:Int):Prop where
 s0:0≤s
 s1:s≤9223372036854775807
 eq:ldGo s ((zs.zip ts).drop k)=ldGo 0 (zs.zip ts)
theorem LRel.start (zs ts:List Int):LRel zs ts 0 0:=⟨by omega,by omega,by simp⟩
theorem tm_nonneg {z t:Int} (hz:0≤z) (ht:0<t):0≤tm z t:=by
 unfold tm mdQ
 have:=Int.ediv_nonneg (a:=z*4294967296) (b:=t) (by omega) (by omega)
 split <;> omega
theorem LRel.big {zs ts:List Int} {k:Nat} {s:Int} (h:LRel zs ts k s) (hk:k<zs.length) (hl:zs.length=ts.length) (hb:¬inR (tm (zs.getD k 0) (ts.getD k 0))):ldGo 0 (zs.zip ts)=(0,2):=by
 rw[←h.eq,drop_at hk hl,ldGo,if_neg hb]
theorem LRel.over {zs ts:List Int} {k:Nat} {s:Int} (h:LRel zs ts k s) (hk:k<zs.length) (hl:zs.length=ts.length) (hb:inR (tm (zs.getD k 0) (ts.getD k 0))) (ho:¬inR (s+tm (zs.getD k 0) (ts.getD k 0))):ldGo 0 (zs.zip ts)=(0,2):=by
 rw[←h.eq,drop_at hk hl,ldGo,if_pos hb,if_neg ho]
theorem LRel.next {zs ts:List Int} {k:Nat} {s:Int} (h:LRel zs ts k s) (hk:k<zs.length) (hl:zs.length=ts.length) (hb:inR (tm (zs.getD k 0) (ts.getD k 0))) (ho:inR (s+tm (zs.getD k 0) (ts.getD k 0)))
  (h0:0≤tm (zs.getD k 0) (ts.getD k 0)):LRel zs ts (k+1) (s+tm (zs.getD k 0) (ts.getD k 0)):=by
 refine⟨by have:=h.s0;omega,by unfold inR at ho;omega,?_⟩
 rw[←h.eq,drop_at hk hl,ldGo,if_pos hb,if_pos ho]
theorem LRel.done {zs ts:List Int} {k:Nat} {s:Int} (h:LRel zs ts k s) (hk:zs.length≤k):ldGo 0 (zs.zip ts)=(s,0):=by
 rw[←h.eq,List.drop_eq_nil_of_le (by rw[List.length_zip];omega),ldGo]
theorem ret2p {x y:Int} {p:Int × Int} {a b:Int} (h:a=p.1∧b=p.2) (e:p=(x,y)):Ending.returned (.tuple #[.int .i64 x,.int .i64 y])=.returned (.tuple #[.int .i64 a,.int .i64 b]):=by rw[h.1,h.2,e]
set_option maxHeartbeats 2000000 in
theorem load_good (A B:Option Addr) (n m c d:Nat) (zs ts:List Int) (w:World) (hz:Rd w A n zs) (ht:Rd w B m ts) (hok:okL zs ts=true) :
  Calls Tryz.prog 137 #[.slice A n c,.slice B m d] w fun e w'=>e=.returned (.tuple #[.int .i64 (ldV zs ts),.int .i64 (ldE zs ts)])∧Grew w w':=by
 have hL:=hid (ld_good hok)
 obtain⟨hl,hall⟩:=okL_at hok
 have hlz:=hz.len
 have hlt:=ht.len
 have hmx:=hz.max
 have cI:Hid (∀ w,Rd w A n zs→Rd w B m ts→Calls Tryz.prog 152 #[.slice A n c,.slice B m d] w fun e w'=>e=.returned (.bool true)∧w=w'):=by
  intro w h1 h2;rw[←hok];exact isload_any A B n m c d zs ts w h1 h2
 have HA:=hid hall
 have HL:Hid (zs.length=n∧ts.length=n∧zs.length=ts.length):=⟨hlz,by omega,hl⟩
 have hnm:m=n:=by omega
 subst hnm
 have HZ:=hid hz
 have HT:=hid ht
 clear hok hz ht hlz hlt hl hall
 go_enter Tryz.func137,Tryz.ntmps137
 go_wp2_with (go_at_call 152;refine(cI.out _ HZ.out HT.out).mono ?_;rintro e w' ⟨rfl,rfl⟩)
 go_loopw [6,16] (fun s i wx=>∃ (k:Nat) (s':Int),k≤m∧i=.int .i64 k∧s=.int .i64 s'∧Hid (LRel zs ts k s')∧Grew w wx) (fun _ i _=>m-(intOf i).toNat)
 case atStart=>exact⟨0,0,by omega,rfl,rfl,LRel.start zs ts,Grew.refl _⟩
 case round =>
  obtain⟨k,s,hk,rfl,rfl,hr,hg⟩:=hrel
  have s0:=hr.out.s0
  have s1:=hr.out.s1
  by_cases hlt:k<m
  ·obtain⟨b,off,rfl,hb,hc⟩:=(HZ.out.grew hg).at_ (by omega)
   obtain⟨b',off',rfl,hb',hc'⟩:=(HT.out.grew hg).at_ (by omega)
   have hck:=hc k hlt
   have hck':=hc' k hlt
   clear hc hc'
   obtain⟨z,hze⟩:∃ z,z=zs.getD k 0:=⟨_,rfl⟩
   obtain⟨t,hte⟩:∃ t,t=ts.getD k 0:=⟨_,rfl⟩
   have iz:inR z:=by rw[hze];exact HZ.out.fit k
   have it:inR t:=by rw[hte];exact HT.out.fit k
   have iw:inR 4294967296:=by decide
   obtain⟨z0,t0⟩:=HA.out k (by rw[HL.out.1];exact hlt)
   rw[←hze] at z0 hck
   rw[←hte] at t0 hck'
   have k0:(0:Int)≤(k:Int):=by omega
   have k1:(k:Int)<(m:Int):=by omega
   by_cases i1:inR (tm z t)
   ·have cM:=hid (md_in (up:=true) z0 (by omega) t0 rfl i1)
    have hp:=tm_nonneg z0 t0
    have i1':=i1
    unfold inR at i1'
    by_cases i2:inR (s+tm z t)
    ·have hr':Hid (LRel zs ts (k+1) (s+tm z t)):=by
      have:=hr.out.next (by rw[HL.out.1];exact hlt) HL.out.2.2 (by rw[←hze,←hte];exact i1) (by rw[←hze,←hte];exact i2) (by rw[←hze,←hte];exact hp)
      rw[←hze,←hte] at this;exact this
     clear hze hte
     obtain⟨x,hx⟩:∃ x,x=tm z t:=⟨_,rfl⟩
     rw[show mdQ z 4294967296 t true=x from hx.symm] at cM
     rw[←hx] at i1 i2 hp i1' hr'
     clear hx
     go_wp2
     go_region_held3 (fun w'=>w'.cell? ⟨b,off+k,none⟩=some (.int .i64 z)∧w'.cell? ⟨b',off'+k,none⟩=some (.int .i64 t)∧Grew wr w')
      (first | exact⟨hck,hck',(Grew.refl _).drew⟩ | exact⟨by rw[hg2.cells _ _ hb];exact hck,by rw[hg2.cells _ _ hb'];exact hck',(Grew.refl _).drew.trans hg2⟩)
      (first | (go_at_call 153;((with_reducible refine(md_as z 4294967296 t x 0 true iz iw it cM _).mono ?_);rintro e w2 ⟨rfl,hg2⟩)))
     go_wp2_with (go_at_call 154;((with_reducible refine(add_in s x (by unfold inR;omega) i1 i2 _).mono ?_);rintro e w' ⟨rfl,rfl⟩))
     go_roundw
     case rel=>exact⟨k+1,s+x,by omega,by go_num,rfl,hr',(hg.trans ((Grew.refl _).drew.trans hg2))⟩
     case measure=>simp[intOf];omega
    ·have hE:Hid (ldGo 0 (zs.zip ts)=(0,2)):=hr.out.over (by rw[HL.out.1];exact hlt) HL.out.2.2 (by rw[←hze,←hte];exact i1) (by rw[←hze,←hte];exact i2)
     clear hze hte
     obtain⟨x,hx⟩:∃ x,x=tm z t:=⟨_,rfl⟩
     rw[show mdQ z 4294967296 t true=x from hx.symm] at cM
     rw[←hx] at i1 i2 hp i1'
     clear hx
     go_wp2
     go_region_held3 (fun w'=>w'.cell? ⟨b,off+k,none⟩=some (.int .i64 z)∧w'.cell? ⟨b',off'+k,none⟩=some (.int .i64 t)∧Grew wr w')
      (first | exact⟨hck,hck',(Grew.refl _).drew⟩ | exact⟨by rw[hg2.cells _ _ hb];exact hck,by rw[hg2.cells _ _ hb'];exact hck',(Grew.refl _).drew.trans hg2⟩)
      (first | (go_at_call 153;((with_reducible refine(md_as z 4294967296 t x 0 true iz iw it cM _).mono ?_);rintro e w2 ⟨rfl,hg2⟩)))
     go_wp2_with (go_at_call 154;((with_reducible refine(add_out s x (by unfold inR;omega) i1 i2 _).mono ?_);rintro e w' ⟨rfl,rfl⟩))
     go_ret2
     exact⟨ret2p hL.out hE.out,(hg.trans ((Grew.refl _).drew.trans hg2))⟩
   ·have cM:=hid (md_out (up:=true) z0 (by omega) t0 rfl i1)
    have hE:Hid (ldGo 0 (zs.zip ts)=(0,2)):=hr.out.big (by rw[HL.out.1];exact hlt) HL.out.2.2 (by rw[←hze,←hte];exact i1)
    clear hze hte
    go_wp2
    go_region_held3 (fun w'=>w'.cell? ⟨b,off+k,none⟩=some (.int .i64 z)∧w'.cell? ⟨b',off'+k,none⟩=some (.int .i64 t)∧Grew wr w')
     (first | exact⟨hck,hck',(Grew.refl _).drew⟩ | exact⟨by rw[hg2.cells _ _ hb];exact hck,by rw[hg2.cells _ _ hb'];exact hck',(Grew.refl _).drew.trans hg2⟩)
     (first | (go_at_call 153;((with_reducible refine(md_as z 4294967296 t 0 2 true iz iw it cM _).mono ?_);rintro e w2 ⟨rfl,hg2⟩)))
    go_wp2
    go_ret2
    exact⟨ret2p hL.out hE.out,(hg.trans ((Grew.refl _).drew.trans hg2))⟩
  ·have hE:Hid (ldGo 0 (zs.zip ts)=(s,0)):=hr.out.done (by rw[HL.out.1];omega)
   go_wp2
   go_ret2
   exact⟨ret2p hL.out hE.out,hg⟩
theorem load_bad (A B:Option Addr) (n m c d:Nat) (zs ts:List Int) (w:World) (hz:Rd w A n zs) (ht:Rd w B m ts) (hok:okL zs ts=false) :
  Calls Tryz.prog 137 #[.slice A n c,.slice B m d] w fun e w'=>e=.returned (.tuple #[.int .i64 (ldV zs ts),.int .i64 (ldE zs ts)])∧Grew w w':=by
 have hL:=hid (ld_bad hok)
 have cI:Hid (∀ w,Rd w A n zs→Rd w B m ts→Calls Tryz.prog 152 #[.slice A n c,.slice B m d] w fun e w'=>e=.returned (.bool false)∧w=w'):=by
  intro w h1 h2;rw[←hok];exact isload_any A B n m c d zs ts w h1 h2
 have HZ:=hid hz
 have HT:=hid ht
 clear hok hz ht
 go_enter Tryz.func137,Tryz.ntmps137
 go_wp2_with (go_at_call 152;refine(cI.out _ HZ.out HT.out).mono ?_;rintro e w' ⟨rfl,rfl⟩)
 go_ret2
 exact⟨ret2d hL.out,Grew.refl _⟩
theorem load_any (A B:Option Addr) (n m c d:Nat) (zs ts:List Int) (w:World) (hz:Rd w A n zs) (ht:Rd w B m ts) :
  Calls Tryz.prog 137 #[.slice A n c,.slice B m d] w fun e w'=>e=.returned (.tuple #[.int .i64 (ldV zs ts),.int .i64 (ldE zs ts)])∧Grew w w':=by
 cases hok:okL zs ts with
 | false=>exact load_bad A B n m c d zs ts w hz ht hok
 | true=>exact load_good A B n m c d zs ts w hz ht hok
end Go.Proofs.YtjfaiaipojfhgaaGreat.qar
end
