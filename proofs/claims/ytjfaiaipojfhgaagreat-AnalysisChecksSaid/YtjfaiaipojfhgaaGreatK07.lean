/- Part 7 of a proof: QaL3. -/
import Derived.Test.YtjfaiaipojfhgaaGreatK06
section
namespace Go.Proofs.YtjfaiaipojfhgaaGreat.qar
open Go.ChangeShapes Go.WideShapes Go.ChangeAt Go.RowKit
theorem rmd_as (a b c x y:Int) (up:Bool) (ha:inR a) (hb:inR b) (hc:inR c) (h:Hid (x=mdV a b c up∧y=mdE a b c up)) (w:World) :
  Calls Tryz.prog 132 #[.int .i64 a,.int .i64 b,.int .i64 c,.bool up] w fun e w'=>e=.returned (.tuple #[.int .i64 x,.int .i64 y])∧w'=w :=
 (rmuldiv_any a b c up ha hb hc w).mono fun _ _ ⟨k,l⟩=>⟨k.trans (ret2 h.out.1.symm h.out.2.symm),l.symm⟩
set_option maxHeartbeats 2000000 in
theorem rload_any (A B:Option Addr) (n m c d:Nat) (zs ts:List Int) (w:World) (hz:Rd w A n zs) (ht:Rd w B m ts) :
  Calls Tryz.prog 106 #[.slice A n c,.slice B m d] w fun e w'=>e=.returned (.tuple #[.int .i64 (ldV zs ts),.int .i64 (ldE zs ts)])∧Grew w w':=by
 have hlz:=hz.len
 have hlt:=ht.len
 have hmx:=hz.max
 have hmy:=ht.max
 by_cases hnm:n=m
 ·subst hnm
  have HL:Hid (zs.length=n∧ts.length=n):=⟨hlz,hlt⟩
  have HZ:=Lib.hid hz
  have HT:=Lib.hid ht
  clear hz ht hlz hlt
  go_enter Tryz.func106,Tryz.ntmps106
  go_wp2
  go_loop [6] (fun i=>∃ k:Nat,k≤n∧i=.int .i64 k∧Hid (∀ j,j<k→0≤zs.getD j 0∧0<ts.getD j 0)) (fun i=>n-(intOf i).toNat)
  case atStart=>exact⟨0,by omega,rfl,fun j hj=>absurd hj (by omega)⟩
  case round =>
   obtain⟨k,hk,rfl,hall⟩:=hrel
   by_cases hlt:k<n
   ·obtain⟨b,off,rfl,hb,hc⟩:=HZ.out.at_ (by omega)
    obtain⟨b',off',rfl,hb',hc'⟩:=HT.out.at_ (by omega)
    have hck:=hc k hlt
    have hck':=hc' k hlt
    clear hc hc'
    obtain⟨z,hze⟩:∃ z,z=zs.getD k 0:=⟨_,rfl⟩
    obtain⟨t,hte⟩:∃ t,t=ts.getD k 0:=⟨_,rfl⟩
    rw[←hze] at hck
    rw[←hte] at hck'
    by_cases h1:z<0
    ·have hE:Hid (0=ldV zs ts∧1=ldE zs ts):=ld_bad (okL_false_at (k:=k) (by rw[HL.out.1];exact hlt) (by omega))
     clear hze hte
     go_wp2
     go_ret2
     exact⟨ret2d hE.out,Grew.refl _⟩
    ·by_cases h2:t≤0
     ·have hE:Hid (0=ldV zs ts∧1=ldE zs ts):=ld_bad (okL_false_at (k:=k) (by rw[HL.out.1];exact hlt) (by omega))
      clear hze hte
      go_wp2
      go_ret2
      exact⟨ret2d hE.out,Grew.refl _⟩
     ·have hall':Hid (∀ j,j<k+1→0≤zs.getD j 0∧0<ts.getD j 0):=by
       intro j hj
       by_cases e:j=k
       ·subst e;omega
       ·exact hall.out j (by omega)
      clear hze hte
      go_wp2
      go_round
      case rel=>exact⟨k+1,by omega,by go_num,hall'⟩
      case measure=>simp[intOf];omega
   ·have hall':Hid (∀ j,j<zs.length→0≤zs.getD j 0∧0<ts.getD j 0):=by
     intro j hj;have:=HL.out.1;exact hall.out j (by omega)
    have hL:Hid (ldV zs ts=(ldGo 0 (zs.zip ts)).1∧ldE zs ts=(ldGo 0 (zs.zip ts)).2):=ld_good (okL_true (by rw[HL.out.1,HL.out.2]) hall'.out)
    have hl:Hid (zs.length=ts.length):=by show _=_;rw[HL.out.1,HL.out.2]
    clear hall
    go_wp2
    go_loopw [7,8] (fun s i wx=>∃ (k:Nat) (s':Int),k≤n∧i=.int .i64 k∧s=.int .i64 s'∧Hid (LRel zs ts k s')∧Grew w wx) (fun _ i _=>n-(intOf i).toNat)
    case atStart=>exact⟨0,0,by omega,rfl,rfl,LRel.start zs ts,Grew.refl _⟩
    case round =>
     clear hk hlt
     obtain⟨k,s,hk,rfl,rfl,hr,hg⟩:=hrel
     have s0:=hr.out.s0
     have s1:=hr.out.s1
     by_cases hlt:k<n
     ·obtain⟨b,off,rfl,hb,hc⟩:=(HZ.out.grew hg).at_ (by omega)
      obtain⟨b',off',rfl,hb',hc'⟩:=(HT.out.grew hg).at_ (by omega)
      have hck:=hc k hlt
      have hck':=hc' k hlt
      clear hc hc'
      obtain⟨z,hze⟩:∃ z,z=zs.getD k 0:=⟨_,rfl⟩
      obtain⟨t,hte⟩:∃ t,t=ts.getD k 0:=⟨_,rfl⟩
      have iz:inR z:=by rw[hze];exact HZ.out.fit k
      have it:inR t:=by rw[hte];exact HT.out.fit k
      have iw:inR 4294967296:=by decide
      obtain⟨z0,t0⟩:=hall'.out k (by rw[HL.out.1];exact hlt)
      rw[←hze] at z0 hck
      rw[←hte] at t0 hck'
      have k0:(0:Int)≤(k:Int):=by omega
      have k1:(k:Int)<(n:Int):=by omega
      by_cases i1:inR (tm z t)
      ·have cM:=Lib.hid (md_in (up:=true) z0 (by omega) t0 rfl i1)
       have hp:=tm_nonneg z0 t0
       have i1':=i1
       unfold inR at i1'
       by_cases i2:inR (s+tm z t)
       ·have hr':Hid (LRel zs ts (k+1) (s+tm z t)):=by
         have:=hr.out.next (by rw[HL.out.1];exact hlt) hl.out (by rw[←hze,←hte];exact i1) (by rw[←hze,←hte];exact i2) (by rw[←hze,←hte];exact hp)
         rw[←hze,←hte] at this;exact this
        clear hze hte
        obtain⟨x,hx⟩:∃ x,x=tm z t:=⟨_,rfl⟩
        rw[show mdQ z 4294967296 t true=x from hx.symm] at cM
        rw[←hx] at i1 i2 hp i1' hr'
        clear hx
        go_wp2
        go_quiet ((go_at_call 132;exact Calls.quiet_of_same (rmd_as z 4294967296 t x 0 true iz iw it cM _)))
        go_wp2_with (go_at_call 108;((with_reducible refine(radd_in s x (by unfold inR;omega) i1 i2 _).mono ?_);rintro e w' ⟨rfl,rfl⟩))
        go_roundw
        case rel=>exact⟨k+1,s+x,by omega,by go_num,rfl,hr',hg.drewN _⟩
        case measure=>simp[intOf];omega
       ·have hE:Hid (ldGo 0 (zs.zip ts)=(0,2)):=hr.out.over (by rw[HL.out.1];exact hlt) hl.out (by rw[←hze,←hte];exact i1) (by rw[←hze,←hte];exact i2)
        clear hze hte
        obtain⟨x,hx⟩:∃ x,x=tm z t:=⟨_,rfl⟩
        rw[show mdQ z 4294967296 t true=x from hx.symm] at cM
        rw[←hx] at i1 i2 hp i1'
        clear hx
        go_wp2
        go_quiet ((go_at_call 132;exact Calls.quiet_of_same (rmd_as z 4294967296 t x 0 true iz iw it cM _)))
        go_wp2_with (go_at_call 108;((with_reducible refine(radd_out s x (by unfold inR;omega) i1 i2 _).mono ?_);rintro e w' ⟨rfl,rfl⟩))
        go_ret2
        exact⟨ret2p hL.out hE.out,hg.drewN _⟩
      ·have cM:=Lib.hid (md_out (up:=true) z0 (by omega) t0 rfl i1)
       have hE:Hid (ldGo 0 (zs.zip ts)=(0,2)):=hr.out.big (by rw[HL.out.1];exact hlt) hl.out (by rw[←hze,←hte];exact i1)
       clear hze hte
       go_wp2
       go_quiet ((go_at_call 132;exact Calls.quiet_of_same (rmd_as z 4294967296 t 0 2 true iz iw it cM _)))
       go_wp2
       go_ret2
       exact⟨ret2p hL.out hE.out,hg.drewN _⟩
     ·have hE:Hid (ldGo 0 (zs.zip ts)=(s,0)):=hr.out.done (by rw[HL.out.1];omega)
      go_wp2
      go_ret2
      exact⟨ret2p hL.out hE.out,hg⟩
 ·have hE:Hid (0=ldV zs ts∧1=ldE zs ts):=ld_bad (okL_false_len (by rw[hlz,hlt];exact hnm))
  have hne:((n:Int) != (m:Int))=true:=by simp;omega
  clear hz ht hlz hlt
  go_enter Tryz.func106,Tryz.ntmps106
  go_wp2
  all_goals go_ret2
  all_goals exact⟨ret2d hE.out,Grew.refl _⟩
end Go.Proofs.YtjfaiaipojfhgaaGreat.qar
end
