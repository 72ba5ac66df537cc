/- Part 24 of a proof: DeR2 DeR3 DeR4. -/
import Derived.Deep.DeepCutAuto
import Derived.Test.YtjfaiaipojfhgaaGreatK07
import Derived.Test.YtjfaiaipojfhgaaGreatK22
import Derived.Test.YtjfaiaipojfhgaaGreatK23
section
namespace Go.Proofs.YtjfaiaipojfhgaaGreat.dem
open Go.Lib (hid)
open Go.ChangeShapes Go.WideShapes Go.ChangeAt Go.RowKit Go.Deep
theorem ask_bad {l:List Wk} {bl rl t:Int} (h:¬(right l bl rl=true∧1≤t)):askE l bl rl t=1∧askV l bl rl t=0:=by
 rcases ask_cases l bl rl t with⟨e,v,_⟩ | ⟨h1,h2,_⟩ | ⟨h1,h2,_⟩
 ·exact⟨e,v⟩
 ·exact absurd ⟨h1,h2⟩ h
 ·exact absurd ⟨h1,h2⟩ h
set_option maxRecDepth 100000 in
set_option maxHeartbeats 8000000 in
theorem rask_any (A:Option Addr) (n c:Nat) (l:List Wk) (bl rl t:Int) (w:World) (h:RWk w A n l) (ht:t≤9223372036854775807):Calls Tryz.prog 81 #[.slice A n c,.int .i64 bl,.int .i64 rl,.int .i64 t] w fun e w'=>e=.returned (.tuple #[.int .i64 (askV l bl rl t),.int .i64 (askE l bl rl t)])∧But No w w':=by
 have HN:=hid h.len
 have HL:=hid h
 have CR:Hid (∀ W,But No w W→Calls Tryz.prog 79 #[.slice A n c,.int .i64 bl,.int .i64 rl] W fun e w'=>e=.returned (.bool (right l bl rl))∧But No W w'):=fun W hb=>rright_any A n c l bl rl W (h.no hb)
 clear h
 cases hrt:right l bl rl with
 | false =>
  obtain⟨he,hv⟩:=ask_bad (l:=l) (bl:=bl) (rl:=rl) (t:=t) (by rw[hrt];simp)
  have HE:=hid (And.intro he hv)
  rw[hrt] at CR
  clear hrt he hv
  go_enter Tryz.func81,Tryz.ntmps81
  go_wp2_with (go_at_call 79;(with_reducible refine(CR.out _ (But.refl No w)).mono ?_);rintro e w1 ⟨rfl,hb1⟩;have HB1:=hid hb1;clear hb1)
  go_ret2
  exact⟨retp HE.out.2.symm HE.out.1.symm,HB1.out⟩
 | true =>
  by_cases ht0:t<1
  ·obtain⟨he,hv⟩:=ask_bad (l:=l) (bl:=bl) (rl:=rl) (t:=t) (by omega)
   have HE:=hid (And.intro he hv)
   have b1:decide (t<1)=true:=by simp[ht0]
   rw[hrt] at CR
   clear hrt he hv
   go_enter Tryz.func81,Tryz.ntmps81
   go_wp2_with (go_at_call 79;(with_reducible refine(CR.out _ (But.refl No w)).mono ?_);rintro e w1 ⟨rfl,hb1⟩;have HB1:=hid hb1;clear hb1)
   go_ret2
   exact⟨retp HE.out.2.symm HE.out.1.symm,HB1.out⟩
  ·have b1:decide (t<1)=false:=by simp;omega
   have ht1:1≤t:=by omega
   have HRT:=hid hrt
   obtain⟨hn72,⟨hb0,hb1⟩,⟨hr0,hr1⟩,hok⟩:=right_iff.1 hrt
   have hn72':n≤72:=by have:=HN.out;omega
   have HOK:=hid hok
   have HTA:=hid (trm_all hrt ht1)
   rw[hrt] at CR
   clear hrt hok hn72 ht0
   go_enter Tryz.func81,Tryz.ntmps81
   go_upto_region 6 with(go_at_call 79;(with_reducible refine(CR.out _ (But.refl No w)).mono ?_);rintro e w1 ⟨rfl,hb1⟩;have HB1:=hid hb1;clear hb1)
   have HLW:=hid (HL.out.no HB1.out)
   clear HL CR
   go_wp2_with fail
   go_loopw [11,12,13] (fun s e i wr=>∃ (sv ev:Int) (q:Nat),s=.int .i64 sv∧e=.int .i64 ev∧i=.int .i64 (q:Int)∧q≤n∧Hid ((ev=0∧ov bl (trm rl t) t l q=false∧sv=sN bl (trm rl t) l q)∨(ev=2∧ov bl (trm rl t) t l q=true))∧Hid (But No w1 wr)) (fun _ _ i _=>n-(intOf i).toNat)
   case atStart=>exact⟨bl,0,0,rfl,rfl,rfl,by omega,.inl ⟨rfl,ov_zero (by omega),rfl⟩,But.refl No w1⟩
   case round =>
    obtain⟨S,ev,i,rfl,rfl,rfl,hi,HST,HBR⟩:=hrel
    rcases HST.out with⟨hev,hov,hS⟩ | ⟨hev,hov⟩
    ·subst hev
     clear HST
     by_cases hin:i<n
     ·have hin2:(i:Int)<(n:Int):=by omega
      have hi0:(0:Int)≤(i:Int):=Int.natCast_nonneg i
      obtain⟨x,hx⟩:∃ x,l[i]? = some x:=⟨_,List.getElem?_eq_getElem (by rw[HN.out];exact hin)⟩
      obtain⟨b,off,rfl,_,e0,e1,e2,e3⟩:=(HLW.out.no HBR.out).at1 hx
      have hxok:=HOK.out x (List.mem_of_getElem? hx)
      obtain⟨⟨hw0,hw1⟩,⟨hp0,hp1⟩,hd0,hd1⟩:=okW_iff.1 hxok
      have hub:=up_bd ht1 hp0
      have hf:=fst_bd ht1 hxok
      have hg:=snd_bd (rl:=rl) ht1 hr0 hxok
      have hS0:0≤S:=by rw[hS];exact sN_pos hb0 HTA.out (by rw[HN.out];omega)
      have hS1:S≤9223372036854775807:=by rw[hS];exact(ov_not hov).1
      have SN:=hid (show sN bl (trm rl t) l (i+1)=S+fst t x+(up t x.p+2)*rl by rw[sN_succ hx,←hS];unfold trm;omega)
      have OVS:Hid (9223372036854775807<S+fst t x+(up t x.p+2)*rl→ov bl (trm rl t) t l (i+1)=true):=hid (fun h=>ov_iff.2 (.inl (by rw[SN.out];exact h)))
      have OVF:Hid (9223372036854775807<up t x.p+2→ov bl (trm rl t) t l (i+1)=true):=hid (fun h=>ov_iff.2 (.inr ⟨i,x,by omega,hx,h⟩))
      have OVN:Hid (S+fst t x+(up t x.p+2)*rl≤9223372036854775807→up t x.p+2≤9223372036854775807→ov bl (trm rl t) t l (i+1)=false):=hid (fun h h'=>by
       cases e:ov bl (trm rl t) t l (i+1)with
       | false=>rfl
       | true =>
        rcases ov_iff.1 e with e | ⟨j,y,hj,hy,e⟩
        ·rw[SN.out] at e;omega
        ·by_cases ej:j=i
         ·subst ej;rw[hx] at hy;cases hy;omega
         ·have:=(ov_not hov).2 j y (by omega) hy;omega)
      have CU:Hid (∀ W,Calls Tryz.prog 109 #[.int .i64 t,.int .i64 x.p] W fun e w'=>e=.returned (.int .i64 (up t x.p))∧w'=W):=hid (fun W=>rup_any t x.p ht1 hp0 (by omega) (by omega) W)
      have HDU:=hid (fun h=>div_up (t:=t) (e:=x.d) hd0 h hp0)
      have HS:=hid hS
      clear hov hx hxok hS
      obtain⟨x0,x1,x2,x3⟩:=x
      dsimp only at e0 e1 e2 e3 hw0 hw1 hp0 hp1 hd0 hd1 hub hg CU HDU SN OVS OVF OVN
      have HU:Hid (up t x1=up t x1):=hid rfl
      obtain⟨f1,hf1⟩:∃ f1,fst t ⟨x0,x1,x2,x3⟩=f1:=⟨_,rfl⟩
      have HF1:=hid hf1
      obtain⟨u,hu⟩:∃ u,up t x1=u:=⟨_,rfl⟩
      have HU:=hid hu
      obtain⟨g2,hg2⟩:∃ g2,(u+2)*rl=g2:=⟨_,rfl⟩
      rw[hu] at hub hg CU SN OVS OVF OVN HDU
      rw[hf1] at hf SN OVS OVN
      rw[hg2] at hg SN OVS OVN
      have HG2:=hid hg2
      clear hf1 hu hg2
      cases x3 with
      | true =>
       have HF:Hid (f1=(u+1)*x0):=hid (by have h9:=HF1.out;rw[←h9];unfold fst;simp[HU.out])
       by_cases k0:9223372036854775807<u+1
       ·have CA:Hid (∀ W,Calls Tryz.prog 108 #[.int .i64 u,.int .i64 1] W fun e w'=>e=.returned (.tuple #[.int .i64 0,.int .i64 2])∧w'=W):=hid (fun W=>radd_bad u 1 (by omega) (by omega) (by omega) (by omega) (by omega) W)
        have HO:Hid (ov bl (trm rl t) t l (i+1)=true):=hid (OVF.out (by omega))
        clear k0
        go_wp2_with (first | (go_at_call 109;((with_reducible refine(CU.out _).mono ?_);rintro e wC ⟨rfl,rfl⟩)) | (go_at_call 108;((with_reducible refine(CA.out _).mono ?_);rintro e wC ⟨rfl,rfl⟩)))
        go_roundw
        case rel=>exact⟨S,2,i+1,rfl,rfl,by go_num,by omega,.inr ⟨rfl,HO.out⟩,HBR.out.alloc _⟩
        case measure=>simp[intOf];omega
       ·have CA:Hid (∀ W,Calls Tryz.prog 108 #[.int .i64 u,.int .i64 1] W fun e w'=>e=.returned (.tuple #[.int .i64 (u+1),.int .i64 0])∧w'=W):=hid (fun W=>radd_good u 1 (by omega) (by omega) (by omega) W)
        by_cases k1:9223372036854775807<S+f1
        ·have CT:Hid (∀ W,Calls Tryz.prog 110 #[.int .i64 S,.int .i64 (u+1),.int .i64 x0] W fun e w'=>e=.returned (.tuple #[.int .i64 0,.int .i64 2])∧w'=W):=hid (fun W=>rtimes_bad S (u+1) x0 (by omega) (by omega) (by omega) (by omega) (by omega) (by omega) (by rw[←HF.out];omega) W)
         have HO:Hid (ov bl (trm rl t) t l (i+1)=true):=hid (OVS.out (by omega))
         clear k0 k1
         go_wp2_with (first | (go_at_call 109;((with_reducible refine(CU.out _).mono ?_);rintro e wC ⟨rfl,rfl⟩)) | (go_at_call 108;((with_reducible refine(CA.out _).mono ?_);rintro e wC ⟨rfl,rfl⟩)) | (go_at_call 110;((with_reducible refine(CT.out _).mono ?_);rintro e wC ⟨rfl,rfl⟩)))
         go_roundw
         case rel=>exact⟨0,2,i+1,rfl,rfl,by go_num,by omega,.inr ⟨rfl,HO.out⟩,HBR.out.alloc _⟩
         case measure=>simp[intOf];omega
        ·have CT:Hid (∀ W,Calls Tryz.prog 110 #[.int .i64 S,.int .i64 (u+1),.int .i64 x0] W fun e w'=>e=.returned (.tuple #[.int .i64 (S+f1),.int .i64 0])∧w'=W):=hid (fun W=>by have:=rtimes_good S (u+1) x0 (by omega) (by omega) (by omega) (by omega) (by omega) (by rw[←HF.out];omega) W;rw[←HF.out] at this;exact this)
         obtain⟨P1,hP1⟩:∃ P1,S+f1=P1:=⟨_,rfl⟩
         have SS:Hid (P1+g2=sN bl (trm rl t) l (i+1)):=hid (by have:=SN.out;omega)
         rw[hP1] at k1 CT
         have hP0:0≤P1:=by omega
         have OVS:Hid (9223372036854775807<P1+g2→ov bl (trm rl t) t l (i+1)=true):=hid (fun h=>OVS.out (by omega))
         have OVN:Hid (P1+g2≤9223372036854775807→u+2≤9223372036854775807→ov bl (trm rl t) t l (i+1)=false):=hid (fun h h'=>OVN.out (by omega) h')
         clear k0 hP1 SN HF HF1 hf
         by_cases k2:9223372036854775807<u+2
         ·have CB:Hid (∀ W,Calls Tryz.prog 108 #[.int .i64 u,.int .i64 2] W fun e w'=>e=.returned (.tuple #[.int .i64 0,.int .i64 2])∧w'=W):=hid (fun W=>radd_bad u 2 (by omega) (by omega) (by omega) (by omega) (by omega) W)
          have HO:Hid (ov bl (trm rl t) t l (i+1)=true):=hid (OVF.out k2)
          clear k2
          go_wp2_with (first | (go_at_call 108;((with_reducible refine(CA.out _).mono ?_);rintro e wC ⟨rfl,rfl⟩)) | (go_at_call 110;((with_reducible refine(CT.out _).mono ?_);rintro e wC ⟨rfl,rfl⟩)) | (go_at_call 109;((with_reducible refine(CU.out _).mono ?_);rintro e wC ⟨rfl,rfl⟩)) | (go_at_call 108;((with_reducible refine(CB.out _).mono ?_);rintro e wC ⟨rfl,rfl⟩)))
          go_roundw
          case rel=>exact⟨P1,2,i+1,rfl,rfl,by go_num,by omega,.inr ⟨rfl,HO.out⟩,HBR.out.alloc _⟩
          case measure=>simp[intOf];omega
         ·have CB:Hid (∀ W,Calls Tryz.prog 108 #[.int .i64 u,.int .i64 2] W fun e w'=>e=.returned (.tuple #[.int .i64 (u+2),.int .i64 0])∧w'=W):=hid (fun W=>radd_good u 2 (by omega) (by omega) (by omega) W)
          by_cases k3:9223372036854775807<P1+g2
          ·have CS:Hid (∀ W,Calls Tryz.prog 110 #[.int .i64 P1,.int .i64 (u+2),.int .i64 rl] W fun e w'=>e=.returned (.tuple #[.int .i64 0,.int .i64 2])∧w'=W):=hid (fun W=>rtimes_bad P1 (u+2) rl (by omega) (by omega) (by omega) (by omega) (by omega) (by omega) (by rw[HG2.out];omega) W)
           have HO:Hid (ov bl (trm rl t) t l (i+1)=true):=hid (OVS.out (by omega))
           clear k2 k3
           go_wp2_with (first | (go_at_call 108;((with_reducible refine(CA.out _).mono ?_);rintro e wC ⟨rfl,rfl⟩)) | (go_at_call 110;((with_reducible refine(CT.out _).mono ?_);rintro e wC ⟨rfl,rfl⟩)) | (go_at_call 109;((with_reducible refine(CU.out _).mono ?_);rintro e wC ⟨rfl,rfl⟩)) | (go_at_call 108;((with_reducible refine(CB.out _).mono ?_);rintro e wC ⟨rfl,rfl⟩)) | (go_at_call 110;((with_reducible refine(CS.out _).mono ?_);rintro e wC ⟨rfl,rfl⟩)))
           go_roundw
           case rel=>exact⟨0,2,i+1,rfl,rfl,by go_num,by omega,.inr ⟨rfl,HO.out⟩,HBR.out.alloc _⟩
           case measure=>simp[intOf];omega
          ·have CS:Hid (∀ W,Calls Tryz.prog 110 #[.int .i64 P1,.int .i64 (u+2),.int .i64 rl] W fun e w'=>e=.returned (.tuple #[.int .i64 (P1+g2),.int .i64 0])∧w'=W):=hid (fun W=>by have:=rtimes_good P1 (u+2) rl (by omega) (by omega) (by omega) (by omega) (by omega) (by rw[HG2.out];omega) W;rw[HG2.out] at this;exact this)
           have HO:Hid (ov bl (trm rl t) t l (i+1)=false∧P1+g2=sN bl (trm rl t) l (i+1)):=hid ⟨OVN.out (by omega) (by omega),by have:=SS.out;omega⟩
           clear k2 k3
           go_wp2_with (first | (go_at_call 108;((with_reducible refine(CA.out _).mono ?_);rintro e wC ⟨rfl,rfl⟩)) | (go_at_call 110;((with_reducible refine(CT.out _).mono ?_);rintro e wC ⟨rfl,rfl⟩)) | (go_at_call 109;((with_reducible refine(CU.out _).mono ?_);rintro e wC ⟨rfl,rfl⟩)) | (go_at_call 108;((with_reducible refine(CB.out _).mono ?_);rintro e wC ⟨rfl,rfl⟩)) | (go_at_call 110;((with_reducible refine(CS.out _).mono ?_);rintro e wC ⟨rfl,rfl⟩)))
           go_roundw
           case rel=>exact⟨P1+g2,0,i+1,rfl,rfl,by go_num,by omega,.inl ⟨rfl,HO.out.1,HO.out.2⟩,HBR.out.alloc _⟩
           case measure=>simp[intOf];omega
      | false =>
       by_cases hd:x2≤t
       ·have hdd:=HDU.out hd
        have b2:decide (x2≤t)=true:=by simp[hd]
        obtain⟨q,hq⟩:∃ q,(t-x2)/x1=q:=⟨_,rfl⟩
        rw[hq] at hdd
        have hq9:q≤t-x2:=by rw[←hq];exact Int.ediv_le_self _ (by omega)
        have w1_:IntKind.i64.wrap (t-x2)=t-x2:=IntWalk.i64_in (t-x2) (by omega)
        have w2_:(t-x2).tdiv x1=q:=by rw[Int.tdiv_eq_ediv_of_nonneg (by omega)];exact hq
        have HQ:=hid hq
        clear hq
        have w3_:IntKind.i64.wrap q=q:=IntWalk.i64_in q (by omega)
        have w4_:IntKind.i64.wrap (q+1)=q+1:=IntWalk.i64_in (q+1) (by omega)
        have hx10:x1≠0:=by omega
        have HF:Hid (f1=(q+1)*x0):=hid (by have h9:=HF1.out;rw[←h9];unfold fst;rw[if_neg (by simp),if_pos hd];dsimp only;rw[HQ.out])
        by_cases k1:9223372036854775807<S+f1
        ·have CT:Hid (∀ W,Calls Tryz.prog 110 #[.int .i64 S,.int .i64 (q+1),.int .i64 x0] W fun e w'=>e=.returned (.tuple #[.int .i64 0,.int .i64 2])∧w'=W):=hid (fun W=>rtimes_bad S (q+1) x0 (by omega) (by omega) (by omega) (by omega) (by omega) (by omega) (by rw[←HF.out];omega) W)
         have HO:Hid (ov bl (trm rl t) t l (i+1)=true):=hid (OVS.out (by omega))
         clear k1
         go_wp2_with fail
         have hb9:But No wr (wr.alloc (.cells #[.int .i64 x0,.int .i64 x1,.int .i64 x2,.bool false] 106)):=(But.refl No wr).alloc _
         have hx9:=Blk.new wr #[.int .i64 x0,.int .i64 x1,.int .i64 x2,.bool false] 106
         generalize wr.alloc (.cells #[.int .i64 x0,.int .i64 x1,.int .i64 x2,.bool false] 106)=w9 at hb9 hx9 ⊢
         generalize wr.heap.size=bx at hx9 ⊢
         have HB9:=hid (HBR.out.trans hb9)
         have KEEP:Hid (∀ w',But No w9 w'→(w'.cell? ⟨bx,0,none⟩=some (.int .i64 x0)∧w'.cell? ⟨bx,1,none⟩=some (.int .i64 x1)∧w'.cell? ⟨bx,2,none⟩=some (.int .i64 x2))∧But No w9 w'):=hid (fun w' hb=>⟨⟨(hx9.but hb (fun f=>f)).cell (o:=0) rfl,(hx9.but hb (fun f=>f)).cell (o:=1) rfl,(hx9.but hb (fun f=>f)).cell (o:=2) rfl⟩,hb⟩)
         clear hb9 hx9
         go_region_held3 (fun w'=>(w'.cell? ⟨bx,0,none⟩=some (.int .i64 x0)∧w'.cell? ⟨bx,1,none⟩=some (.int .i64 x1)∧w'.cell? ⟨bx,2,none⟩=some (.int .i64 x2))∧But No w9 w')
          (first | exact KEEP.out _ (But.refl No w9).drew)
          (first | (go_at_call 110;((with_reducible refine(CT.out _).mono ?_);rintro e wC ⟨rfl,rfl⟩)))
         rename_i hHeld
         obtain⟨⟨y0,y1,y2⟩,hg9⟩:=hHeld
         have HB8:=hid (HB9.out.trans hg9)
         clear hg9
         go_wp2_with (first | (go_at_call 109;((with_reducible refine(CU.out _).mono ?_);rintro e wC ⟨rfl,rfl⟩)))
         go_roundw
         case rel=>exact⟨0,2,i+1,rfl,rfl,by go_num,by omega,.inr ⟨rfl,HO.out⟩,HB8.out⟩
         case measure=>simp[intOf];omega
        ·have CT:Hid (∀ W,Calls Tryz.prog 110 #[.int .i64 S,.int .i64 (q+1),.int .i64 x0] W fun e w'=>e=.returned (.tuple #[.int .i64 (S+f1),.int .i64 0])∧w'=W):=hid (fun W=>by have:=rtimes_good S (q+1) x0 (by omega) (by omega) (by omega) (by omega) (by omega) (by rw[←HF.out];omega) W;rw[←HF.out] at this;exact this)
         obtain⟨P1,hP1⟩:∃ P1,S+f1=P1:=⟨_,rfl⟩
         have SS:Hid (P1+g2=sN bl (trm rl t) l (i+1)):=hid (by have:=SN.out;omega)
         rw[hP1] at k1 CT
         have hP0:0≤P1:=by omega
         have OVS:Hid (9223372036854775807<P1+g2→ov bl (trm rl t) t l (i+1)=true):=hid (fun h=>OVS.out (by omega))
         have OVN:Hid (P1+g2≤9223372036854775807→u+2≤9223372036854775807→ov bl (trm rl t) t l (i+1)=false):=hid (fun h h'=>OVN.out (by omega) h')
         clear hP1 SN HF HF1 hf
         go_wp2_with fail
         have hb9:But No wr (wr.alloc (.cells #[.int .i64 x0,.int .i64 x1,.int .i64 x2,.bool false] 106)):=(But.refl No wr).alloc _
         have hx9:=Blk.new wr #[.int .i64 x0,.int .i64 x1,.int .i64 x2,.bool false] 106
         generalize wr.alloc (.cells #[.int .i64 x0,.int .i64 x1,.int .i64 x2,.bool false] 106)=w9 at hb9 hx9 ⊢
         generalize wr.heap.size=bx at hx9 ⊢
         have HB9:=hid (HBR.out.trans hb9)
         have KEEP:Hid (∀ w',But No w9 w'→(w'.cell? ⟨bx,0,none⟩=some (.int .i64 x0)∧w'.cell? ⟨bx,1,none⟩=some (.int .i64 x1)∧w'.cell? ⟨bx,2,none⟩=some (.int .i64 x2))∧But No w9 w'):=hid (fun w' hb=>⟨⟨(hx9.but hb (fun f=>f)).cell (o:=0) rfl,(hx9.but hb (fun f=>f)).cell (o:=1) rfl,(hx9.but hb (fun f=>f)).cell (o:=2) rfl⟩,hb⟩)
         clear hb9 hx9
         go_region_held3 (fun w'=>(w'.cell? ⟨bx,0,none⟩=some (.int .i64 x0)∧w'.cell? ⟨bx,1,none⟩=some (.int .i64 x1)∧w'.cell? ⟨bx,2,none⟩=some (.int .i64 x2))∧But No w9 w')
          (first | exact KEEP.out _ (But.refl No w9).drew)
          (first | (go_at_call 110;((with_reducible refine(CT.out _).mono ?_);rintro e wC ⟨rfl,rfl⟩)))
         rename_i hHeld
         obtain⟨⟨y0,y1,y2⟩,hg9⟩:=hHeld
         have HB8:=hid (HB9.out.trans hg9)
         clear hg9
         by_cases k2:9223372036854775807<u+2
         ·have CB:Hid (∀ W,Calls Tryz.prog 108 #[.int .i64 u,.int .i64 2] W fun e w'=>e=.returned (.tuple #[.int .i64 0,.int .i64 2])∧w'=W):=hid (fun W=>radd_bad u 2 (by omega) (by omega) (by omega) (by omega) (by omega) W)
          have HO:Hid (ov bl (trm rl t) t l (i+1)=true):=hid (OVF.out k2)
          clear k2
          go_wp2_with (first | (go_at_call 109;((with_reducible refine(CU.out _).mono ?_);rintro e wC ⟨rfl,rfl⟩)) | (go_at_call 108;((with_reducible refine(CB.out _).mono ?_);rintro e wC ⟨rfl,rfl⟩)))
          go_roundw
          case rel=>exact⟨P1,2,i+1,rfl,rfl,by go_num,by omega,.inr ⟨rfl,HO.out⟩,HB8.out⟩
          case measure=>simp[intOf];omega
         ·have CB:Hid (∀ W,Calls Tryz.prog 108 #[.int .i64 u,.int .i64 2] W fun e w'=>e=.returned (.tuple #[.int .i64 (u+2),.int .i64 0])∧w'=W):=hid (fun W=>radd_good u 2 (by omega) (by omega) (by omega) W)
          by_cases k3:9223372036854775807<P1+g2
          ·have CS:Hid (∀ W,Calls Tryz.prog 110 #[.int .i64 P1,.int .i64 (u+2),.int .i64 rl] W fun e w'=>e=.returned (.tuple #[.int .i64 0,.int .i64 2])∧w'=W):=hid (fun W=>rtimes_bad P1 (u+2) rl (by omega) (by omega) (by omega) (by omega) (by omega) (by omega) (by rw[HG2.out];omega) W)
           have HO:Hid (ov bl (trm rl t) t l (i+1)=true):=hid (OVS.out (by omega))
           clear k2 k3
           go_wp2_with (first | (go_at_call 109;((with_reducible refine(CU.out _).mono ?_);rintro e wC ⟨rfl,rfl⟩)) | (go_at_call 108;((with_reducible refine(CB.out _).mono ?_);rintro e wC ⟨rfl,rfl⟩)) | (go_at_call 110;((with_reducible refine(CS.out _).mono ?_);rintro e wC ⟨rfl,rfl⟩)))
           go_roundw
           case rel=>exact⟨0,2,i+1,rfl,rfl,by go_num,by omega,.inr ⟨rfl,HO.out⟩,HB8.out⟩
           case measure=>simp[intOf];omega
          ·have CS:Hid (∀ W,Calls Tryz.prog 110 #[.int .i64 P1,.int .i64 (u+2),.int .i64 rl] W fun e w'=>e=.returned (.tuple #[.int .i64 (P1+g2),.int .i64 0])∧w'=W):=hid (fun W=>by have:=rtimes_good P1 (u+2) rl (by omega) (by omega) (by omega) (by omega) (by omega) (by rw[HG2.out];omega) W;rw[HG2.out] at this;exact this)
           have HO:Hid (ov bl (trm rl t) t l (i+1)=false∧P1+g2=sN bl (trm rl t) l (i+1)):=hid ⟨OVN.out (by omega) (by omega),by have:=SS.out;omega⟩
           clear k2 k3
           go_wp2_with (first | (go_at_call 109;((with_reducible refine(CU.out _).mono ?_);rintro e wC ⟨rfl,rfl⟩)) | (go_at_call 108;((with_reducible refine(CB.out _).mono ?_);rintro e wC ⟨rfl,rfl⟩)) | (go_at_call 110;((with_reducible refine(CS.out _).mono ?_);rintro e wC ⟨rfl,rfl⟩)))
           go_roundw
           case rel=>exact⟨P1+g2,0,i+1,rfl,rfl,by go_num,by omega,.inl ⟨rfl,HO.out.1,HO.out.2⟩,HB8.out⟩
           case measure=>simp[intOf];omega
       ·have b2:decide (x2≤t)=false:=by simp;omega
        have hf0:f1=0:=by have h9:=HF1.out;rw[←h9];unfold fst;rw[if_neg (by simp),if_neg hd]
        obtain⟨P1,hP1⟩:∃ P1,S=P1:=⟨_,rfl⟩
        have SS:Hid (P1+g2=sN bl (trm rl t) l (i+1)):=hid (by have:=SN.out;omega)
        have hP0:0≤P1:=by omega
        have OVS:Hid (9223372036854775807<P1+g2→ov bl (trm rl t) t l (i+1)=true):=hid (fun h=>OVS.out (by omega))
        have OVN:Hid (P1+g2≤9223372036854775807→u+2≤9223372036854775807→ov bl (trm rl t) t l (i+1)=false):=hid (fun h h'=>OVN.out (by omega) h')
        rw[hP1] at hS1 ⊢
        clear hP1 SN HF1 hf hf0
        by_cases k2:9223372036854775807<u+2
        ·have CB:Hid (∀ W,Calls Tryz.prog 108 #[.int .i64 u,.int .i64 2] W fun e w'=>e=.returned (.tuple #[.int .i64 0,.int .i64 2])∧w'=W):=hid (fun W=>radd_bad u 2 (by omega) (by omega) (by omega) (by omega) (by omega) W)
         have HO:Hid (ov bl (trm rl t) t l (i+1)=true):=hid (OVF.out k2)
         clear k2
         go_wp2_with (first | (go_at_call 109;((with_reducible refine(CU.out _).mono ?_);rintro e wC ⟨rfl,rfl⟩)) | (go_at_call 108;((with_reducible refine(CB.out _).mono ?_);rintro e wC ⟨rfl,rfl⟩)))
         go_roundw
         case rel=>exact⟨P1,2,i+1,rfl,rfl,by go_num,by omega,.inr ⟨rfl,HO.out⟩,HBR.out.alloc _⟩
         case measure=>simp[intOf];omega
        ·have CB:Hid (∀ W,Calls Tryz.prog 108 #[.int .i64 u,.int .i64 2] W fun e w'=>e=.returned (.tuple #[.int .i64 (u+2),.int .i64 0])∧w'=W):=hid (fun W=>radd_good u 2 (by omega) (by omega) (by omega) W)
         by_cases k3:9223372036854775807<P1+g2
         ·have CS:Hid (∀ W,Calls Tryz.prog 110 #[.int .i64 P1,.int .i64 (u+2),.int .i64 rl] W fun e w'=>e=.returned (.tuple #[.int .i64 0,.int .i64 2])∧w'=W):=hid (fun W=>rtimes_bad P1 (u+2) rl (by omega) (by omega) (by omega) (by omega) (by omega) (by omega) (by rw[HG2.out];omega) W)
          have HO:Hid (ov bl (trm rl t) t l (i+1)=true):=hid (OVS.out (by omega))
          clear k2 k3
          go_wp2_with (first | (go_at_call 109;((with_reducible refine(CU.out _).mono ?_);rintro e wC ⟨rfl,rfl⟩)) | (go_at_call 108;((with_reducible refine(CB.out _).mono ?_);rintro e wC ⟨rfl,rfl⟩)) | (go_at_call 110;((with_reducible refine(CS.out _).mono ?_);rintro e wC ⟨rfl,rfl⟩)))
          go_roundw
          case rel=>exact⟨0,2,i+1,rfl,rfl,by go_num,by omega,.inr ⟨rfl,HO.out⟩,HBR.out.alloc _⟩
          case measure=>simp[intOf];omega
         ·have CS:Hid (∀ W,Calls Tryz.prog 110 #[.int .i64 P1,.int .i64 (u+2),.int .i64 rl] W fun e w'=>e=.returned (.tuple #[.int .i64 (P1+g2),.int .i64 0])∧w'=W):=hid (fun W=>by have:=rtimes_good P1 (u+2) rl (by omega) (by omega) (by omega) (by omega) (by omega) (by rw[HG2.out];omega) W;rw[HG2.out] at this;exact this)
          have HO:Hid (ov bl (trm rl t) t l (i+1)=false∧P1+g2=sN bl (trm rl t) l (i+1)):=hid ⟨OVN.out (by omega) (by omega),by have:=SS.out;omega⟩
          clear k2 k3
          go_wp2_with (first | (go_at_call 109;((with_reducible refine(CU.out _).mono ?_);rintro e wC ⟨rfl,rfl⟩)) | (go_at_call 108;((with_reducible refine(CB.out _).mono ?_);rintro e wC ⟨rfl,rfl⟩)) | (go_at_call 110;((with_reducible refine(CS.out _).mono ?_);rintro e wC ⟨rfl,rfl⟩)))
          go_roundw
          case rel=>exact⟨P1+g2,0,i+1,rfl,rfl,by go_num,by omega,.inl ⟨rfl,HO.out.1,HO.out.2⟩,HBR.out.alloc _⟩
          case measure=>simp[intOf];omega
     ·have HI:Hid (i=n):=hid (by omega)
      have b3:decide ((i:Int)<(n:Int))=false:=by simp;omega
      have HV:Hid (askV l bl rl t=S∧askE l bl rl t=0):=hid (by
       have ho:askO l bl rl t=false:=by unfold askO;rw[HN.out,←HI.out];exact hov
       obtain⟨e,v⟩:=ask_is HRT.out ht1 ho
       refine⟨?_,e⟩
       rw[v,hS,HI.out,←HN.out];rfl)
      clear hov hS
      go_wp2
      go_ret2
      exact⟨retp HV.out.1.symm HV.out.2.symm,HB1.out.trans HBR.out⟩
    ·subst hev
     clear HST
     have HV:Hid (askV l bl rl t=0∧askE l bl rl t=2):=hid (by
      have ho:askO l bl rl t=true:=ov_mono HTA.out (by rw[HN.out];exact hi) (Nat.le_refl _) hov
      rcases ask_cases l bl rl t with⟨_,_,e⟩ | ⟨_,_,_,e,v⟩ | ⟨_,_,o,_⟩
      ·exact absurd ⟨HRT.out,ht1⟩ e
      ·exact⟨v,e⟩
      ·rw[ho] at o;cases o)
     clear hov
     by_cases hin:i<n
     ·have hin2:(i:Int)<(n:Int):=by omega
      go_wp2
      go_ret2
      exact⟨retp HV.out.1.symm HV.out.2.symm,HB1.out.trans HBR.out⟩
     ·have b3:decide ((i:Int)<(n:Int))=false:=by simp;omega
      go_wp2
      go_ret2
      exact⟨retp HV.out.1.symm HV.out.2.symm,HB1.out.trans HBR.out⟩
end Go.Proofs.YtjfaiaipojfhgaaGreat.dem
end
section
namespace Go.Proofs.YtjfaiaipojfhgaaGreat.dem
open Go.Lib (hid)
open Go.ChangeShapes Go.WideShapes Go.ChangeAt Go.RowKit Go.Deep
def comV (l:List Wk) (bl rl n:Int):Int:=if comO l bl rl n=true then 0 else comS l bl rl n
def comE (l:List Wk) (bl rl n:Int):Int:=if comO l bl rl n=true then 2 else 0
theorem com_out {l:List Wk} {bl rl n:Int} (h:comO l bl rl n=true):comV l bl rl n=0∧comE l bl rl n=2:=⟨if_pos h,if_pos h⟩
theorem com_in {l:List Wk} {bl rl n:Int} (h:comO l bl rl n=false):comV l bl rl n=comS l bl rl n∧comE l bl rl n=0:=⟨if_neg (by rw[h];simp),if_neg (by rw[h];simp)⟩
set_option maxRecDepth 100000 in
set_option maxHeartbeats 8000000 in
theorem rcomes_any (A:Option Addr) (n c:Nat) (l:List Wk) (bl rl t:Int) (w:World) (h:RWk w A n l) (hrt:right l bl rl=true) (ht1:1≤t) (ht:t≤9223372036854775807):Calls Tryz.prog 107 #[.slice A n c,.int .i64 bl,.int .i64 rl,.int .i64 t] w fun e w'=>e=.returned (.tuple #[.int .i64 (comV l bl rl t),.int .i64 (comE l bl rl t)])∧w'=w:=by
 have HN:=hid h.len
 have HL:=hid h
 clear h
 obtain⟨hn72,⟨hb0,hb1⟩,⟨hr0,hr1⟩,hok⟩:=right_iff.1 hrt
 have hn72':n≤72:=by have:=HN.out;omega
 have HOK:=hid hok
 have HTA:=hid (cmt_all hrt ht1)
 clear hrt hok hn72
 go_enter Tryz.func107,Tryz.ntmps107
 go_wp2_with fail
 go_loopw [10,11,12] (fun s e i wr=>∃ (sv ev:Int) (q:Nat),s=.int .i64 sv∧e=.int .i64 ev∧i=.int .i64 (q:Int)∧q≤n∧Hid ((ev=0∧ov bl (cmt rl t) t l q=false∧sv=sN bl (cmt rl t) l q)∨(ev=2∧ov bl (cmt rl t) t l q=true))∧Hid (wr=w)) (fun _ _ i _=>n-(intOf i).toNat)
 case atStart=>exact⟨bl,0,0,rfl,rfl,rfl,by omega,.inl ⟨rfl,ov_zero (by omega),rfl⟩,rfl⟩
 case round =>
  obtain⟨S,ev,i,rfl,rfl,rfl,hi,HST,HW⟩:=hrel
  obtain rfl:=HW.out
  clear HW
  rcases HST.out with⟨hev,hov,hS⟩ | ⟨hev,hov⟩
  ·subst hev
   clear HST
   by_cases hin:i<n
   ·have hin2:(i:Int)<(n:Int):=by omega
    have hi0:(0:Int)≤(i:Int):=Int.natCast_nonneg i
    obtain⟨x,hx⟩:∃ x,l[i]? = some x:=⟨_,List.getElem?_eq_getElem (by rw[HN.out];exact hin)⟩
    obtain⟨b,off,rfl,_,e0,e1,e2,e3⟩:=HL.out.at1 hx
    have hxok:=HOK.out x (List.mem_of_getElem? hx)
    obtain⟨⟨hw0,hw1⟩,⟨hp0,hp1⟩,hd0,hd1⟩:=okW_iff.1 hxok
    have hub:=up_bd ht1 hp0
    have hf0:0≤(up t x.p+1)*x.w:=Int.mul_nonneg (by omega) hw0
    have hg:=snd_bd (rl:=rl) ht1 hr0 hxok
    have hS0:0≤S:=by rw[hS];exact sN_pos hb0 HTA.out (by rw[HN.out];omega)
    have hS1:S≤9223372036854775807:=by rw[hS];exact(ov_not hov).1
    have SN:=hid (show sN bl (cmt rl t) l (i+1)=S+(up t x.p+1)*x.w+(up t x.p+2)*rl by rw[sN_succ hx,←hS];unfold cmt;omega)
    have OVS:Hid (9223372036854775807<S+(up t x.p+1)*x.w+(up t x.p+2)*rl→ov bl (cmt rl t) t l (i+1)=true):=hid (fun h=>ov_iff.2 (.inl (by rw[SN.out];exact h)))
    have OVF:Hid (9223372036854775807<up t x.p+2→comO l bl rl t=true):=hid (fun h=>ov_iff.2 (.inr ⟨i,x,by rw[HN.out];omega,hx,h⟩))
    have OVN:Hid (S+(up t x.p+1)*x.w+(up t x.p+2)*rl≤9223372036854775807→up t x.p+2≤9223372036854775807→ov bl (cmt rl t) t l (i+1)=false):=hid (fun h h'=>by
     cases e:ov bl (cmt rl t) t l (i+1)with
     | false=>rfl
     | true =>
      rcases ov_iff.1 e with e | ⟨j,y,hj,hy,e⟩
      ·rw[SN.out] at e;omega
      ·by_cases ej:j=i
       ·subst ej;rw[hx] at hy;cases hy;omega
       ·have:=(ov_not hov).2 j y (by omega) hy;omega)
    have CU:Hid (∀ W,Calls Tryz.prog 109 #[.int .i64 t,.int .i64 x.p] W fun e w'=>e=.returned (.int .i64 (up t x.p))∧w'=W):=hid (fun W=>rup_any t x.p ht1 hp0 (by omega) (by omega) W)
    clear hov hx hxok hS
    obtain⟨x0,x1,x2,x3⟩:=x
    dsimp only at e0 e1 e2 e3 hw0 hw1 hp0 hp1 hd0 hd1 hub hf0 hg CU SN OVS OVF OVN
    obtain⟨u,hu⟩:∃ u,up t x1=u:=⟨_,rfl⟩
    obtain⟨f1,hf1⟩:∃ f1,(u+1)*x0=f1:=⟨_,rfl⟩
    obtain⟨g2,hg2⟩:∃ g2,(u+2)*rl=g2:=⟨_,rfl⟩
    obtain⟨v,hv⟩:∃ v,u+2=v:=⟨_,rfl⟩
    rw[hu] at hub hf0 hg CU SN OVS OVF OVN
    rw[hf1] at hf0 SN OVS OVN
    rw[hg2] at hg SN OVS OVN
    have HF1:Hid ((v-1)*x0=f1):=hid (by rw[←hf1,←hv];congr 1;omega)
    have HG2:Hid (v*rl=g2):=hid (by rw[←hv];exact hg2)
    have HVU:=hid hv
    have hv2:3≤v:=by omega
    have hvu:v≤u+2∧u+2≤v:=by omega
    clear hu hf1 hg2 hv
    by_cases k0:9223372036854775807<u+2
    ·have CB:Hid (∀ W,Calls Tryz.prog 108 #[.int .i64 u,.int .i64 2] W fun e w'=>e=.returned (.tuple #[.int .i64 0,.int .i64 2])∧w'=W):=hid (fun W=>radd_bad u 2 (by omega) (by omega) (by omega) (by omega) (by omega) W)
     have HE:=hid (com_out (OVF.out k0))
     clear k0 hvu
     go_wp2_with (first | (go_at_call 109;((with_reducible refine(CU.out _).mono ?_);rintro e wC ⟨rfl,rfl⟩)) | (go_at_call 108;((with_reducible refine(CB.out _).mono ?_);rintro e wC ⟨rfl,rfl⟩)))
     go_ret2
     exact⟨retp HE.out.1.symm HE.out.2.symm,rfl⟩
    ·have CB:Hid (∀ W,Calls Tryz.prog 108 #[.int .i64 u,.int .i64 2] W fun e w'=>e=.returned (.tuple #[.int .i64 v,.int .i64 0])∧w'=W):=hid (fun W=>by have:=radd_good u 2 (by omega) (by omega) (by omega) W;rw[HVU.out] at this;exact this)
     by_cases k1:9223372036854775807<S+f1
     ·have CT:Hid (∀ W,Calls Tryz.prog 110 #[.int .i64 S,.int .i64 (v-1),.int .i64 x0] W fun e w'=>e=.returned (.tuple #[.int .i64 0,.int .i64 2])∧w'=W):=hid (fun W=>rtimes_bad S (v-1) x0 (by omega) (by omega) (by omega) (by omega) (by omega) (by omega) (by rw[HF1.out];omega) W)
      have HO:Hid (ov bl (cmt rl t) t l (i+1)=true):=hid (OVS.out (by omega))
      have hv9:v≤9223372036854775807:=by omega
      clear k0 k1 hvu
      go_wp2_with (first | (go_at_call 109;((with_reducible refine(CU.out _).mono ?_);rintro e wC ⟨rfl,rfl⟩)) | (go_at_call 108;((with_reducible refine(CB.out _).mono ?_);rintro e wC ⟨rfl,rfl⟩)) | (go_at_call 110;((with_reducible refine(CT.out _).mono ?_);rintro e wC ⟨rfl,rfl⟩)))
      go_roundw
      case rel=>exact⟨0,2,i+1,rfl,rfl,by go_num,by omega,.inr ⟨rfl,HO.out⟩,by first | exact rfl | exact trivial⟩
      case measure=>simp[intOf];omega
     ·have CT:Hid (∀ W,Calls Tryz.prog 110 #[.int .i64 S,.int .i64 (v-1),.int .i64 x0] W fun e w'=>e=.returned (.tuple #[.int .i64 (S+f1),.int .i64 0])∧w'=W):=hid (fun W=>by have:=rtimes_good S (v-1) x0 (by omega) (by omega) (by omega) (by omega) (by omega) (by rw[HF1.out];omega) W;rw[HF1.out] at this;exact this)
      obtain⟨P1,hP1⟩:∃ P1,S+f1=P1:=⟨_,rfl⟩
      have SS:Hid (P1+g2=sN bl (cmt rl t) l (i+1)):=hid (by have:=SN.out;omega)
      rw[hP1] at k1 CT
      have hP0:0≤P1:=by omega
      have hv9:v≤9223372036854775807:=by omega
      by_cases k3:9223372036854775807<P1+g2
      ·have CS:Hid (∀ W,Calls Tryz.prog 110 #[.int .i64 P1,.int .i64 v,.int .i64 rl] W fun e w'=>e=.returned (.tuple #[.int .i64 0,.int .i64 2])∧w'=W):=hid (fun W=>rtimes_bad P1 v rl (by omega) (by omega) (by omega) (by omega) (by omega) (by omega) (by rw[HG2.out];omega) W)
       have HO:Hid (ov bl (cmt rl t) t l (i+1)=true):=hid (OVS.out (by omega))
       clear k0 k1 k3 hvu hP1
       go_wp2_with (first | (go_at_call 109;((with_reducible refine(CU.out _).mono ?_);rintro e wC ⟨rfl,rfl⟩)) | (go_at_call 108;((with_reducible refine(CB.out _).mono ?_);rintro e wC ⟨rfl,rfl⟩)) | (go_at_call 110;((with_reducible refine(CT.out _).mono ?_);rintro e wC ⟨rfl,rfl⟩)) | (go_at_call 110;((with_reducible refine(CS.out _).mono ?_);rintro e wC ⟨rfl,rfl⟩)))
       go_roundw
       case rel=>exact⟨0,2,i+1,rfl,rfl,by go_num,by omega,.inr ⟨rfl,HO.out⟩,by first | exact rfl | exact trivial⟩
       case measure=>simp[intOf];omega
      ·have CS:Hid (∀ W,Calls Tryz.prog 110 #[.int .i64 P1,.int .i64 v,.int .i64 rl] W fun e w'=>e=.returned (.tuple #[.int .i64 (P1+g2),.int .i64 0])∧w'=W):=hid (fun W=>by have:=rtimes_good P1 v rl (by omega) (by omega) (by omega) (by omega) (by omega) (by rw[HG2.out];omega) W;rw[HG2.out] at this;exact this)
       have HO:Hid (ov bl (cmt rl t) t l (i+1)=false∧P1+g2=sN bl (cmt rl t) l (i+1)):=hid ⟨OVN.out (by omega) (by omega),SS.out⟩
       clear k0 k1 k3 hvu hP1
       go_wp2_with (first | (go_at_call 109;((with_reducible refine(CU.out _).mono ?_);rintro e wC ⟨rfl,rfl⟩)) | (go_at_call 108;((with_reducible refine(CB.out _).mono ?_);rintro e wC ⟨rfl,rfl⟩)) | (go_at_call 110;((with_reducible refine(CT.out _).mono ?_);rintro e wC ⟨rfl,rfl⟩)) | (go_at_call 110;((with_reducible refine(CS.out _).mono ?_);rintro e wC ⟨rfl,rfl⟩)))
       go_roundw
       case rel=>exact⟨P1+g2,0,i+1,rfl,rfl,by go_num,by omega,.inl ⟨rfl,HO.out.1,HO.out.2⟩,by first | exact rfl | exact trivial⟩
       case measure=>simp[intOf];omega
   ·have HI:Hid (i=n):=hid (by omega)
    have b3:decide ((i:Int)<(n:Int))=false:=by simp;omega
    have HV:Hid (comV l bl rl t=S∧comE l bl rl t=0):=hid (by
     have ho:comO l bl rl t=false:=by unfold comO;rw[HN.out,←HI.out];exact hov
     obtain⟨v,e⟩:=com_in ho
     refine⟨?_,e⟩
     rw[v,hS,HI.out,←HN.out];rfl)
    clear hov hS
    go_wp2
    go_ret2
    exact⟨retp HV.out.1.symm HV.out.2.symm,rfl⟩
  ·subst hev
   clear HST
   have HV:=hid (com_out (l:=l) (bl:=bl) (rl:=rl) (n:=t) (ov_mono HTA.out (by rw[HN.out];exact hi) (Nat.le_refl _) hov))
   clear hov
   by_cases hin:i<n
   ·have hin2:(i:Int)<(n:Int):=by omega
    go_wp2
    go_ret2
    exact⟨retp HV.out.1.symm HV.out.2.symm,rfl⟩
   ·have b3:decide ((i:Int)<(n:Int))=false:=by simp;omega
    go_wp2
    go_ret2
    exact⟨retp HV.out.1.symm HV.out.2.symm,rfl⟩
end Go.Proofs.YtjfaiaipojfhgaaGreat.dem
end
section
namespace Go.Proofs.YtjfaiaipojfhgaaGreat.dem
open Go.ChangeShapes Go.WideShapes Go.ChangeAt Go.RowKit Go.Deep
def wz (rl:Int) (l:List Wk):List Int:=l.flatMap fun x=>[x.w,rl]
def pz (l:List Wk):List Int:=l.flatMap fun x=>[x.p,x.p]
theorem wz_len (rl:Int) (l:List Wk):(wz rl l).length=2*l.length:=by
 induction l with
 | nil=>rfl
 | cons x l ih=>unfold wz at ih ⊢;rw[List.flatMap_cons,List.length_append,ih,List.length_cons];simp;omega
theorem pz_len (l:List Wk):(pz l).length=2*l.length:=by
 induction l with
 | nil=>rfl
 | cons x l ih=>unfold pz at ih ⊢;rw[List.flatMap_cons,List.length_append,ih,List.length_cons];simp;omega
theorem wz_snoc {rl:Int} {l:List Wk} {i:Nat} {x:Wk} (h:l[i]? = some x):wz rl (l.take (i+1))=wz rl (l.take i) ++ [x.w,rl]:=by
 unfold wz;rw[List.take_add_one,h,List.flatMap_append];simp
theorem pz_snoc {l:List Wk} {i:Nat} {x:Wk} (h:l[i]? = some x):pz (l.take (i+1))=pz (l.take i) ++ [x.p,x.p]:=by
 unfold pz;rw[List.take_add_one,h,List.flatMap_append];simp
def sumT : List (Int × Int)→Int
 | []=>0
 | x :: r=>qar.tm x.1 x.2+sumT r
theorem ldGo_sum : ∀ (ps:List (Int × Int)) (s:Int),0≤s→s≤9223372036854775807→(∀ p ∈ ps,0≤qar.tm p.1 p.2)→0≤sumT ps∧qar.ldGo s ps=if s+sumT ps≤9223372036854775807 then (s+sumT ps,0) else (0,2)
 | [],s,h0,h1,_=>⟨Int.le_refl 0,by rw[qar.ldGo,sumT,if_pos (by omega)];simp⟩
 | x :: r,s,h0,h1,hp=>by
  have hx:=hp x (by simp)
  rw[qar.ldGo,sumT]
  by_cases h2:s+qar.tm x.1 x.2≤9223372036854775807
  ·obtain⟨i1,i2⟩:=ldGo_sum r (s+qar.tm x.1 x.2) (by omega) h2 (fun p q=>hp p (by simp[q]))
   refine⟨by omega,?_⟩
   rw[if_pos (show inR (qar.tm x.1 x.2)by unfold inR;omega),if_pos (show inR (s+qar.tm x.1 x.2)by unfold inR;omega),i2]
   rw[show s+qar.tm x.1 x.2+sumT r=s+(qar.tm x.1 x.2+sumT r)by omega]
  ·obtain⟨i1,_⟩:=ldGo_sum r 0 (Int.le_refl 0) (by omega) (fun p q=>hp p (by simp[q]))
   refine⟨by omega,?_⟩
   rw[if_neg (show ¬s+(qar.tm x.1 x.2+sumT r)≤9223372036854775807 by omega)]
   by_cases h3:inR (qar.tm x.1 x.2)
   ·rw[if_pos h3,if_neg (show ¬inR (s+qar.tm x.1 x.2)by unfold inR;omega)]
   ·rw[if_neg h3]
theorem zip_wz (rl:Int) (l:List Wk):(wz rl l).zip (pz l)=l.flatMap fun x=>[(x.w,x.p),(rl,x.p)]:=by
 induction l with
 | nil=>rfl
 | cons x l ih =>
  unfold wz pz at ih ⊢
  simp only[List.flatMap_cons,List.cons_append,List.nil_append,List.zip_cons_cons,ih]
theorem sumT_wz (rl:Int) (l:List Wk):sumT ((wz rl l).zip (pz l))=sL (fun x=>qar.tm x.w x.p+qar.tm rl x.p) l:=by
 rw[zip_wz]
 induction l with
 | nil=>rfl
 | cons x l ih =>
  rw[List.flatMap_cons,sL]
  show qar.tm x.w x.p+(qar.tm rl x.p+sumT (l.flatMap fun x=>[(x.w,x.p),(rl,x.p)]))=_
  rw[ih];omega
theorem wz_at {rl:Int} {l:List Wk} {k:Nat} (h:k<2*l.length):∃ x ∈ l,((wz rl l).getD k 0=x.w∨(wz rl l).getD k 0=rl)∧(pz l).getD k 0=x.p:=by
 induction l generalizing k with
 | nil=>simp at h
 | cons x l ih =>
  match k with
  | 0=>exact⟨x,by simp,.inl rfl,rfl⟩
  | 1=>exact⟨x,by simp,.inr rfl,rfl⟩
  | k+2 =>
   obtain⟨y,hy,h1,h2⟩:=ih (k:=k) (by rw[List.length_cons] at h;omega)
   exact⟨y,by simp[hy],h1,h2⟩
theorem okL_wz {l:List Wk} {bl rl:Int} (h:right l bl rl=true):qar.okL (wz rl l) (pz l)=true:=by
 refine qar.okL_true (by rw[wz_len,pz_len]) (fun k hk=>?_)
 rw[wz_len] at hk
 obtain⟨x,hx,h1,h2⟩:=wz_at (rl:=rl) hk
 obtain⟨_,_,⟨r0,_⟩,ha⟩:=right_iff.1 h
 obtain⟨⟨w0,_⟩,⟨p0,_⟩,_⟩:=okW_iff.1 (ha x hx)
 rcases h1 with h1 | h1 <;> rw[h1,h2] <;> omega
theorem ld_is {l:List Wk} {bl rl:Int} (h:right l bl rl=true):(qar.ldE (wz rl l) (pz l)=0∧qar.ldV (wz rl l) (pz l)=ldS rl l∧0≤ldS rl l∧ldS rl l≤9223372036854775807)∨(qar.ldE (wz rl l) (pz l)=2∧qar.ldV (wz rl l) (pz l)=0∧4294967296<ldS rl l):=by
 obtain⟨e1,e2⟩:=qar.ld_good (okL_wz h)
 have hp:∀ p ∈ (wz rl l).zip (pz l),0≤qar.tm p.1 p.2:=fun p hp=>by
  rw[zip_wz] at hp
  obtain⟨x,hx,hm⟩:=List.mem_flatMap.1 hp
  obtain⟨_,_,⟨r0,_⟩,ha⟩:=right_iff.1 h
  obtain⟨⟨w0,_⟩,⟨p0,_⟩,_⟩:=okW_iff.1 (ha x hx)
  simp only[List.mem_cons,List.not_mem_nil,or_false] at hm
  rcases hm with rfl | rfl
  ·exact qar.tm_nonneg w0 (by dsimp only;omega)
  ·exact qar.tm_nonneg r0 (by dsimp only;omega)
 obtain⟨s0,hs⟩:=ldGo_sum _ 0 (Int.le_refl 0) (by omega) hp
 rw[sumT_wz,←ldS_L] at hs s0
 rw[e1,e2,hs]
 by_cases hh:0+ldS rl l≤9223372036854775807
 ·rw[if_pos hh];exact .inl ⟨rfl,by dsimp only;omega,s0,by omega⟩
 ·rw[if_neg hh];exact .inr ⟨rfl,rfl,by omega⟩
theorem two_reads (w:World) (a b:Int):Reads (w.alloc (.cells #[.int .i64 a,.int .i64 b] 3)) (w.heap.size+1) 1 (some ⟨w.heap.size,0,none⟩) 2 [.int .i64 a,.int .i64 b] :=
 ⟨rfl,fun _=>⟨⟨w.heap.size,0,none⟩,rfl,by simp,World.news_of_block (cs:=#[.int .i64 a,.int .i64 b]) (t:=3) (fr:=(0,0)) (Blk.new w _ _)⟩⟩
theorem two_cell (a b:Int):∀ u ∈ [Value.int .i64 a,Value.int .i64 b],u.oneCell'=true:=by simp[Value.oneCell']
structure Two (w wr:World) (v u:Value) (zs ts:List Int):Prop where
 but:But No w wr
 o1:Ov wr v zs
 o2:Ov wr u ts
 n1:∀ k,v.ownBlock=some k→w.heap.size≤k
 n2:∀ k,u.ownBlock=some k→w.heap.size≤k
 ap:∀ k,v.ownBlock=some k→u.ownBlock≠some k
theorem Two.start (w:World):Two w w (.slice none 0 0) (.slice none 0 0) [] []:=⟨But.refl No w,Ov.nil w,Ov.nil w,own_none,own_none,fun k e=>by simp[Value.ownBlock] at e⟩
theorem own_lt {w:World} {v:Value} {zs:List Int} {k:Nat} (h:Ov w v zs) (e:v.ownBlock=some k):k<w.heap.size:=by
 obtain⟨_,h2⟩:=h
 rcases h2 with⟨rfl,_⟩ | ⟨g,cap,cur,rfl,_,hh,_⟩
 ·simp[Value.ownBlock] at e
 ·have:g=k:=by simpa [Value.ownBlock] using e
  subst this
  exact Blk.lt hh
theorem Two.no {w wr w2:World} {v u:Value} {zs ts:List Int} (h:Two w wr v u zs ts) (hb:But No wr w2):Two w w2 v u zs ts :=
 ⟨h.but.trans hb,h.o1.but hb (fun _ _ f=>f),h.o2.but hb (fun _ _ f=>f),h.n1,h.n2,h.ap⟩
theorem Two.swap {w wr:World} {v u:Value} {zs ts:List Int} (h:Two w wr v u zs ts):Two w wr u v ts zs:=⟨h.but,h.o2,h.o1,h.n2,h.n1,fun k e f=>h.ap k f e⟩
theorem Two.app {w wr w2:World} {v u:Value} {zs ts ns:List Int} {A:Option Addr} {c n:Nat} (h:Two w wr v u zs ts) (hn:n=zs.length+ns.length) (ho:w2.ownsRow 0 3 1 (.slice A n c) n (zs.map (Value.int .i64) ++ ns.map (Value.int .i64))) (hg:wr.grownBy w2 v.ownBlock)
  (hat:(Value.slice A n c).ownBlock=v.ownBlock∨(Value.slice A n c).ownBlock=some wr.heap.size):Two w w2 (.slice A n c) u (zs ++ ns) ts:=by
 refine⟨h.but.grown hg (fun k e=>.inr (h.n1 k e)),?_,?_,own_new h.n1 hat h.but.size,h.n2,fun k e f=>?_⟩
 ·unfold Ov;rw[List.length_append,List.map_append,←hn];exact ho
 ·have hb:But (fun k=>v.ownBlock=some k) wr w2:=(But.refl _ wr).grown hg (fun k e=>.inl e)
  exact h.o2.but hb (fun k e f=>h.ap k f e)
 ·rcases hat with e1 | e1
  ·rw[e1] at e;exact h.ap k e f
  ·rw[e1] at e
   have hk:wr.heap.size=k:=by simpa using e
   have:=own_lt h.o2 f
   omega
end Go.Proofs.YtjfaiaipojfhgaaGreat.dem
end
