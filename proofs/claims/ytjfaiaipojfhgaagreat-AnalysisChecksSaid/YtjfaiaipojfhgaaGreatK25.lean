/- Part 25 of a proof: DeR5 DeR6. -/
import Derived.StillTailTactics
import Derived.Test.YtjfaiaipojfhgaaGreatK24
section
namespace Go.Proofs.YtjfaiaipojfhgaaGreat.dem
open Go.Lib (hid)
open Go.ChangeShapes Go.WideShapes Go.ChangeAt Go.RowKit Go.Deep
theorem busy_fst (l:List Wk) (bl rl:Int):∀ (k:Nat) (n:Int),1≤n→n≤9223372036854775807→(busyGo l bl rl k n).2=0→1≤(busyGo l bl rl k n).1∧(busyGo l bl rl k n).1≤9223372036854775807
 | 0,_,_,_,h=>by rw[busyGo] at h;cases h
 | k+1,n,h1,h2,h=>by
  rw[busyGo] at h ⊢
  cases ho:comO l bl rl n with
  | true=>rw[ho,if_pos rfl] at h;cases h
  | false =>
   rw[ho,if_neg (by simp)] at h
   rw[if_neg (by simp)]
   by_cases hc:comS l bl rl n≤n
   ·rw[if_pos hc];exact⟨h1,h2⟩
   ·rw[if_neg hc] at h ⊢
    exact busy_fst l bl rl k _ (by omega) (ov_not ho).1 h
theorem fit_rd {zs:List Int} (h:∀ z ∈ zs,inR z):∀ k,inR (zs.getD k 0):=fun k=>by
 by_cases hk:k<zs.length
 ·have e:zs.getD k 0=zs[k]:=by simp[List.getD,hk]
  rw[e];exact h _ (List.getElem_mem hk)
 ·have e:zs.getD k 0=0:=by simp[List.getD,hk]
  rw[e];exact inR_small (by omega)
theorem Ov.rdv {w:World} {v:Value} {zs:List Int} (h:Ov w v zs) (hm:zs.length≤100000) (hf:∀ z ∈ zs,inR z):∃ A c,v=.slice A zs.length c∧Rd w A zs.length zs:=by
 obtain⟨A,c,e,_⟩:=Ov.slice h
 subst e
 obtain⟨hl,_⟩:=h.rl hm
 exact⟨A,c,rfl,hl.len,hl.max,hl.at_,fit_rd hf⟩
set_option maxRecDepth 100000 in
set_option maxHeartbeats 8000000 in
theorem rbusy_any (A:Option Addr) (n c:Nat) (l:List Wk) (bl rl:Int) (w:World) (h:RWk w A n l):Calls Tryz.prog 80 #[.slice A n c,.int .i64 bl,.int .i64 rl] w fun e w'=>e=.returned (.tuple #[.int .i64 (busyP l bl rl).1,.int .i64 (busyP l bl rl).2])∧But No w w':=by
 have HN:=hid h.len
 have HL:=hid h
 have CR:Hid (∀ W,But No w W→Calls Tryz.prog 79 #[.slice A n c,.int .i64 bl,.int .i64 rl] W fun e w'=>e=.returned (.bool (right l bl rl))∧But No W w'):=fun W hb=>rright_any A n c l bl rl W (h.no hb)
 clear h
 cases hrt:right l bl rl with
 | false =>
  have HE:Hid (busyP l bl rl=(0,1)):=hid (by unfold busyP;rw[hrt,if_neg (by simp)])
  rw[hrt] at CR
  clear hrt
  go_enter Tryz.func80,Tryz.ntmps80
  go_wp2_with (go_at_call 79;(with_reducible refine(CR.out _ (But.refl No w)).mono ?_);rintro e w1 ⟨rfl,hb1⟩;have HB1:=hid hb1;clear hb1)
  go_ret2
  exact⟨retp (by rw[HE.out]) (by rw[HE.out]),HB1.out⟩
 | true =>
  have HRT:=hid hrt
  obtain⟨hn72,⟨hb0,hb1⟩,⟨hr0,hr1⟩,hok⟩:=right_iff.1 hrt
  have hn72':n≤72:=by have:=HN.out;omega
  have HOK:=hid hok
  obtain⟨i3,hi0,hz0,hz1,hz2⟩:=info_parts info3
  have I3:Hid (Tryz.prog.info? 3=some i3∧i3.zero=some (.int .i64 0)∧i3.size=1∧i3.bytes=8):=⟨hi0,hz0,hz1,hz2⟩
  rw[hrt] at CR
  clear hrt hok hn72 hi0 hz0 hz1 hz2
  go_enter Tryz.func80,Tryz.ntmps80
  go_upto_region 6 with(go_at_call 79;(with_reducible refine(CR.out _ (But.refl No w)).mono ?_);rintro e w1 ⟨rfl,hb1⟩;have HB1:=hid hb1;clear hb1)
  have HLW:=hid (HL.out.no HB1.out)
  clear HL CR
  go_wp2_with fail
  go_loopw [9,10,11] (fun v u i wr=>∃ (vv uu:Value) (q:Nat),v=vv∧u=uu∧i=.int .i64 (q:Int)∧q≤n∧Hid (Two w1 wr vv uu (wz rl (l.take q)) (pz (l.take q)))) (fun _ _ i _=>n-(intOf i).toNat)
  case atStart=>exact⟨_,_,0,rfl,rfl,rfl,by omega,Two.start w1⟩
  case round =>
   obtain⟨v,u,i,hv,hu,rfl,hi,HT⟩:=hrel
   have hv':=hv.symm
   have hu':=hu.symm
   subst hv'
   subst hu'
   clear hv hu
   by_cases hin:i<n
   ·have hin2:(i:Int)<(n:Int):=by omega
    have hi0:(0:Int)≤(i:Int):=Int.natCast_nonneg i
    obtain⟨x,hx⟩:∃ x,l[i]? = some x:=⟨_,List.getElem?_eq_getElem (by rw[HN.out];exact hin)⟩
    obtain⟨b,off,rfl,hbl,e0,e1,e2,e3⟩:=HLW.out.at1 hx
    have E0:=hid e0
    have E1:=hid e1
    have WS:=hid (wz_snoc (rl:=rl) hx)
    have PS:=hid (pz_snoc hx)
    have hlt:(l.take i).length=i:=by rw[List.length_take,HN.out];omega
    have HWL:=hid (show (wz rl (l.take i)).length=2*i by rw[wz_len,hlt])
    have HPL:=hid (show (pz (l.take i)).length=2*i by rw[pz_len,hlt])
    clear hx e0 e1 e2 e3 hbl hlt
    obtain⟨x0,x1,x2,x3⟩:=x
    dsimp only at E0 E1 WS PS
    have e0:=cell_keep E0.out HT.out.but
    have HTa:=hid (HT.out.no ((But.refl No wr).alloc (.cells #[.int .i64 x0,.int .i64 rl] 3)))
    go_upto_region 10 with(at_builtin;refine wpList_append_sh _ rfl _ _ 39 rfl 3 i3 _ 1 8 Tryz.underlying39 I3.out.1 I3.out.2.1 I3.out.2.2.1 I3.out.2.2.2 rfl (by omega) v (wz rl (l.take i)).length ((wz rl (l.take i)).map (Value.int .i64)) rfl HTa.out.o1 (wr.heap.size+1) (some ⟨wr.heap.size,0,none⟩) 2 2 [.int .i64 x0,.int .i64 rl] rfl (two_reads wr x0 rl) (two_cell x0 rl) (by have:=HWL.out;unfold maxLen;omega) (by have:=HWL.out;omega) ?_;intro A3 c3 w3 hown3 hgrow3 hat3;have HT3:=hid (HTa.out.app (ns:=[x0,rl]) rfl hown3 hgrow3 hat3);clear hown3 hgrow3 hat3)
    clear e0 HTa
    have e1:=cell_keep E1.out HT3.out.but
    have KEEP:Hid (∀ w',But No w1 w'→w'.cell? ⟨b,off+i*4+1,none⟩=some (.int .i64 x1)∧But No w1 w'):=hid (fun w' hb=>⟨cell_keep E1.out hb,hb⟩)
    have HTb:=hid ((HT3.out.no (((But.refl No w3).drew).alloc (.cells #[.int .i64 x1,.int .i64 x1] 3))).swap)
    go_region_held3 (fun w'=>w'.cell? ⟨b,off+i*4+1,none⟩=some (.int .i64 x1)∧But No w1 w')
     (first | exact KEEP.out _ HT3.out.but.drew | exact KEEP.out _ (HT3.out.but.drew.alloc _) | exact KEEP.out _ HT5.out.but)
     (first | (refine step_append_sh rfl _ _ 39 rfl 3 i3 _ 1 8 Tryz.underlying39 I3.out.1 I3.out.2.1 I3.out.2.2.1 I3.out.2.2.2 rfl (by omega) u (pz (l.take i)).length ((pz (l.take i)).map (Value.int .i64)) (by simp[Act.eval]) HTb.out.o1 (w3.drew.heap.size+1) (some ⟨w3.drew.heap.size,0,none⟩) 2 2 [.int .i64 x1,.int .i64 x1] (by simp[Act.eval]) (two_reads w3.drew x1 x1) (two_cell x1 x1) (by have:=HPL.out;unfold maxLen;omega) (by have:=HPL.out;omega) ?_;intro A5 c5 w5 hown5 hgrow5 hat5;have HT5:=hid ((HTb.out.app (ns:=[x1,x1]) rfl hown5.out hgrow5.out hat5.out).swap)))
    rename_i hHeld
    clear hHeld e1 KEEP HTb HT3 HT
    go_wp2
    go_roundw
    case rel=>exact⟨_,_,i+1,rfl,rfl,by go_num,by omega,by rw[WS.out,PS.out];exact HT5.out⟩
    case measure=>simp[intOf];omega
   ·have HI:Hid (i=n):=hid (by omega)
    have b3:decide ((i:Int)<(n:Int))=false:=by simp;omega
    have htk:l.take i=l:=List.take_of_length_le (by rw[HN.out];omega)
    rw[htk] at HT
    have hwl:(wz rl l).length=2*n:=by rw[wz_len,HN.out]
    have hpl:(pz l).length=2*n:=by rw[pz_len,HN.out]
    have hfw:∀ z ∈ wz rl l,inR z:=fun z hz=>by
     obtain⟨x,hx,hm⟩:=List.mem_flatMap.1 hz
     have:=okW_iff.1 (HOK.out x hx)
     simp only[List.mem_cons,List.not_mem_nil,or_false] at hm
     unfold inR;rcases hm with rfl | rfl <;> omega
    have hfp:∀ z ∈ pz l,inR z:=fun z hz=>by
     obtain⟨x,hx,hm⟩:=List.mem_flatMap.1 hz
     have:=okW_iff.1 (HOK.out x hx)
     simp only[List.mem_cons,List.not_mem_nil,or_false] at hm
     unfold inR;rcases hm with rfl | rfl <;> omega
    obtain⟨A7,c7,hv7,hr7⟩:=Ov.rdv HT.out.o1 (by omega) hfw
    obtain⟨A8,c8,hv8,hr8⟩:=Ov.rdv HT.out.o2 (by omega) hfp
    subst hv7 hv8
    have CL:Hid (Calls Tryz.prog 106 #[.slice A7 (wz rl l).length c7,.slice A8 (pz l).length c8] wr fun e w'=>e=.returned (.tuple #[.int .i64 (qar.ldV (wz rl l) (pz l)),.int .i64 (qar.ldE (wz rl l) (pz l))])∧But No wr w'):=hid ((qar.rload_any A7 A8 (wz rl l).length (pz l).length c7 c8 (wz rl l) (pz l) wr hr7 hr8).mono (fun e w' ⟨h1,h2⟩=>⟨h1,h2.butNo⟩))
    have HBT:=hid HT.out.but
    have HLD:=hid (ld_is HRT.out)
    generalize (wz rl l).length=nz at CL ⊢
    generalize (pz l).length=np at CL ⊢
    generalize qar.ldV (wz rl l) (pz l)=V at CL HLD
    generalize qar.ldE (wz rl l) (pz l)=E at CL HLD
    clear htk hwl hpl hfw hfp hr7 hr8 HT
    rcases HLD.out with⟨rfl,hV,h0,h1⟩ | ⟨rfl,hV,h1⟩
    ·by_cases hmi:4294967296<V
     ·have HE:Hid (busyP l bl rl=(0,12)):=hid (by unfold busyP;rw[HRT.out,if_pos rfl,if_pos (by omega)])
      have b4:decide (4294967296<V)=true:=by simp[hmi]
      clear HLD hV h0 h1
      go_wp2_with (go_at_call 106;(with_reducible refine CL.out.mono ?_);rintro e w9 ⟨rfl,hb9⟩;have HB9:=hid (HBT.out.trans hb9);clear hb9)
      go_ret2
      exact⟨retp (by rw[HE.out]) (by rw[HE.out]),HB1.out.trans HB9.out⟩
     ·have HE:Hid (busyP l bl rl=busyGo l bl rl 5000 1):=hid (by unfold busyP;rw[HRT.out,if_pos rfl,if_neg (by omega)])
      have b4:decide (4294967296<V)=false:=by simp;omega
      clear HLD hV h0 h1
      go_upto_region 15 with(go_at_call 106;(with_reducible refine CL.out.mono ?_);rintro e w9 ⟨rfl,hb9⟩;have HB9:=hid (HBT.out.trans hb9);clear hb9)
      have HL9:=hid (HLW.out.no HB9.out)
      clear CL HLW HBT
      go_wp2_with fail
      go_loopw [14,15] (fun m s wr=>∃ (mv:Int) (q:Nat),m=.int .i64 mv∧s=.int .i64 (q:Int)∧q≤5000∧1≤mv∧mv≤9223372036854775807∧Hid (busyGo l bl rl (5000-q) mv=busyP l bl rl)∧Hid (wr=w9)) (fun _ s _=>5000-(intOf s).toNat)
      case atStart=>exact⟨1,0,rfl,rfl,by omega,by omega,by omega,HE.out.symm,rfl⟩
      case round =>
       obtain⟨m,q,rfl,rfl,hq,hm1,hm2,HG,HW⟩:=hrel
       obtain rfl:=HW.out
       clear HW
       by_cases hq5:q<5000
       ·have hq5':(q:Int)<5000:=by omega
        have CC:=hid (rcomes_any A n c l bl rl m wr HL9.out HRT.out hm1 hm2)
        have HG':Hid ((if comO l bl rl m=true then (0,2) else if comS l bl rl m≤m then (m,0) else busyGo l bl rl (5000-(q+1)) (comS l bl rl m))=busyP l bl rl):=hid (by
         have h9:=HG.out
         rw[show 5000-q=(5000-(q+1))+1 by omega,busyGo] at h9
         exact h9)
        cases ho:comO l bl rl m with
        | true =>
         obtain⟨v1,v2⟩:=com_out ho
         rw[v1,v2] at CC
         rw[ho,if_pos rfl] at HG'
         clear ho v1 v2 HG
         go_wp2_with (go_at_call 107;(with_reducible refine CC.out.mono ?_);rintro e w5 ⟨rfl,rfl⟩)
         go_ret2
         exact⟨retp (by rw[←HG'.out]) (by rw[←HG'.out]),HB1.out.trans HB9.out⟩
        | false =>
         obtain⟨v1,v2⟩:=com_in ho
         have hc2:comS l bl rl m≤9223372036854775807:=(ov_not ho).1
         rw[v1,v2] at CC
         rw[ho,if_neg (by simp)] at HG'
         clear ho v1 v2 HG
         generalize comS l bl rl m=cv at CC HG' hc2
         by_cases hc:cv≤m
         ·have b5:decide (cv≤m)=true:=by simp[hc]
          rw[if_pos hc] at HG'
          go_wp2_with (go_at_call 107;(with_reducible refine CC.out.mono ?_);rintro e w5 ⟨rfl,rfl⟩)
          go_ret2
          exact⟨retp (by rw[←HG'.out]) (by rw[←HG'.out]),HB1.out.trans HB9.out⟩
         ·have b5:decide (cv≤m)=false:=by simp;omega
          rw[if_neg hc] at HG'
          go_wp2_with (go_at_call 107;(with_reducible refine CC.out.mono ?_);rintro e w5 ⟨rfl,rfl⟩)
          go_roundw
          case rel=>exact⟨cv,q+1,rfl,by go_num,by omega,by omega,by omega,HG',by first | exact rfl | exact trivial⟩
          case measure=>simp[intOf];omega
       ·have HE2:Hid (busyP l bl rl=(0,11)):=hid (by rw[←HG.out,show 5000-q=0 by omega];rfl)
        have b6:decide ((q:Int)<5000)=false:=by simp;omega
        clear HG
        go_wp2
        go_ret2
        exact⟨retp (by rw[HE2.out]) (by rw[HE2.out]),HB1.out.trans HB9.out⟩
    ·have HE:Hid (busyP l bl rl=(0,12)):=hid (by unfold busyP;rw[HRT.out,if_pos rfl,if_pos h1])
     clear HLD hV h1
     go_wp2_with (go_at_call 106;(with_reducible refine CL.out.mono ?_);rintro e w9 ⟨rfl,hb9⟩;have HB9:=hid (HBT.out.trans hb9);clear hb9)
     go_ret2
     exact⟨retp (by rw[HE.out]) (by rw[HE.out]),HB1.out.trans HB9.out⟩
end Go.Proofs.YtjfaiaipojfhgaaGreat.dem
end
section
namespace Go.Proofs.YtjfaiaipojfhgaaGreat.dem
open Go.Lib (hid)
open Go.ChangeShapes Go.WideShapes Go.ChangeAt Go.RowKit Go.Deep
theorem busyP_le {l:List Wk} {bl rl:Int} (h:(busyP l bl rl).2=0):1≤(busyP l bl rl).1∧(busyP l bl rl).1≤9223372036854775807:=by
 unfold busyP at h ⊢
 by_cases hr:right l bl rl=true
 ·rw[if_pos hr] at h ⊢
  by_cases hm:4294967296<ldS rl l
  ·rw[if_pos hm] at h;cases h
  ·rw[if_neg hm] at h ⊢
   exact busy_fst l bl rl 5000 1 (by omega) (by omega) h
 ·rw[if_neg hr] at h;cases h
theorem lsN_next {l:List Wk} {i:Nat} {x:Wk} (h:l[i]? = some x):lsN l (i+1)=if x.top=false∧(lsN l i=0∨x.d<lsN l i) then x.d else lsN l i:=by
 rw[lsN,getD_some h]
set_option maxRecDepth 100000 in
set_option maxHeartbeats 8000000 in
theorem rtest_any (A:Option Addr) (n c:Nat) (l:List Wk) (bl rl:Int) (w:World) (h:RWk w A n l):Calls Tryz.prog 58 #[.slice A n c,.int .i64 bl,.int .i64 rl] w fun e w'=>e=.returned (.int .i64 (testV l bl rl))∧But No w w':=by
 have HN:=hid h.len
 have HL:=hid h
 have CR:Hid (∀ W,But No w W→Calls Tryz.prog 79 #[.slice A n c,.int .i64 bl,.int .i64 rl] W fun e w'=>e=.returned (.bool (right l bl rl))∧But No W w'):=fun W hb=>rright_any A n c l bl rl W (h.no hb)
 have CB:Hid (∀ W,But No w W→Calls Tryz.prog 80 #[.slice A n c,.int .i64 bl,.int .i64 rl] W fun e w'=>e=.returned (.tuple #[.int .i64 (busyP l bl rl).1,.int .i64 (busyP l bl rl).2])∧But No W w'):=fun W hb=>rbusy_any A n c l bl rl W (h.no hb)
 have CA:Hid (∀ t W,t≤9223372036854775807→But No w W→Calls Tryz.prog 81 #[.slice A n c,.int .i64 bl,.int .i64 rl,.int .i64 t] W fun e w'=>e=.returned (.tuple #[.int .i64 (askV l bl rl t),.int .i64 (askE l bl rl t)])∧But No W w'):=fun t W ht hb=>rask_any A n c l bl rl t W (h.no hb) ht
 clear h
 cases hrt:right l bl rl with
 | false =>
  have HE:Hid (testV l bl rl=1):=hid (by unfold testV;rw[hrt,if_neg (by simp)])
  rw[hrt] at CR
  clear hrt
  go_enter Tryz.func58,Tryz.ntmps58
  go_wp2_with (go_at_call 79;(with_reducible refine(CR.out _ (But.refl No w)).mono ?_);rintro e w1 ⟨rfl,hb1⟩;have HB1:=hid hb1;clear hb1)
  go_ret
  exact⟨ret1 HE.out.symm,HB1.out⟩
 | true =>
  have HRT:=hid hrt
  obtain⟨hn72,_,_,hok⟩:=right_iff.1 hrt
  have hn72':n≤72:=by have:=HN.out;omega
  have HOK:=hid hok
  rw[hrt] at CR
  clear hrt hok hn72
  go_enter Tryz.func58,Tryz.ntmps58
  go_upto_region 5 with(go_at_call 79;(with_reducible refine(CR.out _ (But.refl No w)).mono ?_);rintro e w1 ⟨rfl,hb1⟩;have HB1:=hid hb1;clear hb1)
  have HLW:=hid (HL.out.no HB1.out)
  clear HL CR
  go_wp2_with fail
  go_loopw [8,9] (fun u i wr=>∃ q:Nat,u=.int .i64 (lsN l q)∧i=.int .i64 (q:Int)∧q≤n∧Hid (wr=w1)) (fun _ i _=>n-(intOf i).toNat)
  case atStart=>exact⟨0,rfl,rfl,by omega,rfl⟩
  case round =>
   obtain⟨i,rfl,rfl,hi,HW⟩:=hrel
   obtain rfl:=HW.out
   clear HW
   by_cases hin:i<n
   ·have hin2:(i:Int)<(n:Int):=by omega
    have hi0:(0:Int)≤(i:Int):=Int.natCast_nonneg i
    obtain⟨x,hx⟩:∃ x,l[i]? = some x:=⟨_,List.getElem?_eq_getElem (by rw[HN.out];exact hin)⟩
    obtain⟨b,off,rfl,_,e0,e1,e2,e3⟩:=HLW.out.at1 hx
    have NX:=hid (lsN_next hx)
    clear hx
    obtain⟨x0,x1,x2,x3⟩:=x
    dsimp only at e0 e1 e2 e3 NX
    obtain⟨L,hL⟩:∃ L,lsN l i=L:=⟨_,rfl⟩
    rw[hL] at NX ⊢
    clear hL
    cases x3 with
    | true =>
     rw[if_neg (fun h=>by simp at h)] at NX
     go_wp2
     go_roundw
     case rel=>exact⟨i+1,by rw[NX.out],by go_num,by omega,by first | exact rfl | exact trivial⟩
     case measure=>simp[intOf];omega
    | false =>
     by_cases hL0:L=0
     ·have q1:(L == 0)=true:=by simp[hL0]
      rw[if_pos ⟨rfl,.inl hL0⟩] at NX
      clear hL0
      go_wp2
      go_roundw
      case rel=>exact⟨i+1,by rw[NX.out],by go_num,by omega,by first | exact rfl | exact trivial⟩
      case measure=>simp[intOf];omega
     ·have q1:(L == 0)=false:=by simp[hL0]
      by_cases hd:x2<L
      ·have q2:decide (x2<L)=true:=by simp[hd]
       rw[if_pos ⟨rfl,.inr hd⟩] at NX
       clear hL0
       go_wp2
       go_roundw
       case rel=>exact⟨i+1,by rw[NX.out],by go_num,by omega,by first | exact rfl | exact trivial⟩
       case measure=>simp[intOf];omega
      ·have q2:decide (x2<L)=false:=by simp;omega
       rw[if_neg (fun h=>h.2.elim hL0 hd)] at NX
       clear hL0
       go_wp2
       go_roundw
       case rel=>exact⟨i+1,by rw[NX.out],by go_num,by omega,by first | exact rfl | exact trivial⟩
       case measure=>simp[intOf];omega
   ·have HI:Hid (i=n):=hid (by omega)
    have b3:decide ((i:Int)<(n:Int))=false:=by simp;omega
    have HLS:Hid (lsN l i=least l):=hid (by rw[HI.out];unfold least;rw[HN.out])
    have hlb:=least_bd HRT.out
    rw[HLS.out]
    obtain⟨L,hL⟩:∃ L,least l=L:=⟨_,rfl⟩
    have HLL:=hid hL
    rw[hL] at hlb ⊢
    clear hL
    by_cases hL0:L=0
    ·have HE:Hid (testV l bl rl=0):=hid (by unfold testV;rw[HRT.out,if_pos rfl,HLL.out,if_pos hL0])
     have q1:(L == 0)=true:=by simp[hL0]
     clear hL0 hlb
     go_wp2
     go_ret
     exact⟨ret1 HE.out.symm,HB1.out⟩
    ·have q1:(L == 0)=false:=by simp[hL0]
     have hL1:1≤L:=by omega
     have HE:Hid (testV l bl rl=if (busyP l bl rl).2≠0 then (busyP l bl rl).2 else testGo l bl rl L 5000 (busyP l bl rl).1):=hid (by unfold testV;rw[HRT.out,if_pos rfl,HLL.out,if_neg hL0])
     have HBL:=hid (fun h=>busyP_le (l:=l) (bl:=bl) (rl:=rl) h)
     generalize (busyP l bl rl).1=t0 at CB HE HBL
     generalize (busyP l bl rl).2=e0 at CB HE HBL
     clear hL0 hlb
     obtain⟨w9,rfl⟩:∃ w9,w9=wr:=⟨_,rfl⟩
     by_cases he:e0=0
     ·have q2:(e0 != 0)=false:=by simp[he]
      obtain⟨ht1,ht2⟩:=HBL.out he
      rw[if_neg (by simp[he])] at HE
      have HE0:=hid he
      clear he HBL
      go_upto_region 15 with(go_at_call 80;(with_reducible refine(CB.out _ HB1.out).mono ?_);rintro e w2 ⟨rfl,hb2⟩;have HB2:=hid (HB1.out.trans hb2);clear hb2)
      go_wp2_with fail
      go_loopw [10,12] (fun m s wr=>∃ (mv:Int) (q:Nat),m=.int .i64 mv∧s=.int .i64 (q:Int)∧q≤5000∧0≤mv∧mv≤9223372036854775807∧Hid (testGo l bl rl L (5000-q) mv=testV l bl rl)∧Hid (But No w wr)) (fun _ s _=>5000-(intOf s).toNat)
      case atStart=>exact⟨t0,0,rfl,rfl,by omega,by omega,by omega,HE.out.symm,HB2⟩
      case round =>
       obtain⟨m,q,rfl,rfl,hq,hm1,hm2,HG,HBR⟩:=hrel
       by_cases hq5:q<5000
       ·have hq5':(q:Int)<5000:=by omega
        have HG':Hid ((if m<L then 0 else if askE l bl rl m≠0 then askE l bl rl m else if m<askV l bl rl m then 12 else if askV l bl rl m<m then testGo l bl rl L (5000-(q+1)) (askV l bl rl m) else testGo l bl rl L (5000-(q+1)) (m-1))=testV l bl rl):=hid (by
         have h9:=HG.out
         rw[show 5000-q=(5000-(q+1))+1 by omega,testGo] at h9
         exact h9)
        clear HG
        by_cases hml:m<L
        ·have b5:decide (m<L)=true:=by simp[hml]
         rw[if_pos hml] at HG'
         go_wp2
         go_ret
         exact⟨ret1 HG'.out,HBR.out⟩
        ·have b5:decide (m<L)=false:=by simp;omega
         rw[if_neg hml] at HG'
         have CAm:=hid (CA.out m wr hm2 HBR.out)
         have hav:askE l bl rl m=0→0≤askV l bl rl m∧askV l bl rl m≤9223372036854775807:=fun h=>ask_in h
         generalize askV l bl rl m=av at CAm HG' hav
         generalize askE l bl rl m=ae at CAm HG' hav
         by_cases hae:ae=0
         ·obtain⟨hav0,hav1⟩:=hav hae
          have b6:(ae != 0)=false:=by simp[hae]
          rw[if_neg (by simp[hae])] at HG'
          clear hav hae
          by_cases hgt:m<av
          ·have b7:decide (m<av)=true:=by simp[hgt]
           rw[if_pos hgt] at HG'
           go_wp2_with (go_at_call 81;(with_reducible refine CAm.out.mono ?_);rintro e w5 ⟨rfl,hb5⟩;have HB5:=hid (HBR.out.trans hb5);clear hb5)
           go_ret
           exact⟨ret1 HG'.out,HB5.out⟩
          ·have b7:decide (m<av)=false:=by simp;omega
           rw[if_neg hgt] at HG'
           by_cases hlt:av<m
           ·have b8:decide (av<m)=true:=by simp[hlt]
            rw[if_pos hlt] at HG'
            go_wp2_with (go_at_call 81;(with_reducible refine CAm.out.mono ?_);rintro e w5 ⟨rfl,hb5⟩;have HB5:=hid (HBR.out.trans hb5);clear hb5)
            go_roundw
            case rel=>exact⟨av,q+1,rfl,by go_num,by omega,by omega,by omega,HG',HB5⟩
            case measure=>simp[intOf];omega
           ·have b8:decide (av<m)=false:=by simp;omega
            rw[if_neg hlt] at HG'
            go_wp2_with (go_at_call 81;(with_reducible refine CAm.out.mono ?_);rintro e w5 ⟨rfl,hb5⟩;have HB5:=hid (HBR.out.trans hb5);clear hb5)
            go_roundw
            case rel=>exact⟨m-1,q+1,by go_num,by go_num,by omega,by omega,by omega,HG',HB5⟩
            case measure=>simp[intOf];omega
         ·have b6:(ae != 0)=true:=by simp[hae]
          rw[if_pos hae] at HG'
          clear hav hae
          go_wp2_with (go_at_call 81;(with_reducible refine CAm.out.mono ?_);rintro e w5 ⟨rfl,hb5⟩;have HB5:=hid (HBR.out.trans hb5);clear hb5)
          go_ret
          exact⟨ret1 HG'.out,HB5.out⟩
       ·have HE2:Hid (testV l bl rl=11):=hid (by rw[←HG.out,show 5000-q=0 by omega];rfl)
        have b6:decide ((q:Int)<5000)=false:=by simp;omega
        clear HG
        go_wp2
        go_ret
        exact⟨ret1 HE2.out.symm,HBR.out⟩
     ·have q2:(e0 != 0)=true:=by simp[he]
      rw[if_pos he] at HE
      clear he HBL
      go_wp2_with (go_at_call 80;(with_reducible refine(CB.out _ HB1.out).mono ?_);rintro e w2 ⟨rfl,hb2⟩;have HB2:=hid (HB1.out.trans hb2);clear hb2)
      go_ret
      exact⟨ret1 HE.out.symm,HB2.out⟩
end Go.Proofs.YtjfaiaipojfhgaaGreat.dem
end
