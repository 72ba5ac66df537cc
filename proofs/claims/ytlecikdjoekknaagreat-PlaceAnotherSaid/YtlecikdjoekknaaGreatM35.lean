/- Part 35 of a proof: DeC. -/
import Derived.Test.YtlecikdjoekknaaGreatM34
set_option maxRecDepth 100000
set_option maxHeartbeats 16000000
set_option linter.unusedVariables false
set_option linter.unusedSimpArgs false
section
namespace Go.Proofs.YtlecikdjoekknaaGreat.dem
open Go.Lib (hid)
open Go.ChangeShapes Go.WideShapes Go.ChangeAt Go.RowKit Go.Deep
theorem period_any (A:Option Addr) (n c:Nat) (l:List Wk) (bl rl:Int) (w:World) (h:RWk w A n l) (hrt:right l bl rl=true):Calls Tryz.prog 128 #[.agg #[.slice A n c,.int .i64 bl,.int .i64 rl]] w λ e w'=>e=.returned (.tuple #[.int .i64 (busyP l bl rl).1,.int .i64 (busyP l bl rl).2])/\But No w w':=by
 have HL:=hid h
 have HRT:=hid hrt
 have CG:Hid (∀ W,But No w W->Calls Tryz.prog 160 #[.agg #[.slice A n c,.int .i64 bl,.int .i64 rl]] W λ e w'=>e=.returned (.bool (decide (4294967296<ldS rl l)))/\But No W w'):=hid (λ W hb=>great_any A n c l bl rl W (h.no hb) hrt)
 have HBA:Hid (But No w (w.alloc (.cells #[.slice A n c,.int .i64 bl,.int .i64 rl] 187))):=hid ((But.refl No w).alloc _)
 clear h hrt
 by_cases hg:4294967296<ldS rl l
 ·have HE:Hid (busyP l bl rl=(0,12)):=hid (by unfold busyP;rw[HRT.out,if_pos rfl,if_pos hg])
  rw[decide_eq_true hg] at CG
  rw[HE.out]
  clear hg
  go_enter Tryz.func128,Tryz.ntmps128
  go_wp2_with (go_at_call 160;(with_reducible refine(CG.out _ HBA.out).mono ?_);rintro e w1 ⟨rfl,hb1⟩;have HB1:=hid (HBA.out.trans hb1);clear hb1)
  go_ret2
  exact⟨rfl,HB1.out⟩
 ·have HE:Hid (busyP l bl rl=busyGo l bl rl 5000 1):=hid (by unfold busyP;rw[HRT.out,if_pos rfl,if_neg hg])
  rw[decide_eq_false hg] at CG
  have HBK:Hid (∀ W,But No (w.alloc (.cells #[.slice A n c,.int .i64 bl,.int .i64 rl] 187)) W->W.cell? ⟨w.heap.size,0,none⟩=some (.slice A n c)/\W.cell? ⟨w.heap.size,1,none⟩=some (.int .i64 bl)/\W.cell? ⟨w.heap.size,2,none⟩=some (.int .i64 rl)):=hid (λ W hb=>box_keep hb)
  clear hg
  go_enter Tryz.func128,Tryz.ntmps128
  go_upto_region 4 with(go_at_call 160;(with_reducible refine(CG.out _ HBA.out).mono ?_);rintro e w1 ⟨rfl,hb1⟩;have HB1:=hid hb1;clear hb1)
  go_wp2_with fail
  go_loopw [4,9] (λ m s wr=>∃ (mv:Int) (q:Nat),m=.int .i64 mv/\s=.int .i64 (q:Int)/\q<=5000/\1<=mv/\mv<=9223372036854775807/\Hid (busyGo l bl rl (5000-q) mv=busyP l bl rl)/\Hid (But No (w.alloc (.cells #[.slice A n c,.int .i64 bl,.int .i64 rl] 187)) wr)) (λ _ s _=>5000-(intOf s).toNat)
  case atStart=>exact⟨1,0,rfl,rfl,by omega,by omega,by omega,HE.out.symm,HB1.out⟩
  case round =>
   obtain⟨m,q,rfl,rfl,hq,hm1,hm2,HG,HBR⟩:=hrel
   by_cases hq5:q<5000
   ·have hq5':(q:Int)<5000:=by omega
    have CC:=hid (arriving_any A n c l bl rl m wr (HL.out.no (HBA.out.trans HBR.out)) HRT.out ⟨hm1,hm2⟩)
    obtain⟨k0,k1,k2⟩:=HBK.out _ HBR.out
    have HG':Hid ((if comO l bl rl m=true then (0,2) else if comS l bl rl m<=m then (m,0) else busyGo l bl rl (5000-(q+1)) (comS l bl rl m))=busyP l bl rl):=hid (by
     have h9:=HG.out
     rw[show 5000-q=(5000-(q+1))+1 by omega,busyGo] at h9
     exact h9)
    cases ho:comO l bl rl m with
    | true =>
     obtain⟨v1,v2⟩:=com_out ho
     rw[v1,v2] at CC
     rw[ho,if_pos rfl] at HG'
     clear ho v1 v2 HG
     go_wp2_with (go_at_call 161;(with_reducible refine CC.out.mono ?_);rintro e w5 ⟨rfl,hb5⟩;have HB5:=hid (HBR.out.trans hb5);clear hb5)
     go_ret2
     exact⟨retp (by rw[<-HG'.out]) (by rw[<-HG'.out]),HBA.out.trans HB5.out⟩
    | false =>
     obtain⟨v1,v2⟩:=com_in ho
     have hc2:comS l bl rl m<=9223372036854775807:=(ov_not ho).1
     rw[v1,v2] at CC
     rw[ho,if_neg (by simp)] at HG'
     clear ho v1 v2 HG
     generalize comS l bl rl m=cv at CC HG' hc2
     by_cases hc:cv<=m
     ·have b5:decide (cv<=m)=true:=by simp[hc]
      rw[if_pos hc] at HG'
      go_wp2_with (go_at_call 161;(with_reducible refine CC.out.mono ?_);rintro e w5 ⟨rfl,hb5⟩;have HB5:=hid (HBR.out.trans hb5);clear hb5)
      go_ret2
      exact⟨retp (by rw[<-HG'.out]) (by rw[<-HG'.out]),HBA.out.trans HB5.out⟩
     ·have b5:decide (cv<=m)=false:=by simp;omega
      rw[if_neg hc] at HG'
      go_wp2_with (go_at_call 161;(with_reducible refine CC.out.mono ?_);rintro e w5 ⟨rfl,hb5⟩;have HB5:=hid (HBR.out.trans hb5);clear hb5)
      go_roundw
      case rel=>exact⟨cv,q+1,rfl,by go_num,by omega,by omega,by omega,HG',HB5⟩
      case measure=>simp[intOf];omega
   ·have HE2:Hid (busyP l bl rl=(0,11)):=hid (by rw[<-HG.out,show 5000-q=0 by omega];rfl)
    have b6:decide ((q:Int)<5000)=false:=by simp;omega
    clear HG
    go_wp2
    go_ret2
    exact⟨retp (by rw[HE2.out]) (by rw[HE2.out]),HBA.out.trans HBR.out⟩
theorem descend_any (A:Option Addr) (n c:Nat) (l:List Wk) (bl rl t L:Int) (w:World) (h:RWk w A n l) (hrt:right l bl rl=true) (ht0:0<=t) (ht9:t<=9223372036854775807) (hL1:1<=L):Calls Tryz.prog 129 #[.agg #[.slice A n c,.int .i64 bl,.int .i64 rl],.int .i64 t,.int .i64 L] w λ e w'=>e=.returned (.int .i64 (testGo l bl rl L 5000 t))/\But No w w':=by
 have HL:=hid h
 have HRT:=hid hrt
 have HBA:Hid (But No w (w.alloc (.cells #[.slice A n c,.int .i64 bl,.int .i64 rl] 187))):=hid ((But.refl No w).alloc _)
 have HBK:Hid (∀ W,But No (w.alloc (.cells #[.slice A n c,.int .i64 bl,.int .i64 rl] 187)) W->W.cell? ⟨w.heap.size,0,none⟩=some (.slice A n c)/\W.cell? ⟨w.heap.size,1,none⟩=some (.int .i64 bl)/\W.cell? ⟨w.heap.size,2,none⟩=some (.int .i64 rl)):=hid (λ W hb=>box_keep hb)
 obtain⟨R,hR⟩:∃ R,testGo l bl rl L 5000 t=R:=⟨_,rfl⟩
 have HR0:=hid hR
 rw[hR]
 clear h hrt hR
 go_enter Tryz.func129,Tryz.ntmps129
 go_wp2_with fail
 go_loopw [1,9] (λ m s wr=>∃ (mv:Int) (q:Nat),m=.int .i64 mv/\s=.int .i64 (q:Int)/\q<=5000/\0<=mv/\mv<=9223372036854775807/\Hid (testGo l bl rl L (5000-q) mv=R)/\Hid (But No (w.alloc (.cells #[.slice A n c,.int .i64 bl,.int .i64 rl] 187)) wr)) (λ _ s _=>5000-(intOf s).toNat)
 case atStart=>exact⟨t,0,rfl,rfl,by omega,by omega,by omega,HR0.out,But.refl No _⟩
 case round =>
  obtain⟨m,q,rfl,rfl,hq,hm1,hm2,HG,HBR⟩:=hrel
  by_cases hq5:q<5000
  ·have hq5':(q:Int)<5000:=by omega
   have HG':Hid ((if m<L then 0 else if askE l bl rl m≠0 then askE l bl rl m else if m<askV l bl rl m then 12 else if askV l bl rl m<m then testGo l bl rl L (5000-(q+1)) (askV l bl rl m) else testGo l bl rl L (5000-(q+1)) (m-1))=R):=hid (by
    have h9:=HG.out
    rw[show 5000-q=(5000-(q+1))+1 by omega,testGo] at h9
    exact h9)
   clear HG
   by_cases hml:m<L
   ·have b5:decide (m<L)=true:=by simp[hml]
    rw[if_pos hml] at HG'
    go_wp2
    go_ret
    exact⟨ret1 HG'.out,HBA.out.trans HBR.out⟩
   ·have b5:decide (m<L)=false:=by simp;omega
    rw[if_neg hml] at HG'
    have CAm:=hid (demand_any A n c l bl rl m wr (HL.out.no (HBA.out.trans HBR.out)) HRT.out ⟨by omega,hm2⟩)
    obtain⟨k0,k1,k2⟩:=HBK.out _ HBR.out
    have hav:askE l bl rl m=0->0<=askV l bl rl m/\askV l bl rl m<=9223372036854775807:=λ h=>ask_in h
    generalize askV l bl rl m=av at CAm HG' hav
    generalize askE l bl rl m=ae at CAm HG' hav
    by_cases hae:ae=0
    ·obtain⟨hav0,hav1⟩:=hav hae
     have b6:(ae != 0)=false:=by simp[hae]
     rw[if_neg (by simp[hae])] at HG'
     clear hav hae
     by_cases hgt:m<av
     ·have b7:decide (m<av)=true:=by simp[hgt]
      rw[if_pos hgt] at HG'
      go_wp2_with (go_at_call 162;(with_reducible refine CAm.out.mono ?_);rintro e w5 ⟨rfl,hb5⟩;have HB5:=hid (HBR.out.trans hb5);clear hb5)
      go_ret
      exact⟨ret1 HG'.out,HBA.out.trans HB5.out⟩
     ·have b7:decide (m<av)=false:=by simp;omega
      rw[if_neg hgt] at HG'
      by_cases hlt:av<m
      ·have b8:decide (av<m)=true:=by simp[hlt]
       rw[if_pos hlt] at HG'
       go_wp2_with (go_at_call 162;(with_reducible refine CAm.out.mono ?_);rintro e w5 ⟨rfl,hb5⟩;have HB5:=hid (HBR.out.trans hb5);clear hb5)
       go_roundw
       case rel=>exact⟨av,q+1,rfl,by go_num,by omega,by omega,by omega,HG',HB5⟩
       case measure=>simp[intOf];omega
      ·have b8:decide (av<m)=false:=by simp;omega
       rw[if_neg hlt] at HG'
       go_wp2_with (go_at_call 162;(with_reducible refine CAm.out.mono ?_);rintro e w5 ⟨rfl,hb5⟩;have HB5:=hid (HBR.out.trans hb5);clear hb5)
       go_roundw
       case rel=>exact⟨m-1,q+1,by go_num,by go_num,by omega,by omega,by omega,HG',HB5⟩
       case measure=>simp[intOf];omega
    ·have b6:(ae != 0)=true:=by simp[hae]
     rw[if_pos hae] at HG'
     clear hav hae
     go_wp2_with (go_at_call 162;(with_reducible refine CAm.out.mono ?_);rintro e w5 ⟨rfl,hb5⟩;have HB5:=hid (HBR.out.trans hb5);clear hb5)
     go_ret
     exact⟨ret1 HG'.out,HBA.out.trans HB5.out⟩
  ·have HE2:Hid (R=11):=hid (by rw[<-HG.out,show 5000-q=0 by omega];rfl)
   have b6:decide ((q:Int)<5000)=false:=by simp;omega
   clear HG
   go_wp2
   go_ret
   exact⟨ret1 HE2.out.symm,HBA.out.trans HBR.out⟩
theorem test_any (A:Option Addr) (n c:Nat) (l:List Wk) (bl rl:Int) (w:World) (h:RWk w A n l) (_:inR bl) (_:inR rl):Calls Tryz.prog 101 #[.slice A n c,.int .i64 bl,.int .i64 rl] w λ e w'=>e=.returned (.int .i64 (testV l bl rl))/\But No w w':=by
 have HBA:Hid (But No w (w.alloc (.cells #[.slice A n c,.int .i64 bl,.int .i64 rl] 187))):=hid ((But.refl No w).alloc _)
 have HBK:Hid (∀ W,But No (w.alloc (.cells #[.slice A n c,.int .i64 bl,.int .i64 rl] 187)) W->W.cell? ⟨w.heap.size,0,none⟩=some (.slice A n c)/\W.cell? ⟨w.heap.size,1,none⟩=some (.int .i64 bl)/\W.cell? ⟨w.heap.size,2,none⟩=some (.int .i64 rl)):=hid (λ W hb=>box_keep hb)
 have CR:Hid (∀ W,But No w W->Calls Tryz.prog 126 #[.agg #[.slice A n c,.int .i64 bl,.int .i64 rl]] W λ e w'=>e=.returned (.bool (right l bl rl))/\But No W w'):=hid (λ W hb=>right_any A n c l bl rl W (h.no hb))
 cases hrt:right l bl rl with
 | false =>
  have HE:Hid (testV l bl rl=1):=hid (by unfold testV;rw[hrt,if_neg (by simp)])
  rw[HE.out]
  rw[hrt] at CR
  clear hrt h
  go_enter Tryz.func101,Tryz.ntmps101
  go_wp2_with (go_at_call 126;(with_reducible refine(CR.out _ HBA.out).mono ?_);rintro e w1 ⟨rfl,hb1⟩;have HB1:=hid hb1;clear hb1)
  go_ret
  exact⟨rfl,HBA.out.trans HB1.out⟩
 | true =>
  have hok:=(right_iff.1 hrt).2.2.2
  have hfl:=(fdV_is hok).2
  have CFI:Hid (∀ W,But No w W->Calls Tryz.prog 127 #[.agg #[.slice A n c,.int .i64 bl,.int .i64 rl]] W λ e w'=>e=.returned (.int .i64 (fdV l))/\But No W w'):=hid (λ W hb=>first_any A n c l bl rl W (h.no hb) hok)
  have CBZ:Hid (∀ W,But No w W->Calls Tryz.prog 128 #[.agg #[.slice A n c,.int .i64 bl,.int .i64 rl]] W λ e w'=>e=.returned (.tuple #[.int .i64 (busyP l bl rl).1,.int .i64 (busyP l bl rl).2])/\But No W w'):=hid (λ W hb=>period_any A n c l bl rl W (h.no hb) hrt)
  have CDE:Hid (∀ t L W,0<=t->t<=9223372036854775807->1<=L->But No w W->Calls Tryz.prog 129 #[.agg #[.slice A n c,.int .i64 bl,.int .i64 rl],.int .i64 t,.int .i64 L] W λ e w'=>e=.returned (.int .i64 (testGo l bl rl L 5000 t))/\But No W w'):=hid (λ t L W h1 h2 h3 hb=>descend_any A n c l bl rl t L W (h.no hb) hrt h1 h2 h3)
  have HRT:=hid hrt
  rw[hrt] at CR
  clear hrt h hok
  by_cases hl0:least l=0
  ·have HE:Hid (testV l bl rl=0):=hid (by unfold testV;rw[HRT.out,if_pos rfl,if_pos hl0])
   rw[HE.out]
   rw[show fdV l=1099511627777 by unfold fdV;rw[if_pos hl0]] at CFI
   clear hl0 hfl CBZ CDE
   go_enter Tryz.func101,Tryz.ntmps101
   go_wp2_with (first | (go_at_call 126;(with_reducible refine(CR.out _ HBA.out).mono ?_);rintro e w1 ⟨rfl,hb1⟩;obtain⟨k0,k1,k2⟩:=HBK.out _ hb1;have HB1:=hid hb1;clear hb1) | (go_at_call 127;(with_reducible refine(CFI.out _ (HBA.out.trans HB1.out)).mono ?_);rintro e w2 ⟨rfl,hb2⟩;have HB2:=hid (HB1.out.trans hb2);clear hb2))
   go_ret
   exact⟨rfl,HBA.out.trans HB2.out⟩
  ·have hl1:1<=least l/\least l<=1099511627776:=by omega
   have HE:Hid (testV l bl rl=if (busyP l bl rl).2≠0 then (busyP l bl rl).2 else testGo l bl rl (least l) 5000 (busyP l bl rl).1):=hid (by unfold testV;rw[HRT.out,if_pos rfl,if_neg hl0])
   rw[show fdV l=least l by unfold fdV;rw[if_neg hl0]] at CFI
   have HBL:=hid (λ h=>busyP_le (l:=l) (bl:=bl) (rl:=rl) h)
   generalize least l=L at hl1 HE CFI
   have CDL:Hid (∀ t W,0<=t->t<=9223372036854775807->But No w W->Calls Tryz.prog 129 #[.agg #[.slice A n c,.int .i64 bl,.int .i64 rl],.int .i64 t,.int .i64 L] W λ e w'=>e=.returned (.int .i64 (testGo l bl rl L 5000 t))/\But No W w'):=hid (λ t W h1 h2 hb=>CDE.out t L W h1 h2 hl1.1 hb)
   have q0:(L == 1099511627777)=false:=by simp;omega
   have q0':decide (L=1099511627777)=false:=by simp;omega
   clear hl0 hfl CDE
   obtain⟨V,hV⟩:∃ V,testV l bl rl=V:=⟨_,rfl⟩
   rw[hV] at HE ⊢
   clear hV
   generalize (busyP l bl rl).1=t0 at CBZ HE HBL
   generalize (busyP l bl rl).2=e0 at CBZ HE HBL
   by_cases he:e0=0
   ·have q2:(e0 != 0)=false:=by simp[he]
    obtain⟨ht1,ht2⟩:=HBL.out he
    rw[if_neg (by simp[he])] at HE
    have CD:=hid (λ W hb=>CDL.out t0 W (by omega) ht2 hb)
    rw[<-HE.out] at CD
    clear he HBL CDL
    go_enter Tryz.func101,Tryz.ntmps101
    go_wp2_with (first | (go_at_call 126;(with_reducible refine(CR.out _ HBA.out).mono ?_);rintro e w1 ⟨rfl,hb1⟩;obtain⟨k0,k1,k2⟩:=HBK.out _ hb1;have HB1:=hid hb1;clear hb1) | (go_at_call 127;(with_reducible refine(CFI.out _ (HBA.out.trans HB1.out)).mono ?_);rintro e w2 ⟨rfl,hb2⟩;have HB2:=hid (HB1.out.trans hb2);obtain⟨k3,k4,k5⟩:=HBK.out _ HB2.out;clear hb2) | (go_at_call 128;(with_reducible refine(CBZ.out _ (HBA.out.trans HB2.out)).mono ?_);rintro e w3 ⟨rfl,hb3⟩;have HB3:=hid (HB2.out.trans hb3);obtain⟨k6,k7,k8⟩:=HBK.out _ HB3.out;clear hb3) | (go_at_call 129;(with_reducible refine(CD.out _ (HBA.out.trans HB3.out)).mono ?_);rintro e w4 ⟨rfl,hb4⟩;have HB4:=hid (HB3.out.trans hb4);clear hb4))
    go_ret
    exact⟨rfl,HBA.out.trans HB4.out⟩
   ·have q2:(e0 != 0)=true:=by simp[he]
    rw[if_pos he] at HE
    rw[HE.out]
    clear he HBL CDL
    go_enter Tryz.func101,Tryz.ntmps101
    go_wp2_with (first | (go_at_call 126;(with_reducible refine(CR.out _ HBA.out).mono ?_);rintro e w1 ⟨rfl,hb1⟩;obtain⟨k0,k1,k2⟩:=HBK.out _ hb1;have HB1:=hid hb1;clear hb1) | (go_at_call 127;(with_reducible refine(CFI.out _ (HBA.out.trans HB1.out)).mono ?_);rintro e w2 ⟨rfl,hb2⟩;have HB2:=hid (HB1.out.trans hb2);obtain⟨k3,k4,k5⟩:=HBK.out _ HB2.out;clear hb2) | (go_at_call 128;(with_reducible refine(CBZ.out _ (HBA.out.trans HB2.out)).mono ?_);rintro e w3 ⟨rfl,hb3⟩;have HB3:=hid (HB2.out.trans hb3);clear hb3))
    go_ret
    exact⟨rfl,HBA.out.trans HB3.out⟩
end Go.Proofs.YtlecikdjoekknaaGreat.dem
end
