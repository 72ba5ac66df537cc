/- Part 6 of a proof: VaR VaRR. -/
import Derived.Deep.DeepCutAuto
import Derived.Test.YtikcigjbhohboaaGreatM05
section
namespace Go.Proofs.YtikcigjbhohboaaGreat.val
open Go.Lib (hid)
open Go.ChangeShapes Go.WideShapes Go.ChangeAt Go.RowKit Go.Deep
theorem dfind_whole {s:Sys} (h:vWhole s=false):(vFind s).1=true∧(vFind s).2.1 = -1∧(vFind s).2.2 = -1:=by
 have e:vFind s=(true, -1, -1):=by unfold vFind;rw[if_neg (by rw[h];simp)]
 rw[e];exact⟨rfl,rfl,rfl⟩
theorem dfind_some {s:Sys} (h:vWhole s=true) {i:Nat} {k:Int} (hs:vTasks s.rs 0 s.ts=some (i,k)):(vFind s).1=true∧(vFind s).2.1=(i:Int)∧(vFind s).2.2=k:=by
 have e:vFind s=(true,(i:Int),k):=by unfold vFind;rw[if_pos h,hs]
 rw[e];exact⟨rfl,rfl,rfl⟩
theorem dfind_none {s:Sys} (h:vWhole s=true) (hs:vTasks s.rs 0 s.ts=none):(vFind s).1=false∧(vFind s).2.1 = -1∧(vFind s).2.2 = -1:=by
 have e:vFind s=(false, -1, -1):=by unfold vFind;rw[if_pos h,hs]
 rw[e];exact⟨rfl,rfl,rfl⟩
theorem head_cases (t:Tsk) {m:Nat} (hm:t.secs.length=m) (h:vHead t=false):wi t.p 1 1099511627776=false∨(wi t.p 1 1099511627776=true∧wi t.d 1 t.p=false)∨(wi t.p 1 1099511627776=true∧wi t.d 1 t.p=true∧wi t.w 1 t.d=false)∨(wi t.p 1 1099511627776=true∧wi t.d 1 t.p=true∧wi t.w 1 t.d=true∧4<m):=by
 unfold vHead at h
 rw[hm] at h
 cases h1:wi t.p 1 1099511627776 <;> cases h2:wi t.d 1 t.p <;> cases h3:wi t.w 1 t.d <;> simp_all
theorem head_true (t:Tsk) {m:Nat} (hm:t.secs.length=m) (h:vHead t=true):wi t.p 1 1099511627776=true∧wi t.d 1 t.p=true∧wi t.w 1 t.d=true∧¬4<m:=by
 unfold vHead at h
 rw[hm] at h
 simp only[Bool.and_eq_true,decide_eq_true_eq] at h
 exact⟨h.1,h.2.1,h.2.2.1,by omega⟩
theorem sec_cases {rs w e x0 x1 x2:Int} (h:vSec rs w e (x0,x1,x2)=false):wi x0 e w=false∨(wi x0 e w=true∧wi x1 0 (rs-1)=false)∨(wi x0 e w=true∧wi x1 0 (rs-1)=true∧wi x2 1 (w-x0)=false):=by
 unfold vSec at h
 simp only at h
 cases h1:wi x0 e w <;> cases h2:wi x1 0 (rs-1) <;> cases h3:wi x2 1 (w-x0) <;> simp_all
theorem sec_true {rs w e x0 x1 x2:Int} (h:vSec rs w e (x0,x1,x2)=true):wi x0 e w=true∧wi x1 0 (rs-1)=true∧wi x2 1 (w-x0)=true:=by
 unfold vSec at h
 simp only[Bool.and_eq_true] at h
 exact h
set_option maxRecDepth 100000 in
set_option maxHeartbeats 4000000 in
theorem dcheck_any (s:Sys) (A:Option Addr) (n c:Nat) (w:World) (h:RSys w A n c s):Calls Tryz.prog 111 #[sysV s A n c] w fun e w'=>e=.returned (.tuple #[.bool (vFind s).1,.int .i64 (vFind s).2.1,.int .i64 (vFind s).2.2])∧But No w w':=by
 have HR:=hid h.ts
 have HN:=hid h.ts.len
 have hmx:=h.ts.max
 have CY:Hid (∀ W,Calls Tryz.prog 139 #[sysV s A n c] W fun e w'=>e=.returned (.bool (vWhole s))∧But No W w'):=fun W=>dwhole_any s A n c W HN.out
 have CW:Hid (∀ n a b w,Calls Tryz.prog 140 #[.int .i64 n,.int .i64 a,.int .i64 b] w fun e w'=>e=.returned (.bool (wi n a b))∧w'=w):=dwithin_any
 clear h
 cases hw:vWhole s with
 | false =>
  rw[hw] at CY
  have HE:=hid (dfind_whole hw)
  clear hw
  unfold sysV at CY ⊢
  go_enter Tryz.func111,Tryz.ntmps111
  go_wp2_with (go_at_call 139;(with_reducible refine(CY.out _).mono ?_);rintro e w1 ⟨rfl,hb1⟩;have HB1:=hid (((But.refl No w).alloc _).trans hb1);clear hb1)
  refine bodyPost_ret (v:=.tuple #[.bool true,.int .i64 (-1),.int .i64 (-1)]) (by simp[results,Tryz.results111,go_sem]) rfl ?_
  exact⟨by rw[HE.out.1,HE.out.2.1,HE.out.2.2],HB1.out⟩
 | true =>
  rw[hw] at CY
  obtain⟨_,⟨hr0,hr1⟩,hn1,hn2⟩:=whole_parts hw
  have HW:=hid hw
  rw[HN.out] at hn1 hn2
  clear hw
  unfold sysV at CY ⊢
  go_enter Tryz.func111,Tryz.ntmps111
  go_wp2_with (go_at_call 139;(with_reducible refine(CY.out _).mono ?_);rintro e w1 ⟨rfl,hb1⟩;have HB1:=hid (((But.refl No w).alloc _).trans hb1);have HS1:Hid (Blk w1 w.heap.size (boxS s A n c) 24):=(Blk.new w _ _).but hb1 (fun f=>f);clear hb1)
  generalize hb1:w.heap.size=b1 at HS1 ⊢
  clear hb1 CY
  go_loopw [5] (fun i wr=>∃ k:Nat,i=.int .i64 (k:Int)∧k≤n∧Hid (But No w wr∧Blk wr b1 (boxS s A n c) 24)∧Hid (∀ j t,j<k→s.ts[j]? = some t→vTsk s.rs t=true)) (fun i _=>n-(intOf i).toNat)
  case atStart=>exact⟨0,rfl,by omega,⟨HB1.out,HS1.out⟩,fun j _ hj=>absurd hj (by omega)⟩
  case round =>
   obtain⟨k,rfl,hk,HK1,HG⟩:=hrel
   clear HB1 HS1
   have d8:wr.cell? ⟨b1,8,none⟩=some (.slice A n c):=HK1.out.2.cell (o:=8) rfl
   by_cases hlt:k<n
   ·obtain⟨t,ht⟩:∃ t,s.ts[k]? = some t:=⟨_,List.getElem?_eq_getElem (by rw[HN.out];exact hlt)⟩
    obtain⟨b,off,A',c',rfl,c0,c1,c2,c3,hcc,hS⟩:=(HR.out.no HK1.out.1).at1 ht
    have HTK:=hid ht
    have HTF:=hid (HR.out.fit t (List.mem_of_getElem? ht))
    have HS:=hid hS
    have hm:=hS.max
    obtain⟨m,hm4⟩:∃ m,t.secs.length=m:=⟨_,rfl⟩
    have HM:=hid hm4
    rw[hm4] at c3 hcc hm HS
    clear hS ht hm4
    cases hh:vHead t with
    | false =>
     have HE:=hid (dfind_some HW.out (vTasks_head HG.out HTK.out hh))
     have hcs:=head_cases t HM.out hh
     clear hh
     obtain⟨tp,td,tw,tss⟩:=t
     simp only at c0 c1 c2 hcs
     rcases hcs with h1 | ⟨h1,h2⟩ | ⟨h1,h2,h3⟩ | ⟨h1,h2,h3,h4⟩
     all_goals go_wp2_with (go_at_call 140;(with_reducible refine(CW.out _ _ _ _).mono ?_);rintro e w9 ⟨rfl,rfl⟩)
     all_goals refine bodyPost_ret (v:=.tuple #[.bool true,.int .i64 (k:Int),.int .i64 (-1)]) (by simp[results,Tryz.results111,go_sem]) rfl ?_
     all_goals exact⟨by rw[HE.out.1,HE.out.2.1,HE.out.2.2],HK1.out.1.alloc _⟩
    | true =>
     have hp:=head_parts hh
     rw[HM.out] at hp
     obtain⟨⟨hp1,hp2⟩,⟨hd1,hd2⟩,⟨hw1,hw2⟩,hm4⟩:=hp
     have HH:=hid hh
     obtain⟨h1,h2,h3,h4⟩:=head_true t HM.out hh
     clear hh
     go_upto_region 9 with(go_at_call 140;(with_reducible refine(CW.out _ _ _ _).mono ?_);rintro e w9 ⟨rfl,rfl⟩)
     obtain⟨bt,hbt⟩:∃ bt,wr.heap.size=bt:=⟨_,rfl⟩
     obtain⟨w2,hw2',HK2,HXT,HS2⟩:∃ w2,wr.alloc (.cells #[.int .i64 t.p,.int .i64 t.d,.int .i64 t.w,.slice A' m c'] 97)=w2∧Hid (But No w w2∧Blk w2 b1 (boxS s (some ⟨b,off,none⟩) n c) 24)∧Hid (Blk w2 bt (boxT t A' m c') 97)∧Hid (RSec w2 A' m t.secs):=by
      subst hbt
      exact⟨_,rfl,⟨HK1.out.1.alloc _,HK1.out.2.alloc _⟩,Blk.new wr _ _,HS.out.no ((But.refl No wr).alloc _)⟩
     rw[hw2',hbt]
     clear hbt hw2' c0 c1 c2 c3 d8 HK1 HS h1 h2 h3
     go_wp2_with fail
     go_loopw [7,8] (fun u i wr=>∃ (q:Nat) (e0:Int),u=.int .i64 e0∧i=.int .i64 (q:Int)∧q≤m∧0≤e0∧e0≤t.w∧Hid (e0=vEnd q t.secs)∧Hid (But No w wr∧Blk wr b1 (boxS s (some ⟨b,off,none⟩) n c) 24)∧Hid (Blk wr bt (boxT t A' m c') 97)∧Hid (RSec wr A' m t.secs)∧Hid (∀ j y,j<q→t.secs[j]? = some y→vSec s.rs t.w (vEnd j t.secs) y=true)) (fun _ i _=>m-(intOf i).toNat)
     case atStart=>exact⟨0,0,rfl,rfl,by omega,by omega,by omega,rfl,HK2,HXT,HS2,fun j _ hj=>absurd hj (by omega)⟩
     case round =>
      obtain⟨q,e0,rfl,rfl,hq,he0,he1,HV,HKQ,HXQ,HSQ,HGQ⟩:=hrel
      clear HK2 HXT HS2
      have t3:wr.cell? ⟨bt,3,none⟩=some (.slice A' m c'):=HXQ.out.cell (o:=3) rfl
      by_cases hqm:q<m
      ·obtain⟨x,hx⟩:∃ x,t.secs[q]? = some x:=⟨_,List.getElem?_eq_getElem (by rw[HM.out];exact hqm)⟩
       obtain⟨bb,oo,rfl,e1,e2,e3⟩:=HSQ.out.at1 hx
       have hxf:=HSQ.out.fit x (List.mem_of_getElem? hx)
       obtain⟨x0,x1,x2⟩:=x
       simp only at e1 e2 e3 hxf
       unfold inR at hxf
       have d7:wr.cell? ⟨b1,7,none⟩=some (.int .i64 s.rs):=HKQ.out.2.cell (o:=7) rfl
       have t2:wr.cell? ⟨bt,2,none⟩=some (.int .i64 t.w):=HXQ.out.cell (o:=2) rfl
       have d7':(wr.alloc (.cells #[.int .i64 x0,.int .i64 x1,.int .i64 x2] 120)).cell? ⟨b1,7,none⟩=some (.int .i64 s.rs):=cell_keep d7 ((But.refl No wr).alloc _)
       have t2':(wr.alloc (.cells #[.int .i64 x0,.int .i64 x1,.int .i64 x2] 120)).cell? ⟨bt,2,none⟩=some (.int .i64 t.w):=cell_keep t2 ((But.refl No wr).alloc _)
       have HX:=hid hx
       clear hx
       cases hv:vSec s.rs t.w e0 (x0,x1,x2)with
       | false =>
        have HE:=hid (dfind_some HW.out (vTasks_sec HG.out HTK.out HH.out (vSecs_bad HGQ.out HX.out (by rw[←HV.out];exact hv))))
        have hcs:=sec_cases hv
        clear hv
        rcases hcs with h1 | ⟨h1,h2⟩ | ⟨h1,h2,h3⟩
        ·go_wp2_with (go_at_call 140;(with_reducible refine(CW.out _ _ _ _).mono ?_);rintro e w9 ⟨rfl,rfl⟩)
         refine bodyPost_ret (v:=.tuple #[.bool true,.int .i64 (k:Int),.int .i64 (q:Int)]) (by simp[results,Tryz.results111,go_sem]) rfl ?_
         exact⟨by rw[HE.out.1,HE.out.2.1,HE.out.2.2],HKQ.out.1.alloc _⟩
        all_goals have hb:=wi_true.1 h1
        all_goals go_wp2_with (go_at_call 140;(with_reducible refine(CW.out _ _ _ _).mono ?_);rintro e w9 ⟨rfl,rfl⟩)
        all_goals refine bodyPost_ret (v:=.tuple #[.bool true,.int .i64 (k:Int),.int .i64 (q:Int)]) (by simp[results,Tryz.results111,go_sem]) rfl ?_
        all_goals exact⟨by rw[HE.out.1,HE.out.2.1,HE.out.2.2],HKQ.out.1.alloc _⟩
       | true =>
        have hpp:=sec_parts hv
        have HVT:=hid hv
        obtain⟨h1,h2,h3⟩:=sec_true hv
        clear hv
        simp only at hpp
        obtain⟨p1,p2,p3,p4,p5⟩:=hpp
        clear hxf
        go_wp2_with (go_at_call 140;(with_reducible refine(CW.out _ _ _ _).mono ?_);rintro e w9 ⟨rfl,rfl⟩)
        go_roundw
        case rel =>
         refine⟨q+1,x0+x2,by go_num,by go_num,by omega,by omega,by omega,(vEnd_succ HX.out).symm,⟨HKQ.out.1.alloc _,HKQ.out.2.alloc _⟩,HXQ.out.alloc _,HSQ.out.no ((But.refl No wr).alloc _),fun j y hj hy=>?_⟩
         by_cases e:j=q
         ·subst e
          rw[HX.out] at hy
          cases hy
          rw[←HV.out];exact HVT.out
         ·exact HGQ.out j y (by omega) hy
        case measure=>simp[intOf];omega
      ·have HTT:Hid (vTsk s.rs t=true):=by
        show _=_
        unfold vTsk
        rw[HH.out,vSecs_good (fun j y hy=>HGQ.out j y (by have:=(List.getElem?_eq_some_iff.1 hy).1;rw[HM.out] at this;omega) hy)]
        rfl
       go_wp2
       go_roundw
       case rel =>
        refine⟨k+1,by go_num,by omega,HKQ,fun j t hj hjt=>?_⟩
        by_cases e:j=k
        ·subst e
         rw[HTK.out] at hjt
         cases hjt
         exact HTT.out
        ·exact HG.out j t (by omega) hjt
       case measure=>simp[intOf];omega
   ·have HE:=hid (dfind_none HW.out (vTasks_good (fun j t hj=>HG.out j t (by rw[HN.out] at hj;omega))))
    go_wp2
    refine bodyPost_ret (v:=.tuple #[.bool false,.int .i64 (-1),.int .i64 (-1)]) (by simp[results,Tryz.results111,go_sem]) rfl ?_
    exact⟨by rw[HE.out.1,HE.out.2.1,HE.out.2.2],HK1.out.1⟩
end Go.Proofs.YtikcigjbhohboaaGreat.val
end
section
namespace Go.Proofs.YtikcigjbhohboaaGreat.val
open Go.ChangeShapes Go.WideShapes Go.ChangeAt Go.RowKit Go.Deep
set_option maxRecDepth 100000 in
theorem dright_any (s:Sys) (A:Option Addr) (n c:Nat) (w:World) (h:RSys w A n c s):Calls Tryz.prog 91 #[sysV s A n c] w fun e w'=>e=.returned (.bool (right s))∧But No w w':=by
 have CC:Hid (∀ W,But No w W→Calls Tryz.prog 111 #[sysV s A n c] W fun e w'=>e=.returned (.tuple #[.bool (vFind s).1,.int .i64 (vFind s).2.1,.int .i64 (vFind s).2.2])∧But No W w'):=fun W hb=>dcheck_any s A n c W (h.no hb)
 clear h
 generalize (vFind s).2.1=f1,(vFind s).2.2=f2 at CC
 rw[right_find]
 cases hf:(vFind s).1 with
 | true =>
  rw[hf] at CC
  clear hf
  unfold sysV at CC ⊢
  go_enter Tryz.func91,Tryz.ntmps91
  go_wp2_with (go_at_call 111;refine(CC.out _ ((But.refl No w).alloc _)).mono ?_;rintro e w1 ⟨rfl,hb1⟩;have HB1:=Lib.hid (((But.refl No w).alloc _).trans hb1);clear hb1)
  go_ret
  exact⟨rfl,HB1.out⟩
 | false =>
  rw[hf] at CC
  clear hf
  unfold sysV at CC ⊢
  go_enter Tryz.func91,Tryz.ntmps91
  go_wp2_with (go_at_call 111;refine(CC.out _ ((But.refl No w).alloc _)).mono ?_;rintro e w1 ⟨rfl,hb1⟩;have HB1:=Lib.hid (((But.refl No w).alloc _).trans hb1);clear hb1)
  go_ret
  exact⟨rfl,HB1.out⟩
end Go.Proofs.YtikcigjbhohboaaGreat.val
end
