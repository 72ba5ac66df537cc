/- Part 16 of a proof: TeC4 TeC5. -/
import Derived.Test.YtjfaiaipojfhgaaGreatC15
section
namespace Go.Proofs.YtjfaiaipojfhgaaGreat.ter
open Go.Lib (hid)
open Go.ChangeShapes Go.WideShapes Go.ChangeAt Go.RowKit Go.Deep ky2 val
theorem tsk_cases (s:Sys) (task:Int):(∃ (k:Nat) (t:Tsk),task=(k:Int)∧s.ts[k]? = some t∧right s=true∧tsk? s task=some t)∨(tsk? s task=none∧(task<0∨(s.ts.length:Int)≤task∨right s=false)):=by
 unfold tsk?
 by_cases h:right s=true∧0≤task
 ·rw[if_pos h]
  by_cases hl:task.toNat<s.ts.length
  ·exact .inl ⟨task.toNat,s.ts[task.toNat],by omega,List.getElem?_eq_getElem hl,h.1,List.getElem?_eq_getElem hl⟩
  ·exact .inr ⟨List.getElem?_eq_none (by omega),by omega⟩
 ·rw[if_neg h]
  refine .inr ⟨rfl,?_⟩
  cases hr:right s with
  | true=>rw[hr] at h;have:¬0≤task:=fun h'=>h ⟨rfl,h'⟩;omega
  | false=>simp
theorem sec_cases (s:Sys) (task sect:Int):(∃ (k:Nat) (t:Tsk) (j:Nat) (x:Sec),task=(k:Int)∧s.ts[k]? = some t∧right s=true∧tsk? s task=some t∧sect=(j:Int)∧t.secs[j]? = some x∧sec? s task sect=some x) ∨
  (sec? s task sect=none∧tsk? s task=none)∨(sec? s task sect=none∧∃ (k:Nat) (t:Tsk),task=(k:Int)∧s.ts[k]? = some t∧right s=true∧tsk? s task=some t∧(sect<0∨(t.secs.length:Int)≤sect)):=by
 unfold sec?
 rcases tsk_cases s task with⟨k,t,h1,h2,h3,h4⟩ | ⟨h4,_⟩
 ·rw[h4]
  simp only[Option.bind_some]
  by_cases h:0≤sect
  ·rw[if_pos h]
   by_cases hl:sect.toNat<t.secs.length
   ·exact .inl ⟨k,t,sect.toNat,t.secs[sect.toNat],h1,h2,h3,rfl,by omega,List.getElem?_eq_getElem hl,List.getElem?_eq_getElem hl⟩
   ·exact .inr (.inr ⟨List.getElem?_eq_none (by omega),k,t,h1,h2,h3,rfl,by omega⟩)
  ·rw[if_neg h]
   exact .inr (.inr ⟨rfl,k,t,h1,h2,h3,rfl,by omega⟩)
 ·rw[h4]
  exact .inr (.inl ⟨rfl,rfl⟩)
def findV (o:Option Sec):Value:=match o with | some x=>.tuple #[secV x,.bool true] | none=>.tuple #[secV (0,0,0),.bool false]
set_option maxRecDepth 100000 in
set_option maxHeartbeats 2000000 in
theorem hasTask_any (s:Sys) (A:Option Addr) (n c:Nat) (task:Int) (w:World) (h:RSys w A n c s):Calls Tryz.prog 40 #[sysV s A n c,.int .i64 task] w fun e w'=>e=.returned (.bool (tsk? s task).isSome)∧But No w w':=by
 have HN:=h.ts.len
 have CR:Hid (∀ W,But No w W→Calls Tryz.prog 44 #[sysV s A n c] W fun e w'=>e=.returned (.bool (right s))∧But No W w'):=fun W hb=>right_any s A n c W (h.no hb)
 clear h
 rcases tsk_cases s task with⟨k,t,rfl,h2,h3,h4⟩ | ⟨h4,h5⟩
 ·have hk:=(List.getElem?_eq_some_iff.1 h2).1
  rw[HN] at hk
  have hk2:(k:Int)<(n:Int):=by omega
  have hk0:(0:Int)≤(k:Int):=Int.natCast_nonneg k
  rw[h3] at CR
  rw[h4]
  clear h2 h3 h4 HN
  unfold sysV at CR ⊢
  go_enter Tryz.func40,Tryz.ntmps40
  go_wp2_with (go_at_call 44;refine(CR.out _ ((But.refl No w).alloc _)).mono ?_;rintro e w1 ⟨rfl,hb1⟩;have HB1:=hid (((But.refl No w).alloc _).trans hb1);clear hb1)
  go_ret
  exact⟨rfl,HB1.out⟩
 ·rw[h4,show (none:Option Tsk).isSome=false from rfl]
  clear h4
  by_cases h0:task<0
  ·have b0:decide ((0:Int)≤task)=false:=by simp;omega
   clear h5
   unfold sysV at CR ⊢
   go_enter Tryz.func40,Tryz.ntmps40
   go_wp2
   go_ret
   exact⟨rfl,(But.refl No w).alloc _⟩
  ·have b0:decide ((0:Int)≤task)=true:=by simp;omega
   by_cases h1:(n:Int)≤task
   ·have b1:decide (task<(n:Int))=false:=by simp;omega
    clear h5
    unfold sysV at CR ⊢
    go_enter Tryz.func40,Tryz.ntmps40
    go_wp2
    go_ret
    exact⟨rfl,(But.refl No w).alloc _⟩
   ·have b1:decide (task<(n:Int))=true:=by simp;omega
    have h3:right s=false:=by
     rw[HN] at h5
     rcases h5 with h | h | h
     ·omega
     ·omega
     ·exact h
    rw[h3] at CR
    clear h3 h5
    unfold sysV at CR ⊢
    go_enter Tryz.func40,Tryz.ntmps40
    go_wp2_with (go_at_call 44;refine(CR.out _ ((But.refl No w).alloc _)).mono ?_;rintro e w1 ⟨rfl,hb1⟩;have HB1:=hid (((But.refl No w).alloc _).trans hb1);clear hb1)
    go_ret
    exact⟨rfl,HB1.out⟩
theorem tskN (s:Sys) (task:Int) (h:tsk? s task=none):(tsk? s task).isSome=false:=by rw[h];rfl
set_option maxRecDepth 100000 in
set_option maxHeartbeats 2000000 in
theorem find_any (s:Sys) (A:Option Addr) (n c:Nat) (task sect:Int) (w:World) (h:RSys w A n c s):Calls Tryz.prog 126 #[sysV s A n c,.int .i64 task,.int .i64 sect] w fun e w'=>e=.returned (findV (sec? s task sect))∧But No w w':=by
 have HN:=h.ts.len
 have HR:=hid h.ts
 have CH:Hid (∀ W,But No w W→Calls Tryz.prog 40 #[sysV s A n c,.int .i64 task] W fun e w'=>e=.returned (.bool (tsk? s task).isSome)∧But No W w'):=fun W hb=>hasTask_any s A n c task W (h.no hb)
 clear h
 rcases sec_cases s task sect with⟨k,t,j,x,rfl,h2,h3,h4,rfl,h5,h6⟩ | ⟨h6,h4⟩ | ⟨h6,k,t,rfl,h2,h3,h4,h5⟩
 ·have hk:=(List.getElem?_eq_some_iff.1 h2).1
  rw[HN] at hk
  have hk2:(k:Int)<(n:Int):=by omega
  have hk0:(0:Int)≤(k:Int):=Int.natCast_nonneg k
  rw[h6]
  rw[h4,show (some t).isSome=true from rfl] at CH
  obtain⟨b,off,A',c',rfl,_,_,_,c3,_,hS⟩:=HR.out.at1 h2
  have hj:=(List.getElem?_eq_some_iff.1 h5).1
  obtain⟨bb,oo,rfl,e0,e1,e2⟩:=hS.at1 h5
  obtain⟨x0,x1,x2⟩:=x
  simp only at e0 e1 e2
  generalize t.secs.length=m at c3 hj
  have hj2:(j:Int)<(m:Int):=by omega
  have hj0:(0:Int)≤(j:Int):=Int.natCast_nonneg j
  have b1:decide ((m:Int)≤(j:Int))=false:=by simp;omega
  have b2:decide (m≤j)=false:=by simp;omega
  clear h2 h3 h4 h5 h6 hS HN
  unfold sysV at CH ⊢
  go_enter Tryz.func126,Tryz.ntmps126
  go_wp2_with (go_at_call 40;refine(CH.out _ (((But.refl No w).alloc _).alloc _)).mono ?_;rintro e w1 ⟨rfl,hb1⟩;have hB:=(((But.refl No w).alloc _).alloc _).trans hb1;have HB1:=hid hB;have q3:=cell_keep c3 hB;have r0:=cell_keep e0 hB;have r1:=cell_keep e1 hB;have r2:=cell_keep e2 hB;have hx:=(blk2 w (.cells (boxS s (some ⟨b,off,none⟩) n c) 24) #[.int .i64 0,.int .i64 0,.int .i64 0] 63).but hb1 (fun f=>f);have HX:=hid hx;have f0:=hx.frozen 0;have f1:=hx.frozen 1;have f2:=hx.frozen 2;have g0:=hx.cell (o:=0) rfl;have g1:=hx.cell (o:=1) rfl;have g2:=hx.cell (o:=2) rfl;have s8:w1.cell? ⟨w.heap.size,8,none⟩=some (.slice (some ⟨b,off,none⟩) n c):=(((Blk.new w (boxS s (some ⟨b,off,none⟩) n c) 24).alloc (.cells #[.int .i64 0,.int .i64 0,.int .i64 0] 63)).but hb1 (fun f=>f)).cell (o:=8) rfl;clear hx hb1 hB)
  obtain⟨w3,hw3,hb3,k0,k1,k2⟩:∃ w3,((w1.setCell ⟨w.heap.size+1,0,none⟩ (.int .i64 x0)).setCell ⟨w.heap.size+1,1,none⟩ (.int .i64 x1)).setCell ⟨w.heap.size+1,2,none⟩ (.int .i64 x2)=w3∧But No w w3∧w3.cell? ⟨w.heap.size+1,0,none⟩=some (.int .i64 x0)∧w3.cell? ⟨w.heap.size+1,1,none⟩=some (.int .i64 x1)∧w3.cell? ⟨w.heap.size+1,2,none⟩=some (.int .i64 x2):=by
   have hb:=store3 HX.out (.int .i64 x0) (.int .i64 x1) (.int .i64 x2)
   exact⟨_,rfl,((HB1.out.setNew (Nat.le_succ _) _).setNew (Nat.le_succ _) _).setNew (Nat.le_succ _) _,hb.cell rfl,hb.cell rfl,hb.cell rfl⟩
  rw[hw3]
  clear hw3
  refine bodyPost_ret (v:=findV (some (x0,x1,x2))) (by simp[results,Tryz.results126,go_sem,k0,k1,k2,findV]) rfl ?_
  exact⟨rfl,hb3⟩
 ·rw[h6]
  rw[tskN s task h4] at CH
  clear h4 h6 HN
  unfold sysV at CH ⊢
  go_enter Tryz.func126,Tryz.ntmps126
  go_wp2_with (go_at_call 40;refine(CH.out _ (((But.refl No w).alloc _).alloc _)).mono ?_;rintro e w1 ⟨rfl,hb1⟩;have hB:=(((But.refl No w).alloc _).alloc _).trans hb1;have HB1:=hid hB;have hx:=(blk2 w (.cells (boxS s A n c) 24) #[.int .i64 0,.int .i64 0,.int .i64 0] 63).but hb1 (fun f=>f);have HX:=hid hx;have f0:=hx.frozen 0;have f1:=hx.frozen 1;have f2:=hx.frozen 2;have g0:=hx.cell (o:=0) rfl;have g1:=hx.cell (o:=1) rfl;have g2:=hx.cell (o:=2) rfl;have s8:w1.cell? ⟨w.heap.size,8,none⟩=some (.slice A n c):=(((Blk.new w (boxS s A n c) 24).alloc (.cells #[.int .i64 0,.int .i64 0,.int .i64 0] 63)).but hb1 (fun f=>f)).cell (o:=8) rfl;clear hx hb1 hB)
  obtain⟨w3,hw3,hb3,k0,k1,k2⟩:∃ w3,((w1.setCell ⟨w.heap.size+1,0,none⟩ (.int .i64 0)).setCell ⟨w.heap.size+1,1,none⟩ (.int .i64 0)).setCell ⟨w.heap.size+1,2,none⟩ (.int .i64 0)=w3∧But No w w3∧w3.cell? ⟨w.heap.size+1,0,none⟩=some (.int .i64 0)∧w3.cell? ⟨w.heap.size+1,1,none⟩=some (.int .i64 0)∧w3.cell? ⟨w.heap.size+1,2,none⟩=some (.int .i64 0):=by
   have hb:=store3 HX.out (.int .i64 0) (.int .i64 0) (.int .i64 0)
   exact⟨_,rfl,((HB1.out.setNew (Nat.le_succ _) _).setNew (Nat.le_succ _) _).setNew (Nat.le_succ _) _,hb.cell rfl,hb.cell rfl,hb.cell rfl⟩
  rw[hw3]
  clear hw3
  refine bodyPost_ret (v:=findV (none)) (by simp[results,Tryz.results126,go_sem,k0,k1,k2,findV]) rfl ?_
  exact⟨rfl,hb3⟩
 ·have hk:=(List.getElem?_eq_some_iff.1 h2).1
  rw[HN] at hk
  have hk2:(k:Int)<(n:Int):=by omega
  have hk0:(0:Int)≤(k:Int):=Int.natCast_nonneg k
  rw[h6]
  rw[h4,show (some t).isSome=true from rfl] at CH
  obtain⟨b,off,A',c',rfl,_,_,_,c3,_,hS⟩:=HR.out.at1 h2
  have HM:=hid hS.len
  generalize t.secs.length=m at c3 h5
  by_cases h0:sect<0
  ·have b0:decide (sect<0)=true:=by simp[h0]
   clear h2 h3 h4 h5 h6 hS HN
   unfold sysV at CH ⊢
   go_enter Tryz.func126,Tryz.ntmps126
   go_wp2_with (go_at_call 40;refine(CH.out _ (((But.refl No w).alloc _).alloc _)).mono ?_;rintro e w1 ⟨rfl,hb1⟩;have hB:=(((But.refl No w).alloc _).alloc _).trans hb1;have HB1:=hid hB;have q3:=cell_keep c3 hB;have hx:=(blk2 w (.cells (boxS s (some ⟨b,off,none⟩) n c) 24) #[.int .i64 0,.int .i64 0,.int .i64 0] 63).but hb1 (fun f=>f);have HX:=hid hx;have f0:=hx.frozen 0;have f1:=hx.frozen 1;have f2:=hx.frozen 2;have g0:=hx.cell (o:=0) rfl;have g1:=hx.cell (o:=1) rfl;have g2:=hx.cell (o:=2) rfl;have s8:w1.cell? ⟨w.heap.size,8,none⟩=some (.slice (some ⟨b,off,none⟩) n c):=(((Blk.new w (boxS s (some ⟨b,off,none⟩) n c) 24).alloc (.cells #[.int .i64 0,.int .i64 0,.int .i64 0] 63)).but hb1 (fun f=>f)).cell (o:=8) rfl;clear hx hb1 hB)
   obtain⟨w3,hw3,hb3,k0,k1,k2⟩:∃ w3,((w1.setCell ⟨w.heap.size+1,0,none⟩ (.int .i64 0)).setCell ⟨w.heap.size+1,1,none⟩ (.int .i64 0)).setCell ⟨w.heap.size+1,2,none⟩ (.int .i64 0)=w3∧But No w w3∧w3.cell? ⟨w.heap.size+1,0,none⟩=some (.int .i64 0)∧w3.cell? ⟨w.heap.size+1,1,none⟩=some (.int .i64 0)∧w3.cell? ⟨w.heap.size+1,2,none⟩=some (.int .i64 0):=by
    have hb:=store3 HX.out (.int .i64 0) (.int .i64 0) (.int .i64 0)
    exact⟨_,rfl,((HB1.out.setNew (Nat.le_succ _) _).setNew (Nat.le_succ _) _).setNew (Nat.le_succ _) _,hb.cell rfl,hb.cell rfl,hb.cell rfl⟩
   rw[hw3]
   clear hw3
   refine bodyPost_ret (v:=findV (none)) (by simp[results,Tryz.results126,go_sem,k0,k1,k2,findV]) rfl ?_
   exact⟨rfl,hb3⟩
  ·have b0:decide (sect<0)=false:=by simp;omega
   have b1:decide ((m:Int)≤sect)=true:=by simp;omega
   clear h2 h3 h4 h5 h6 hS HN
   unfold sysV at CH ⊢
   go_enter Tryz.func126,Tryz.ntmps126
   go_wp2_with (go_at_call 40;refine(CH.out _ (((But.refl No w).alloc _).alloc _)).mono ?_;rintro e w1 ⟨rfl,hb1⟩;have hB:=(((But.refl No w).alloc _).alloc _).trans hb1;have HB1:=hid hB;have q3:=cell_keep c3 hB;have hx:=(blk2 w (.cells (boxS s (some ⟨b,off,none⟩) n c) 24) #[.int .i64 0,.int .i64 0,.int .i64 0] 63).but hb1 (fun f=>f);have HX:=hid hx;have f0:=hx.frozen 0;have f1:=hx.frozen 1;have f2:=hx.frozen 2;have g0:=hx.cell (o:=0) rfl;have g1:=hx.cell (o:=1) rfl;have g2:=hx.cell (o:=2) rfl;have s8:w1.cell? ⟨w.heap.size,8,none⟩=some (.slice (some ⟨b,off,none⟩) n c):=(((Blk.new w (boxS s (some ⟨b,off,none⟩) n c) 24).alloc (.cells #[.int .i64 0,.int .i64 0,.int .i64 0] 63)).but hb1 (fun f=>f)).cell (o:=8) rfl;clear hx hb1 hB)
   obtain⟨w3,hw3,hb3,k0,k1,k2⟩:∃ w3,((w1.setCell ⟨w.heap.size+1,0,none⟩ (.int .i64 0)).setCell ⟨w.heap.size+1,1,none⟩ (.int .i64 0)).setCell ⟨w.heap.size+1,2,none⟩ (.int .i64 0)=w3∧But No w w3∧w3.cell? ⟨w.heap.size+1,0,none⟩=some (.int .i64 0)∧w3.cell? ⟨w.heap.size+1,1,none⟩=some (.int .i64 0)∧w3.cell? ⟨w.heap.size+1,2,none⟩=some (.int .i64 0):=by
    have hb:=store3 HX.out (.int .i64 0) (.int .i64 0) (.int .i64 0)
    exact⟨_,rfl,((HB1.out.setNew (Nat.le_succ _) _).setNew (Nat.le_succ _) _).setNew (Nat.le_succ _) _,hb.cell rfl,hb.cell rfl,hb.cell rfl⟩
   rw[hw3]
   clear hw3
   refine bodyPost_ret (v:=findV (none)) (by simp[results,Tryz.results126,go_sem,k0,k1,k2,findV]) rfl ?_
   exact⟨rfl,hb3⟩
theorem tskS (s:Sys) (task:Int) {t:Tsk} (h:tsk? s task=some t):(tsk? s task).isSome=true:=by rw[h];rfl
end Go.Proofs.YtjfaiaipojfhgaaGreat.ter
end
section
namespace Go.Proofs.YtjfaiaipojfhgaaGreat.ter
open Go.Lib (hid)
open Go.ChangeShapes Go.WideShapes Go.ChangeAt Go.RowKit Go.Deep ky2 val
theorem wait_some {s:Sys} {wh:List Int} {task k:Int} {x:Sec} (h:sec? s task k=some x):waitV s wh task k=smV s wh task.toNat x.2.1:=by unfold waitV;rw[h]
theorem wait_none {s:Sys} {wh:List Int} {task k:Int} (h:sec? s task k=none):waitV s wh task k=0:=by unfold waitV;rw[h]
set_option maxRecDepth 100000 in
set_option maxHeartbeats 2000000 in
theorem waits_any (s:Sys) (A:Option Addr) (n c:Nat) (B:Option Addr) (m d:Nat) (wh:List Int) (task sect:Int) (w:World) (h:RSys w A n c s) (hz:Rd w B m wh) :
  Calls Tryz.prog 127 #[sysV s A n c,.slice B m d,.int .i64 task,.int .i64 sect] w fun e w'=>e=.returned (.int .i64 (waitV s wh task sect))∧But No w w':=by
 have CF:Hid (∀ W,But No w W→Calls Tryz.prog 126 #[sysV s A n c,.int .i64 task,.int .i64 sect] W fun e w'=>e=.returned (findV (sec? s task sect))∧But No W w'):=fun W hb=>find_any s A n c task sect W (h.no hb)
 cases hx:sec? s task sect with
 | none =>
  have HV:=hid (wait_none (wh:=wh) hx)
  rw[hx,show findV none=.tuple #[.agg #[.int .i64 0,.int .i64 0,.int .i64 0],.bool false] from rfl] at CF
  clear h hz hx
  unfold sysV at CF ⊢
  go_enter Tryz.func127,Tryz.ntmps127
  go_wp2_with (go_at_call 126;refine(CF.out _ ((But.refl No w).alloc _)).mono ?_;rintro e w1 ⟨rfl,hb1⟩;have HB1:=hid (((But.refl No w).alloc _).trans hb1);clear hb1)
  go_ret
  exact⟨ret1 HV.out.symm,HB1.out.alloc _⟩
 | some x =>
  have HV:=hid (wait_some (wh:=wh) hx)
  obtain⟨k,t,hk,h2,hrt,hj⟩:∃ (k:Nat) (t:Tsk),task=(k:Int)∧s.ts[k]? = some t∧right s=true∧∃ j:Nat,t.secs[j]? = some x:=by
   rcases sec_cases s task sect with⟨k,t,j,y,h1,h2,h3,_,_,h5,h6⟩ | ⟨h6,_⟩ | ⟨h6,_⟩
   ·rw[hx] at h6;cases h6;exact⟨k,t,h1,h2,h3,j,h5⟩
   ·rw[hx] at h6;cases h6
   ·rw[hx] at h6;cases h6
  subst hk
  rw[Int.toNat_natCast] at HV
  have hin:inR x.2.1:=by
   obtain⟨j,hj⟩:=hj
   obtain⟨_,_,_,_,_,_,_,_,_,_,hS⟩:=h.ts.at1 h2
   exact(hS.fit x (List.mem_of_getElem? hj)).2.1
  have hln:=right_len hrt
  obtain⟨x0,x1,x2⟩:=x
  have CL:Hid (∀ W,But No w W→Calls Tryz.prog 41 #[sysV s A n c,.slice B m d] W fun e w'=>∃ mb,e=.returned (.map (some mb))∧But No W w'∧W.heap.size≤mb∧∃ D,OM w' mb 96 D∧LIs D (F s wh)):=fun W hb=>longestOf_any s A n c B m d wh W (h.no hb) (hz.no hb) hrt
  have CC:Hid (∀ W,But No w W→Calls Tryz.prog 42 #[sysV s A n c,.slice B m d,.int .i64 k] W fun e w'=>e=.returned (.int .i64 (cr s.co wh k))∧But No W w'):=fun W hb=>coreOf_any s A n c B m d wh k W (hz.no hb)
  have CW:Hid (∀ (D:DataW Unit) (mb:Nat) (own:Int) (W:World),OM W mb 96 D→LIs D (F s wh)→Calls Tryz.prog 43 #[.map (some mb),.int .i64 s.co,.int .i64 own,.int .i64 x1] W fun e w'=>e=.returned (.int .i64 (sm (F s wh) own x1 s.co.toNat))∧w'=W):=fun D mb own W hO hI=>wait_any (F s wh) D mb 96 s.co own x1 W hO hI (fun c r=>mxF_le hrt wh c r) (by omega) (by omega) hin
  rw[hx,show findV (some (x0,x1,x2))=.tuple #[.agg #[.int .i64 x0,.int .i64 x1,.int .i64 x2],.bool true] from rfl] at CF
  clear h hz hx h2 hrt hj hin hln
  unfold smV at HV
  generalize cr s.co wh k=cc at CC HV
  unfold sysV at CF CL CC ⊢
  go_enter Tryz.func127,Tryz.ntmps127
  go_wp2_with (go_at_call 126;refine(CF.out _ ((But.refl No w).alloc _)).mono ?_;rintro e w1 ⟨rfl,hb1⟩;have HB1:=hid (((But.refl No w).alloc _).trans hb1);have HSY:=hid ((Blk.new w (boxS s A n c) 24).but hb1 (fun f=>f));clear hb1)
  have hb3:But No w (w1.alloc (.cells #[.int .i64 x0,.int .i64 x1,.int .i64 x2] 63)):=HB1.out.alloc _
  have hsy:=HSY.out.alloc (.cells #[.int .i64 x0,.int .i64 x1,.int .i64 x2] 63)
  have hxs:=Blk.new w1 #[.int .i64 x0,.int .i64 x1,.int .i64 x2] 63
  generalize w1.alloc (.cells #[.int .i64 x0,.int .i64 x1,.int .i64 x2] 63)=w3 at hb3 hsy hxs ⊢
  generalize w.heap.size=b1 at HSY hsy ⊢
  generalize w1.heap.size=bc at hxs ⊢
  have HB3:=hid hb3
  have KEEP:Hid (∀ w',But No w3 w'→(w'.cell? ⟨b1,0,none⟩=some (.int .i64 s.co)∧w'.cell? ⟨b1,1,none⟩=some (.int .i64 s.po)∧w'.cell? ⟨b1,2,none⟩=some (.int .i64 s.pr)∧w'.cell? ⟨b1,3,none⟩=some (.int .i64 s.re)∧w'.cell? ⟨b1,4,none⟩=some (.int .i64 s.sw)∧w'.cell? ⟨b1,5,none⟩=some (.int .i64 s.fi)∧w'.cell? ⟨b1,6,none⟩=some (.int .i64 s.la)∧w'.cell? ⟨b1,7,none⟩=some (.int .i64 s.rs)∧w'.cell? ⟨b1,8,none⟩=some (.slice A n c)∧w'.cell? ⟨bc,1,none⟩=some (.int .i64 x1))∧But No w3 w'):=hid (fun w' hb=>by
   obtain⟨d0,d1,d2,d3,d4,d5,d6,d7,d8⟩:=sys_cells (hsy.but hb (fun f=>f))
   exact⟨⟨d0,d1,d2,d3,d4,d5,d6,d7,d8,(hxs.but (S:=No) hb (fun f=>f)).cell (o:=1) rfl⟩,hb⟩)
  clear hb3 hsy hxs HSY HB1 CF
  have CL3:Hid (∀ w',But No w3 w'→Calls Tryz.prog 41 #[.agg #[.int .i64 s.co,.int .i64 s.po,.int .i64 s.pr,.int .i64 s.re,.int .i64 s.sw,.int .i64 s.fi,.int .i64 s.la,.int .i64 s.rs,.slice A n c],.slice B m d] w' fun e w''=>∃ mb,e=.returned (.map (some mb))∧But No w3 w''∧∃ D,OM w'' mb 96 D∧LIs D (F s wh)):=hid (fun w' hb=>(CL.out w' (HB3.out.trans hb)).mono (fun e w'' ⟨mb,h1,h2,_,h4⟩=>⟨mb,h1,hb.trans h2,h4⟩))
  have CC3:Hid (∀ w',But No w3 w'→Calls Tryz.prog 42 #[.agg #[.int .i64 s.co,.int .i64 s.po,.int .i64 s.pr,.int .i64 s.re,.int .i64 s.sw,.int .i64 s.fi,.int .i64 s.la,.int .i64 s.rs,.slice A n c],.slice B m d,.int .i64 k] w' fun e w''=>e=.returned (.int .i64 cc)∧But No w3 w''∧But No w' w''):=hid (fun w' hb=>(CC.out w' (HB3.out.trans hb)).mono (fun e w'' ⟨h1,h2⟩=>⟨h1,hb.trans h2,h2⟩))
  clear CL CC
  go_region_held3 (fun w'=>(w'.cell? ⟨b1,0,none⟩=some (.int .i64 s.co)∧w'.cell? ⟨b1,1,none⟩=some (.int .i64 s.po)∧w'.cell? ⟨b1,2,none⟩=some (.int .i64 s.pr)∧w'.cell? ⟨b1,3,none⟩=some (.int .i64 s.re)∧w'.cell? ⟨b1,4,none⟩=some (.int .i64 s.sw)∧w'.cell? ⟨b1,5,none⟩=some (.int .i64 s.fi)∧w'.cell? ⟨b1,6,none⟩=some (.int .i64 s.la)∧w'.cell? ⟨b1,7,none⟩=some (.int .i64 s.rs)∧w'.cell? ⟨b1,8,none⟩=some (.slice A n c)∧w'.cell? ⟨bc,1,none⟩=some (.int .i64 x1))∧But No w3 w')
   (first | exact KEEP.out _ (But.refl No w3).drew | exact KEEP.out _ hgA | exact KEEP.out _ hgB)
   (first | (go_at_call 41;((with_reducible refine(CL3.out _ (But.refl No w3).drew).mono ?_);rintro e wA ⟨mb,rfl,hgA,D,hO,hI⟩;have HOA:=hid hO;have HIA:=hid hI;clear hO hI)) | (go_at_call 42;((with_reducible refine(CC3.out _ hgA).mono ?_);rintro e wB ⟨rfl,hgB,hgAB⟩;have HOB:=hid (OM.no HOA.out hgAB);clear hgAB)) | (go_at_call 43;((with_reducible refine(CW.out D mb cc _ HOB.out HIA.out).mono ?_);rintro e wC ⟨rfl,rfl⟩)))
  rename_i hHeld
  clear hHeld
  have HE:=hid (HB3.out.trans hgB)
  clear hgA hgB
  go_wp2
  go_ret
  exact⟨ret1 HV.out.symm,HE.out⟩
theorem hold_some {s:Sys} {wh:List Int} {task k:Int} {x:Sec} (h:sec? s task k=some x):holdV s wh task k=waitV s wh task k+x.2.2:=by unfold holdV waitV;rw[h]
theorem hold_none {s:Sys} {wh:List Int} {task k:Int} (h:sec? s task k=none):holdV s wh task k=0:=by unfold holdV;rw[h]
theorem wait_le (s:Sys) (wh:List Int) (task k:Int):0≤waitV s wh task k∧waitV s wh task k≤8796093022216:=by
 rcases sec_cases s task k with⟨_,_,_,_,_,_,h3,_,_,_,h6⟩ | ⟨h6,_⟩ | ⟨h6,_⟩
 ·rw[wait_some h6];exact smV_le h3 wh _ _
 ·rw[wait_none h6];omega
 ·rw[wait_none h6];omega
theorem sec_some {s:Sys} {task k:Int} {x:Sec} (h:sec? s task k=some x):right s=true∧1≤x.2.2∧x.2.2≤1099511627776:=by
 rcases sec_cases s task k with⟨i,t,j,y,_,h2,h3,_,_,h5,h6⟩ | ⟨h6,_⟩ | ⟨h6,_⟩
 ·rw[h] at h6;cases h6
  exact⟨h3,(right_sec h3 (List.mem_of_getElem? h2) (List.mem_of_getElem? h5)).2⟩
 ·rw[h] at h6;cases h6
 ·rw[h] at h6;cases h6
set_option maxRecDepth 100000 in
set_option maxHeartbeats 2000000 in
theorem hold_any (s:Sys) (A:Option Addr) (n c:Nat) (B:Option Addr) (m d:Nat) (wh:List Int) (task sect:Int) (w:World) (h:RSys w A n c s) (hz:Rd w B m wh) :
  Calls Tryz.prog 100 #[sysV s A n c,.slice B m d,.int .i64 task,.int .i64 sect] w fun e w'=>e=.returned (.int .i64 (holdV s wh task sect))∧But No w w':=by
 have CF:Hid (∀ W,But No w W→Calls Tryz.prog 126 #[sysV s A n c,.int .i64 task,.int .i64 sect] W fun e w'=>e=.returned (findV (sec? s task sect))∧But No W w'):=fun W hb=>find_any s A n c task sect W (h.no hb)
 cases hx:sec? s task sect with
 | none =>
  have HV:=hid (hold_none (wh:=wh) hx)
  rw[hx,show findV none=.tuple #[.agg #[.int .i64 0,.int .i64 0,.int .i64 0],.bool false] from rfl] at CF
  clear h hz hx
  unfold sysV at CF ⊢
  go_enter Tryz.func100,Tryz.ntmps100
  go_wp2_with (go_at_call 126;refine(CF.out _ ((But.refl No w).alloc _)).mono ?_;rintro e w1 ⟨rfl,hb1⟩;have HB1:=hid (((But.refl No w).alloc _).trans hb1);clear hb1)
  go_ret
  exact⟨ret1 HV.out.symm,HB1.out.alloc _⟩
 | some x =>
  have HV:=hid (hold_some (wh:=wh) hx)
  have hl:=(sec_some hx).2
  have hv:=wait_le s wh task sect
  obtain⟨x0,x1,x2⟩:=x
  have CW:Hid (∀ W,But No w W→Calls Tryz.prog 127 #[sysV s A n c,.slice B m d,.int .i64 task,.int .i64 sect] W fun e w'=>e=.returned (.int .i64 (waitV s wh task sect))∧But No W w'):=fun W hb=>waits_any s A n c B m d wh task sect W (h.no hb) (hz.no hb)
  rw[hx,show findV (some (x0,x1,x2))=.tuple #[.agg #[.int .i64 x0,.int .i64 x1,.int .i64 x2],.bool true] from rfl] at CF
  clear h hz hx
  generalize waitV s wh task sect=V at CW HV hv
  simp only at HV hl
  have hw1:IntKind.i64.wrap (V+x2)=V+x2:=IntWalk.i64_in (V+x2) (by omega)
  unfold sysV at CF CW ⊢
  go_enter Tryz.func100,Tryz.ntmps100
  go_wp2_with (go_at_call 126;refine(CF.out _ ((But.refl No w).alloc _)).mono ?_;rintro e w1 ⟨rfl,hb1⟩;have HB1:=hid (((But.refl No w).alloc _).trans hb1);have HSY:=hid ((Blk.new w (boxS s A n c) 24).but hb1 (fun f=>f));clear hb1)
  have hb3:But No w (w1.alloc (.cells #[.int .i64 x0,.int .i64 x1,.int .i64 x2] 63)):=HB1.out.alloc _
  have hsy:=HSY.out.alloc (.cells #[.int .i64 x0,.int .i64 x1,.int .i64 x2] 63)
  have hxs:=Blk.new w1 #[.int .i64 x0,.int .i64 x1,.int .i64 x2] 63
  generalize w1.alloc (.cells #[.int .i64 x0,.int .i64 x1,.int .i64 x2] 63)=w3 at hb3 hsy hxs ⊢
  generalize w.heap.size=b1 at HSY hsy ⊢
  generalize w1.heap.size=bc at hxs ⊢
  have HB3:=hid hb3
  have KEEP:Hid (∀ w',But No w3 w'→(w'.cell? ⟨b1,0,none⟩=some (.int .i64 s.co)∧w'.cell? ⟨b1,1,none⟩=some (.int .i64 s.po)∧w'.cell? ⟨b1,2,none⟩=some (.int .i64 s.pr)∧w'.cell? ⟨b1,3,none⟩=some (.int .i64 s.re)∧w'.cell? ⟨b1,4,none⟩=some (.int .i64 s.sw)∧w'.cell? ⟨b1,5,none⟩=some (.int .i64 s.fi)∧w'.cell? ⟨b1,6,none⟩=some (.int .i64 s.la)∧w'.cell? ⟨b1,7,none⟩=some (.int .i64 s.rs)∧w'.cell? ⟨b1,8,none⟩=some (.slice A n c)∧w'.cell? ⟨bc,2,none⟩=some (.int .i64 x2))∧But No w3 w'):=hid (fun w' hb=>by
   obtain⟨d0,d1,d2,d3,d4,d5,d6,d7,d8⟩:=sys_cells (hsy.but hb (fun f=>f))
   exact⟨⟨d0,d1,d2,d3,d4,d5,d6,d7,d8,(hxs.but (S:=No) hb (fun f=>f)).cell (o:=2) rfl⟩,hb⟩)
  clear hb3 hsy hxs HSY HB1 CF
  have CW3:Hid (∀ w',But No w3 w'→Calls Tryz.prog 127 #[.agg #[.int .i64 s.co,.int .i64 s.po,.int .i64 s.pr,.int .i64 s.re,.int .i64 s.sw,.int .i64 s.fi,.int .i64 s.la,.int .i64 s.rs,.slice A n c],.slice B m d,.int .i64 task,.int .i64 sect] w' fun e w''=>e=.returned (.int .i64 V)∧But No w3 w''):=hid (fun w' hb=>(CW.out w' (HB3.out.trans hb)).mono (fun e w'' ⟨h1,h2⟩=>⟨h1,hb.trans h2⟩))
  clear CW
  go_region_held3 (fun w'=>(w'.cell? ⟨b1,0,none⟩=some (.int .i64 s.co)∧w'.cell? ⟨b1,1,none⟩=some (.int .i64 s.po)∧w'.cell? ⟨b1,2,none⟩=some (.int .i64 s.pr)∧w'.cell? ⟨b1,3,none⟩=some (.int .i64 s.re)∧w'.cell? ⟨b1,4,none⟩=some (.int .i64 s.sw)∧w'.cell? ⟨b1,5,none⟩=some (.int .i64 s.fi)∧w'.cell? ⟨b1,6,none⟩=some (.int .i64 s.la)∧w'.cell? ⟨b1,7,none⟩=some (.int .i64 s.rs)∧w'.cell? ⟨b1,8,none⟩=some (.slice A n c)∧w'.cell? ⟨bc,2,none⟩=some (.int .i64 x2))∧But No w3 w')
   (first | exact KEEP.out _ (But.refl No w3).drew | exact KEEP.out _ hgA)
   (first | (go_at_call 127;((with_reducible refine(CW3.out _ (But.refl No w3).drew).mono ?_);rintro e wA ⟨rfl,hgA⟩)))
  rename_i hHeld
  clear hHeld
  have HE:=hid (HB3.out.trans hgA)
  clear hgA
  go_wp2
  go_ret
  exact⟨ret1 HV.out.symm,HE.out⟩
end Go.Proofs.YtjfaiaipojfhgaaGreat.ter
end
