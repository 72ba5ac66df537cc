/- Part 18 of a proof: TeR1. -/
import Derived.Test.YtjfaiaipojfhgaaGreatC12
import Derived.Test.YtjfaiaipojfhgaaGreatC17
section
namespace Go.Proofs.YtjfaiaipojfhgaaGreat.ter
open Go.Lib (hid)
open Go.ChangeShapes Go.WideShapes Go.ChangeAt Go.RowKit Go.Deep ky2 val
set_option maxRecDepth 100000 in
set_option maxHeartbeats 4000000 in
theorem section_any (s:Sys) (A:Option Addr) (n c:Nat) (task sect:Int) (w:World) (h:RSys w A n c s):Calls Tryz.prog 93 #[sysV s A n c,.int .i64 task,.int .i64 sect] w fun e w'=>e=.returned (findV (sec? s task sect))∧But No w w':=by
 have HN:=h.ts.len
 have HR:=hid h.ts
 have CR:Hid (∀ W,But No w W→Calls Tryz.prog 34 #[sysV s A n c] W fun e w'=>e=.returned (.bool (right s))∧But No W w'):=fun W hb=>dright_any s A n c W (h.no hb)
 clear h
 rcases sec_cases s task sect with⟨k,t,j,x,rfl,h2,h3,h4,rfl,h5,h6⟩ | ⟨h6,h4⟩ | ⟨h6,k,t,rfl,h2,h3,h4,h5⟩
 ·have hk:=(List.getElem?_eq_some_iff.1 h2).1
  rw[HN] at hk
  have hk2:(k:Int)<(n:Int):=by omega
  have hk0:(0:Int)≤(k:Int):=Int.natCast_nonneg k
  have bk0:decide ((k:Int)<0)=false:=by simp
  have bk1:decide ((n:Int)≤(k:Int))=false:=by simp;omega
  have bk2:decide (n≤k)=false:=by simp;omega
  rw[h6]
  rw[h3] at CR
  obtain⟨b,off,A',c',rfl,_,_,_,c3,_,hS⟩:=HR.out.at1 h2
  have hj:=(List.getElem?_eq_some_iff.1 h5).1
  obtain⟨bb,oo,rfl,e0,e1,e2⟩:=hS.at1 h5
  obtain⟨x0,x1,x2⟩:=x
  simp only at e0 e1 e2
  generalize t.secs.length=m at c3 hj
  have hj2:(j:Int)<(m:Int):=by omega
  have hj0:(0:Int)≤(j:Int):=Int.natCast_nonneg j
  have b0:decide ((j:Int)<0)=false:=by simp
  have b1:decide ((m:Int)≤(j:Int))=false:=by simp;omega
  have b2:decide (m≤j)=false:=by simp;omega
  clear h2 h3 h4 h5 h6 hS HN
  unfold sysV at CR ⊢
  go_enter Tryz.func93,Tryz.ntmps93
  go_wp2_with (go_at_call 34;refine(CR.out _ (((But.refl No w).alloc _).alloc _)).mono ?_;rintro e w1 ⟨rfl,hb1⟩;have hB:=(((But.refl No w).alloc _).alloc _).trans hb1;have HB1:=hid hB;have q3:=cell_keep c3 hB;have r0:=cell_keep e0 hB;have r1:=cell_keep e1 hB;have r2:=cell_keep e2 hB;have hx:=(blk2 w (.cells (boxS s (some ⟨b,off,none⟩) n c) 24) #[.int .i64 0,.int .i64 0,.int .i64 0] 63).but hb1 (fun f=>f);have HX:=hid hx;have f0:=hx.frozen 0;have f1:=hx.frozen 1;have f2:=hx.frozen 2;have g0:=hx.cell (o:=0) rfl;have g1:=hx.cell (o:=1) rfl;have g2:=hx.cell (o:=2) rfl;have s8:w1.cell? ⟨w.heap.size,8,none⟩=some (.slice (some ⟨b,off,none⟩) n c):=(((Blk.new w (boxS s (some ⟨b,off,none⟩) n c) 24).alloc (.cells #[.int .i64 0,.int .i64 0,.int .i64 0] 63)).but hb1 (fun f=>f)).cell (o:=8) rfl;clear hx hb1 hB)
  obtain⟨w3,hw3,hb3,k0,k1,k2⟩:∃ w3,((w1.setCell ⟨w.heap.size+1,0,none⟩ (.int .i64 x0)).setCell ⟨w.heap.size+1,1,none⟩ (.int .i64 x1)).setCell ⟨w.heap.size+1,2,none⟩ (.int .i64 x2)=w3∧But No w w3∧w3.cell? ⟨w.heap.size+1,0,none⟩=some (.int .i64 x0)∧w3.cell? ⟨w.heap.size+1,1,none⟩=some (.int .i64 x1)∧w3.cell? ⟨w.heap.size+1,2,none⟩=some (.int .i64 x2):=by
   have hb:=store3 HX.out (.int .i64 x0) (.int .i64 x1) (.int .i64 x2)
   exact⟨_,rfl,((HB1.out.setNew (Nat.le_succ _) _).setNew (Nat.le_succ _) _).setNew (Nat.le_succ _) _,hb.cell rfl,hb.cell rfl,hb.cell rfl⟩
  rw[hw3]
  clear hw3
  refine bodyPost_ret (v:=findV (some (x0,x1,x2))) (by simp[results,Tryz.results93,go_sem,k0,k1,k2,findV]) rfl ?_
  exact⟨rfl,hb3⟩
 ·rw[h6]
  rcases tsk_cases s task with⟨_,_,_,_,_,h9⟩ | ⟨_,h9⟩
  ·rw[h4] at h9;cases h9
  ·cases hrt:right s with
   | false =>
    rw[hrt] at CR
    clear h4 h6 h9 hrt HN
    unfold sysV at CR ⊢
    go_enter Tryz.func93,Tryz.ntmps93
    go_wp2_with (go_at_call 34;refine(CR.out _ (((But.refl No w).alloc _).alloc _)).mono ?_;rintro e w1 ⟨rfl,hb1⟩;have hB:=(((But.refl No w).alloc _).alloc _).trans hb1;have HB1:=hid hB;have hx:=(blk2 w (.cells (boxS s A n c) 24) #[.int .i64 0,.int .i64 0,.int .i64 0] 63).but hb1 (fun f=>f);have HX:=hid hx;have f0:=hx.frozen 0;have f1:=hx.frozen 1;have f2:=hx.frozen 2;have g0:=hx.cell (o:=0) rfl;have g1:=hx.cell (o:=1) rfl;have g2:=hx.cell (o:=2) rfl;have s8:w1.cell? ⟨w.heap.size,8,none⟩=some (.slice A n c):=(((Blk.new w (boxS s A n c) 24).alloc (.cells #[.int .i64 0,.int .i64 0,.int .i64 0] 63)).but hb1 (fun f=>f)).cell (o:=8) rfl;clear hx hb1 hB)
    obtain⟨w3,hw3,hb3,k0,k1,k2⟩:∃ w3,((w1.setCell ⟨w.heap.size+1,0,none⟩ (.int .i64 0)).setCell ⟨w.heap.size+1,1,none⟩ (.int .i64 0)).setCell ⟨w.heap.size+1,2,none⟩ (.int .i64 0)=w3∧But No w w3∧w3.cell? ⟨w.heap.size+1,0,none⟩=some (.int .i64 0)∧w3.cell? ⟨w.heap.size+1,1,none⟩=some (.int .i64 0)∧w3.cell? ⟨w.heap.size+1,2,none⟩=some (.int .i64 0):=by
     have hb:=store3 HX.out (.int .i64 0) (.int .i64 0) (.int .i64 0)
     exact⟨_,rfl,((HB1.out.setNew (Nat.le_succ _) _).setNew (Nat.le_succ _) _).setNew (Nat.le_succ _) _,hb.cell rfl,hb.cell rfl,hb.cell rfl⟩
    rw[hw3]
    clear hw3
    refine bodyPost_ret (v:=findV (none)) (by simp[results,Tryz.results93,go_sem,k0,k1,k2,findV]) rfl ?_
    exact⟨rfl,hb3⟩
   | true =>
    rw[hrt] at CR
    by_cases h0:task<0
    ·have b0:decide (task<0)=true:=by simp[h0]
     clear h4 h6 h9 hrt HN
     unfold sysV at CR ⊢
     go_enter Tryz.func93,Tryz.ntmps93
     go_wp2_with (go_at_call 34;refine(CR.out _ (((But.refl No w).alloc _).alloc _)).mono ?_;rintro e w1 ⟨rfl,hb1⟩;have hB:=(((But.refl No w).alloc _).alloc _).trans hb1;have HB1:=hid hB;have hx:=(blk2 w (.cells (boxS s A n c) 24) #[.int .i64 0,.int .i64 0,.int .i64 0] 63).but hb1 (fun f=>f);have HX:=hid hx;have f0:=hx.frozen 0;have f1:=hx.frozen 1;have f2:=hx.frozen 2;have g0:=hx.cell (o:=0) rfl;have g1:=hx.cell (o:=1) rfl;have g2:=hx.cell (o:=2) rfl;have s8:w1.cell? ⟨w.heap.size,8,none⟩=some (.slice A n c):=(((Blk.new w (boxS s A n c) 24).alloc (.cells #[.int .i64 0,.int .i64 0,.int .i64 0] 63)).but hb1 (fun f=>f)).cell (o:=8) rfl;clear hx hb1 hB)
     obtain⟨w3,hw3,hb3,k0,k1,k2⟩:∃ w3,((w1.setCell ⟨w.heap.size+1,0,none⟩ (.int .i64 0)).setCell ⟨w.heap.size+1,1,none⟩ (.int .i64 0)).setCell ⟨w.heap.size+1,2,none⟩ (.int .i64 0)=w3∧But No w w3∧w3.cell? ⟨w.heap.size+1,0,none⟩=some (.int .i64 0)∧w3.cell? ⟨w.heap.size+1,1,none⟩=some (.int .i64 0)∧w3.cell? ⟨w.heap.size+1,2,none⟩=some (.int .i64 0):=by
      have hb:=store3 HX.out (.int .i64 0) (.int .i64 0) (.int .i64 0)
      exact⟨_,rfl,((HB1.out.setNew (Nat.le_succ _) _).setNew (Nat.le_succ _) _).setNew (Nat.le_succ _) _,hb.cell rfl,hb.cell rfl,hb.cell rfl⟩
     rw[hw3]
     clear hw3
     refine bodyPost_ret (v:=findV (none)) (by simp[results,Tryz.results93,go_sem,k0,k1,k2,findV]) rfl ?_
     exact⟨rfl,hb3⟩
    ·have b0:decide (task<0)=false:=by simp;omega
     have b1:decide ((n:Int)≤task)=true:=by
      rcases h9 with h | h | h
      ·omega
      ·simp;omega
      ·rw[hrt] at h;cases h
     clear h4 h6 h9 hrt HN
     unfold sysV at CR ⊢
     go_enter Tryz.func93,Tryz.ntmps93
     go_wp2_with (go_at_call 34;refine(CR.out _ (((But.refl No w).alloc _).alloc _)).mono ?_;rintro e w1 ⟨rfl,hb1⟩;have hB:=(((But.refl No w).alloc _).alloc _).trans hb1;have HB1:=hid hB;have hx:=(blk2 w (.cells (boxS s A n c) 24) #[.int .i64 0,.int .i64 0,.int .i64 0] 63).but hb1 (fun f=>f);have HX:=hid hx;have f0:=hx.frozen 0;have f1:=hx.frozen 1;have f2:=hx.frozen 2;have g0:=hx.cell (o:=0) rfl;have g1:=hx.cell (o:=1) rfl;have g2:=hx.cell (o:=2) rfl;have s8:w1.cell? ⟨w.heap.size,8,none⟩=some (.slice A n c):=(((Blk.new w (boxS s A n c) 24).alloc (.cells #[.int .i64 0,.int .i64 0,.int .i64 0] 63)).but hb1 (fun f=>f)).cell (o:=8) rfl;clear hx hb1 hB)
     obtain⟨w3,hw3,hb3,k0,k1,k2⟩:∃ w3,((w1.setCell ⟨w.heap.size+1,0,none⟩ (.int .i64 0)).setCell ⟨w.heap.size+1,1,none⟩ (.int .i64 0)).setCell ⟨w.heap.size+1,2,none⟩ (.int .i64 0)=w3∧But No w w3∧w3.cell? ⟨w.heap.size+1,0,none⟩=some (.int .i64 0)∧w3.cell? ⟨w.heap.size+1,1,none⟩=some (.int .i64 0)∧w3.cell? ⟨w.heap.size+1,2,none⟩=some (.int .i64 0):=by
      have hb:=store3 HX.out (.int .i64 0) (.int .i64 0) (.int .i64 0)
      exact⟨_,rfl,((HB1.out.setNew (Nat.le_succ _) _).setNew (Nat.le_succ _) _).setNew (Nat.le_succ _) _,hb.cell rfl,hb.cell rfl,hb.cell rfl⟩
     rw[hw3]
     clear hw3
     refine bodyPost_ret (v:=findV (none)) (by simp[results,Tryz.results93,go_sem,k0,k1,k2,findV]) rfl ?_
     exact⟨rfl,hb3⟩
 ·have hk:=(List.getElem?_eq_some_iff.1 h2).1
  rw[HN] at hk
  have hk2:(k:Int)<(n:Int):=by omega
  have hk0:(0:Int)≤(k:Int):=Int.natCast_nonneg k
  have bk0:decide ((k:Int)<0)=false:=by simp
  have bk1:decide ((n:Int)≤(k:Int))=false:=by simp;omega
  have bk2:decide (n≤k)=false:=by simp;omega
  rw[h6]
  rw[h3] at CR
  obtain⟨b,off,A',c',rfl,_,_,_,c3,_,hS⟩:=HR.out.at1 h2
  have HM:=hid hS.len
  generalize t.secs.length=m at c3 h5
  by_cases h0:sect<0
  ·have b0:decide (sect<0)=true:=by simp[h0]
   clear h2 h3 h4 h5 h6 hS HN
   unfold sysV at CR ⊢
   go_enter Tryz.func93,Tryz.ntmps93
   go_wp2_with (go_at_call 34;refine(CR.out _ (((But.refl No w).alloc _).alloc _)).mono ?_;rintro e w1 ⟨rfl,hb1⟩;have hB:=(((But.refl No w).alloc _).alloc _).trans hb1;have HB1:=hid hB;have q3:=cell_keep c3 hB;have hx:=(blk2 w (.cells (boxS s (some ⟨b,off,none⟩) n c) 24) #[.int .i64 0,.int .i64 0,.int .i64 0] 63).but hb1 (fun f=>f);have HX:=hid hx;have f0:=hx.frozen 0;have f1:=hx.frozen 1;have f2:=hx.frozen 2;have g0:=hx.cell (o:=0) rfl;have g1:=hx.cell (o:=1) rfl;have g2:=hx.cell (o:=2) rfl;have s8:w1.cell? ⟨w.heap.size,8,none⟩=some (.slice (some ⟨b,off,none⟩) n c):=(((Blk.new w (boxS s (some ⟨b,off,none⟩) n c) 24).alloc (.cells #[.int .i64 0,.int .i64 0,.int .i64 0] 63)).but hb1 (fun f=>f)).cell (o:=8) rfl;clear hx hb1 hB)
   obtain⟨w3,hw3,hb3,k0,k1,k2⟩:∃ w3,((w1.setCell ⟨w.heap.size+1,0,none⟩ (.int .i64 0)).setCell ⟨w.heap.size+1,1,none⟩ (.int .i64 0)).setCell ⟨w.heap.size+1,2,none⟩ (.int .i64 0)=w3∧But No w w3∧w3.cell? ⟨w.heap.size+1,0,none⟩=some (.int .i64 0)∧w3.cell? ⟨w.heap.size+1,1,none⟩=some (.int .i64 0)∧w3.cell? ⟨w.heap.size+1,2,none⟩=some (.int .i64 0):=by
    have hb:=store3 HX.out (.int .i64 0) (.int .i64 0) (.int .i64 0)
    exact⟨_,rfl,((HB1.out.setNew (Nat.le_succ _) _).setNew (Nat.le_succ _) _).setNew (Nat.le_succ _) _,hb.cell rfl,hb.cell rfl,hb.cell rfl⟩
   rw[hw3]
   clear hw3
   refine bodyPost_ret (v:=findV (none)) (by simp[results,Tryz.results93,go_sem,k0,k1,k2,findV]) rfl ?_
   exact⟨rfl,hb3⟩
  ·have b0:decide (sect<0)=false:=by simp;omega
   have b1:decide ((m:Int)≤sect)=true:=by simp;omega
   clear h2 h3 h4 h5 h6 hS HN
   unfold sysV at CR ⊢
   go_enter Tryz.func93,Tryz.ntmps93
   go_wp2_with (go_at_call 34;refine(CR.out _ (((But.refl No w).alloc _).alloc _)).mono ?_;rintro e w1 ⟨rfl,hb1⟩;have hB:=(((But.refl No w).alloc _).alloc _).trans hb1;have HB1:=hid hB;have q3:=cell_keep c3 hB;have hx:=(blk2 w (.cells (boxS s (some ⟨b,off,none⟩) n c) 24) #[.int .i64 0,.int .i64 0,.int .i64 0] 63).but hb1 (fun f=>f);have HX:=hid hx;have f0:=hx.frozen 0;have f1:=hx.frozen 1;have f2:=hx.frozen 2;have g0:=hx.cell (o:=0) rfl;have g1:=hx.cell (o:=1) rfl;have g2:=hx.cell (o:=2) rfl;have s8:w1.cell? ⟨w.heap.size,8,none⟩=some (.slice (some ⟨b,off,none⟩) n c):=(((Blk.new w (boxS s (some ⟨b,off,none⟩) n c) 24).alloc (.cells #[.int .i64 0,.int .i64 0,.int .i64 0] 63)).but hb1 (fun f=>f)).cell (o:=8) rfl;clear hx hb1 hB)
   obtain⟨w3,hw3,hb3,k0,k1,k2⟩:∃ w3,((w1.setCell ⟨w.heap.size+1,0,none⟩ (.int .i64 0)).setCell ⟨w.heap.size+1,1,none⟩ (.int .i64 0)).setCell ⟨w.heap.size+1,2,none⟩ (.int .i64 0)=w3∧But No w w3∧w3.cell? ⟨w.heap.size+1,0,none⟩=some (.int .i64 0)∧w3.cell? ⟨w.heap.size+1,1,none⟩=some (.int .i64 0)∧w3.cell? ⟨w.heap.size+1,2,none⟩=some (.int .i64 0):=by
    have hb:=store3 HX.out (.int .i64 0) (.int .i64 0) (.int .i64 0)
    exact⟨_,rfl,((HB1.out.setNew (Nat.le_succ _) _).setNew (Nat.le_succ _) _).setNew (Nat.le_succ _) _,hb.cell rfl,hb.cell rfl,hb.cell rfl⟩
   rw[hw3]
   clear hw3
   refine bodyPost_ret (v:=findV (none)) (by simp[results,Tryz.results93,go_sem,k0,k1,k2,findV]) rfl ?_
   exact⟨rfl,hb3⟩
end Go.Proofs.YtjfaiaipojfhgaaGreat.ter
end
