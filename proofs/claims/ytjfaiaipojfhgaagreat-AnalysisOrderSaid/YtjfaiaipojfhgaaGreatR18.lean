/- Part 18 of a proof: TeR1 TeR2 TeR3. -/
import Derived.Test.YtjfaiaipojfhgaaGreatR10
import Derived.Test.YtjfaiaipojfhgaaGreatR17
section
namespace Go.Proofs.YtjfaiaipojfhgaaGreat.ter
open Go.Lib (hid)
open Go.ChangeShapes Go.WideShapes Go.ChangeAt Go.RowKit Go.Deep ky2 val
def dcr (wh:List Int) (i:Nat):Int:=if i<wh.length then wh.getD i 0 else -1
theorem dcr_is {co:Int} {wh:List Int} {i:Nat} {k:Int} (h0:0≤k) (h1:k<co):dcr wh i=k ↔ cr co wh i=k:=by
 unfold dcr cr
 by_cases h:i<wh.length
 ·rw[if_pos h]
  by_cases h':0≤wh.getD i 0∧wh.getD i 0<co
  ·rw[if_pos ⟨h,h'⟩]
  ·rw[if_neg (fun h9=>h' h9.2)]
   constructor
   ·intro e;omega
   ·intro e;omega
 ·rw[if_neg h,if_neg (fun h9=>h h9.1)]
set_option maxRecDepth 100000 in
theorem dcore_any (B:Option Addr) (m d:Nat) (wh:List Int) (i:Nat) (w:World) (hz:Rd w B m wh):Calls Tryz.prog 95 #[.slice B m d,.int .i64 i] w fun e w'=>e=.returned (.int .i64 (dcr wh i))∧w'=w:=by
 have hl:=hz.len
 have hi0:(0:Int)≤(i:Int):=Int.natCast_nonneg i
 have b0:decide ((i:Int)<0)=false:=by simp
 by_cases h:i<m
 ·obtain⟨b,off,rfl,_,hc⟩:=hz.at1 h
  have him:(i:Int)<(m:Int):=by omega
  have b1:decide ((m:Int)≤(i:Int))=false:=by simp;omega
  have b2:decide (m≤i)=false:=by simp;omega
  have HV:Hid (dcr wh i=wh.getD i 0):=hid (by unfold dcr;rw[if_pos (by omega)])
  generalize wh.getD i 0=z at hc HV
  clear hz hl
  go_enter Tryz.func95,Tryz.ntmps95
  go_wp2
  go_ret
  exact⟨ret1 HV.out.symm,rfl⟩
 ·have b1:decide ((m:Int)≤(i:Int))=true:=by simp;omega
  have b2:decide (m≤i)=true:=by simp;omega
  have HV:Hid (dcr wh i = -1):=hid (by unfold dcr;rw[if_neg (by omega)])
  clear hz hl
  go_enter Tryz.func95,Tryz.ntmps95
  go_wp2
  go_ret
  exact⟨ret1 HV.out.symm,rfl⟩
set_option maxRecDepth 100000 in
set_option maxHeartbeats 4000000 in
theorem section_any (s:Sys) (A:Option Addr) (n c:Nat) (task sect:Int) (w:World) (h:RSys w A n c s):Calls Tryz.prog 93 #[sysV s A n c,.int .i64 task,.int .i64 sect] w fun e w'=>e=.returned (findV (sec? s task sect))∧But No w w':=by
 have HN:=h.ts.len
 have HR:=hid h.ts
 have CR:Hid (∀ W,But No w W→Calls Tryz.prog 34 #[sysV s A n c] W fun e w'=>e=.returned (.bool (right s))∧But No W w'):=fun W hb=>dright_any s A n c W (h.no hb)
 clear h
 rcases sec_cases s task sect with⟨k,t,j,x,rfl,h2,h3,h4,rfl,h5,h6⟩ | ⟨h6,h4⟩ | ⟨h6,k,t,rfl,h2,h3,h4,h5⟩
 ·have hk:=(List.getElem?_eq_some_iff.1 h2).1
  rw[HN] at hk
  have hk2:(k:Int)<(n:Int):=by omega
  have hk0:(0:Int)≤(k:Int):=Int.natCast_nonneg k
  have bk0:decide ((k:Int)<0)=false:=by simp
  have bk1:decide ((n:Int)≤(k:Int))=false:=by simp;omega
  have bk2:decide (n≤k)=false:=by simp;omega
  rw[h6]
  rw[h3] at CR
  obtain⟨b,off,A',c',rfl,_,_,_,c3,_,hS⟩:=HR.out.at1 h2
  have hj:=(List.getElem?_eq_some_iff.1 h5).1
  obtain⟨bb,oo,rfl,e0,e1,e2⟩:=hS.at1 h5
  obtain⟨x0,x1,x2⟩:=x
  simp only at e0 e1 e2
  generalize t.secs.length=m at c3 hj
  have hj2:(j:Int)<(m:Int):=by omega
  have hj0:(0:Int)≤(j:Int):=Int.natCast_nonneg j
  have b0:decide ((j:Int)<0)=false:=by simp
  have b1:decide ((m:Int)≤(j:Int))=false:=by simp;omega
  have b2:decide (m≤j)=false:=by simp;omega
  clear h2 h3 h4 h5 h6 hS HN
  unfold sysV at CR ⊢
  go_enter Tryz.func93,Tryz.ntmps93
  go_wp2_with (go_at_call 34;refine(CR.out _ (((But.refl No w).alloc _).alloc _)).mono ?_;rintro e w1 ⟨rfl,hb1⟩;have hB:=(((But.refl No w).alloc _).alloc _).trans hb1;have HB1:=hid hB;have q3:=cell_keep c3 hB;have r0:=cell_keep e0 hB;have r1:=cell_keep e1 hB;have r2:=cell_keep e2 hB;have hx:=(blk2 w (.cells (boxS s (some ⟨b,off,none⟩) n c) 24) #[.int .i64 0,.int .i64 0,.int .i64 0] 63).but hb1 (fun f=>f);have HX:=hid hx;have f0:=hx.frozen 0;have f1:=hx.frozen 1;have f2:=hx.frozen 2;have g0:=hx.cell (o:=0) rfl;have g1:=hx.cell (o:=1) rfl;have g2:=hx.cell (o:=2) rfl;have s8:w1.cell? ⟨w.heap.size,8,none⟩=some (.slice (some ⟨b,off,none⟩) n c):=(((Blk.new w (boxS s (some ⟨b,off,none⟩) n c) 24).alloc (.cells #[.int .i64 0,.int .i64 0,.int .i64 0] 63)).but hb1 (fun f=>f)).cell (o:=8) rfl;clear hx hb1 hB)
  obtain⟨w3,hw3,hb3,k0,k1,k2⟩:∃ w3,((w1.setCell ⟨w.heap.size+1,0,none⟩ (.int .i64 x0)).setCell ⟨w.heap.size+1,1,none⟩ (.int .i64 x1)).setCell ⟨w.heap.size+1,2,none⟩ (.int .i64 x2)=w3∧But No w w3∧w3.cell? ⟨w.heap.size+1,0,none⟩=some (.int .i64 x0)∧w3.cell? ⟨w.heap.size+1,1,none⟩=some (.int .i64 x1)∧w3.cell? ⟨w.heap.size+1,2,none⟩=some (.int .i64 x2):=by
   have hb:=store3 HX.out (.int .i64 x0) (.int .i64 x1) (.int .i64 x2)
   exact⟨_,rfl,((HB1.out.setNew (Nat.le_succ _) _).setNew (Nat.le_succ _) _).setNew (Nat.le_succ _) _,hb.cell rfl,hb.cell rfl,hb.cell rfl⟩
  rw[hw3]
  clear hw3
  refine bodyPost_ret (v:=findV (some (x0,x1,x2))) (by simp[results,Tryz.results93,go_sem,k0,k1,k2,findV]) rfl ?_
  exact⟨rfl,hb3⟩
 ·rw[h6]
  rcases tsk_cases s task with⟨_,_,_,_,_,h9⟩ | ⟨_,h9⟩
  ·rw[h4] at h9;cases h9
  ·cases hrt:right s with
   | false =>
    rw[hrt] at CR
    clear h4 h6 h9 hrt HN
    unfold sysV at CR ⊢
    go_enter Tryz.func93,Tryz.ntmps93
    go_wp2_with (go_at_call 34;refine(CR.out _ (((But.refl No w).alloc _).alloc _)).mono ?_;rintro e w1 ⟨rfl,hb1⟩;have hB:=(((But.refl No w).alloc _).alloc _).trans hb1;have HB1:=hid hB;have hx:=(blk2 w (.cells (boxS s A n c) 24) #[.int .i64 0,.int .i64 0,.int .i64 0] 63).but hb1 (fun f=>f);have HX:=hid hx;have f0:=hx.frozen 0;have f1:=hx.frozen 1;have f2:=hx.frozen 2;have g0:=hx.cell (o:=0) rfl;have g1:=hx.cell (o:=1) rfl;have g2:=hx.cell (o:=2) rfl;have s8:w1.cell? ⟨w.heap.size,8,none⟩=some (.slice A n c):=(((Blk.new w (boxS s A n c) 24).alloc (.cells #[.int .i64 0,.int .i64 0,.int .i64 0] 63)).but hb1 (fun f=>f)).cell (o:=8) rfl;clear hx hb1 hB)
    obtain⟨w3,hw3,hb3,k0,k1,k2⟩:∃ w3,((w1.setCell ⟨w.heap.size+1,0,none⟩ (.int .i64 0)).setCell ⟨w.heap.size+1,1,none⟩ (.int .i64 0)).setCell ⟨w.heap.size+1,2,none⟩ (.int .i64 0)=w3∧But No w w3∧w3.cell? ⟨w.heap.size+1,0,none⟩=some (.int .i64 0)∧w3.cell? ⟨w.heap.size+1,1,none⟩=some (.int .i64 0)∧w3.cell? ⟨w.heap.size+1,2,none⟩=some (.int .i64 0):=by
     have hb:=store3 HX.out (.int .i64 0) (.int .i64 0) (.int .i64 0)
     exact⟨_,rfl,((HB1.out.setNew (Nat.le_succ _) _).setNew (Nat.le_succ _) _).setNew (Nat.le_succ _) _,hb.cell rfl,hb.cell rfl,hb.cell rfl⟩
    rw[hw3]
    clear hw3
    refine bodyPost_ret (v:=findV (none)) (by simp[results,Tryz.results93,go_sem,k0,k1,k2,findV]) rfl ?_
    exact⟨rfl,hb3⟩
   | true =>
    rw[hrt] at CR
    by_cases h0:task<0
    ·have b0:decide (task<0)=true:=by simp[h0]
     clear h4 h6 h9 hrt HN
     unfold sysV at CR ⊢
     go_enter Tryz.func93,Tryz.ntmps93
     go_wp2_with (go_at_call 34;refine(CR.out _ (((But.refl No w).alloc _).alloc _)).mono ?_;rintro e w1 ⟨rfl,hb1⟩;have hB:=(((But.refl No w).alloc _).alloc _).trans hb1;have HB1:=hid hB;have hx:=(blk2 w (.cells (boxS s A n c) 24) #[.int .i64 0,.int .i64 0,.int .i64 0] 63).but hb1 (fun f=>f);have HX:=hid hx;have f0:=hx.frozen 0;have f1:=hx.frozen 1;have f2:=hx.frozen 2;have g0:=hx.cell (o:=0) rfl;have g1:=hx.cell (o:=1) rfl;have g2:=hx.cell (o:=2) rfl;have s8:w1.cell? ⟨w.heap.size,8,none⟩=some (.slice A n c):=(((Blk.new w (boxS s A n c) 24).alloc (.cells #[.int .i64 0,.int .i64 0,.int .i64 0] 63)).but hb1 (fun f=>f)).cell (o:=8) rfl;clear hx hb1 hB)
     obtain⟨w3,hw3,hb3,k0,k1,k2⟩:∃ w3,((w1.setCell ⟨w.heap.size+1,0,none⟩ (.int .i64 0)).setCell ⟨w.heap.size+1,1,none⟩ (.int .i64 0)).setCell ⟨w.heap.size+1,2,none⟩ (.int .i64 0)=w3∧But No w w3∧w3.cell? ⟨w.heap.size+1,0,none⟩=some (.int .i64 0)∧w3.cell? ⟨w.heap.size+1,1,none⟩=some (.int .i64 0)∧w3.cell? ⟨w.heap.size+1,2,none⟩=some (.int .i64 0):=by
      have hb:=store3 HX.out (.int .i64 0) (.int .i64 0) (.int .i64 0)
      exact⟨_,rfl,((HB1.out.setNew (Nat.le_succ _) _).setNew (Nat.le_succ _) _).setNew (Nat.le_succ _) _,hb.cell rfl,hb.cell rfl,hb.cell rfl⟩
     rw[hw3]
     clear hw3
     refine bodyPost_ret (v:=findV (none)) (by simp[results,Tryz.results93,go_sem,k0,k1,k2,findV]) rfl ?_
     exact⟨rfl,hb3⟩
    ·have b0:decide (task<0)=false:=by simp;omega
     have b1:decide ((n:Int)≤task)=true:=by
      rcases h9 with h | h | h
      ·omega
      ·simp;omega
      ·rw[hrt] at h;cases h
     clear h4 h6 h9 hrt HN
     unfold sysV at CR ⊢
     go_enter Tryz.func93,Tryz.ntmps93
     go_wp2_with (go_at_call 34;refine(CR.out _ (((But.refl No w).alloc _).alloc _)).mono ?_;rintro e w1 ⟨rfl,hb1⟩;have hB:=(((But.refl No w).alloc _).alloc _).trans hb1;have HB1:=hid hB;have hx:=(blk2 w (.cells (boxS s A n c) 24) #[.int .i64 0,.int .i64 0,.int .i64 0] 63).but hb1 (fun f=>f);have HX:=hid hx;have f0:=hx.frozen 0;have f1:=hx.frozen 1;have f2:=hx.frozen 2;have g0:=hx.cell (o:=0) rfl;have g1:=hx.cell (o:=1) rfl;have g2:=hx.cell (o:=2) rfl;have s8:w1.cell? ⟨w.heap.size,8,none⟩=some (.slice A n c):=(((Blk.new w (boxS s A n c) 24).alloc (.cells #[.int .i64 0,.int .i64 0,.int .i64 0] 63)).but hb1 (fun f=>f)).cell (o:=8) rfl;clear hx hb1 hB)
     obtain⟨w3,hw3,hb3,k0,k1,k2⟩:∃ w3,((w1.setCell ⟨w.heap.size+1,0,none⟩ (.int .i64 0)).setCell ⟨w.heap.size+1,1,none⟩ (.int .i64 0)).setCell ⟨w.heap.size+1,2,none⟩ (.int .i64 0)=w3∧But No w w3∧w3.cell? ⟨w.heap.size+1,0,none⟩=some (.int .i64 0)∧w3.cell? ⟨w.heap.size+1,1,none⟩=some (.int .i64 0)∧w3.cell? ⟨w.heap.size+1,2,none⟩=some (.int .i64 0):=by
      have hb:=store3 HX.out (.int .i64 0) (.int .i64 0) (.int .i64 0)
      exact⟨_,rfl,((HB1.out.setNew (Nat.le_succ _) _).setNew (Nat.le_succ _) _).setNew (Nat.le_succ _) _,hb.cell rfl,hb.cell rfl,hb.cell rfl⟩
     rw[hw3]
     clear hw3
     refine bodyPost_ret (v:=findV (none)) (by simp[results,Tryz.results93,go_sem,k0,k1,k2,findV]) rfl ?_
     exact⟨rfl,hb3⟩
 ·have hk:=(List.getElem?_eq_some_iff.1 h2).1
  rw[HN] at hk
  have hk2:(k:Int)<(n:Int):=by omega
  have hk0:(0:Int)≤(k:Int):=Int.natCast_nonneg k
  have bk0:decide ((k:Int)<0)=false:=by simp
  have bk1:decide ((n:Int)≤(k:Int))=false:=by simp;omega
  have bk2:decide (n≤k)=false:=by simp;omega
  rw[h6]
  rw[h3] at CR
  obtain⟨b,off,A',c',rfl,_,_,_,c3,_,hS⟩:=HR.out.at1 h2
  have HM:=hid hS.len
  generalize t.secs.length=m at c3 h5
  by_cases h0:sect<0
  ·have b0:decide (sect<0)=true:=by simp[h0]
   clear h2 h3 h4 h5 h6 hS HN
   unfold sysV at CR ⊢
   go_enter Tryz.func93,Tryz.ntmps93
   go_wp2_with (go_at_call 34;refine(CR.out _ (((But.refl No w).alloc _).alloc _)).mono ?_;rintro e w1 ⟨rfl,hb1⟩;have hB:=(((But.refl No w).alloc _).alloc _).trans hb1;have HB1:=hid hB;have q3:=cell_keep c3 hB;have hx:=(blk2 w (.cells (boxS s (some ⟨b,off,none⟩) n c) 24) #[.int .i64 0,.int .i64 0,.int .i64 0] 63).but hb1 (fun f=>f);have HX:=hid hx;have f0:=hx.frozen 0;have f1:=hx.frozen 1;have f2:=hx.frozen 2;have g0:=hx.cell (o:=0) rfl;have g1:=hx.cell (o:=1) rfl;have g2:=hx.cell (o:=2) rfl;have s8:w1.cell? ⟨w.heap.size,8,none⟩=some (.slice (some ⟨b,off,none⟩) n c):=(((Blk.new w (boxS s (some ⟨b,off,none⟩) n c) 24).alloc (.cells #[.int .i64 0,.int .i64 0,.int .i64 0] 63)).but hb1 (fun f=>f)).cell (o:=8) rfl;clear hx hb1 hB)
   obtain⟨w3,hw3,hb3,k0,k1,k2⟩:∃ w3,((w1.setCell ⟨w.heap.size+1,0,none⟩ (.int .i64 0)).setCell ⟨w.heap.size+1,1,none⟩ (.int .i64 0)).setCell ⟨w.heap.size+1,2,none⟩ (.int .i64 0)=w3∧But No w w3∧w3.cell? ⟨w.heap.size+1,0,none⟩=some (.int .i64 0)∧w3.cell? ⟨w.heap.size+1,1,none⟩=some (.int .i64 0)∧w3.cell? ⟨w.heap.size+1,2,none⟩=some (.int .i64 0):=by
    have hb:=store3 HX.out (.int .i64 0) (.int .i64 0) (.int .i64 0)
    exact⟨_,rfl,((HB1.out.setNew (Nat.le_succ _) _).setNew (Nat.le_succ _) _).setNew (Nat.le_succ _) _,hb.cell rfl,hb.cell rfl,hb.cell rfl⟩
   rw[hw3]
   clear hw3
   refine bodyPost_ret (v:=findV (none)) (by simp[results,Tryz.results93,go_sem,k0,k1,k2,findV]) rfl ?_
   exact⟨rfl,hb3⟩
  ·have b0:decide (sect<0)=false:=by simp;omega
   have b1:decide ((m:Int)≤sect)=true:=by simp;omega
   clear h2 h3 h4 h5 h6 hS HN
   unfold sysV at CR ⊢
   go_enter Tryz.func93,Tryz.ntmps93
   go_wp2_with (go_at_call 34;refine(CR.out _ (((But.refl No w).alloc _).alloc _)).mono ?_;rintro e w1 ⟨rfl,hb1⟩;have hB:=(((But.refl No w).alloc _).alloc _).trans hb1;have HB1:=hid hB;have q3:=cell_keep c3 hB;have hx:=(blk2 w (.cells (boxS s (some ⟨b,off,none⟩) n c) 24) #[.int .i64 0,.int .i64 0,.int .i64 0] 63).but hb1 (fun f=>f);have HX:=hid hx;have f0:=hx.frozen 0;have f1:=hx.frozen 1;have f2:=hx.frozen 2;have g0:=hx.cell (o:=0) rfl;have g1:=hx.cell (o:=1) rfl;have g2:=hx.cell (o:=2) rfl;have s8:w1.cell? ⟨w.heap.size,8,none⟩=some (.slice (some ⟨b,off,none⟩) n c):=(((Blk.new w (boxS s (some ⟨b,off,none⟩) n c) 24).alloc (.cells #[.int .i64 0,.int .i64 0,.int .i64 0] 63)).but hb1 (fun f=>f)).cell (o:=8) rfl;clear hx hb1 hB)
   obtain⟨w3,hw3,hb3,k0,k1,k2⟩:∃ w3,((w1.setCell ⟨w.heap.size+1,0,none⟩ (.int .i64 0)).setCell ⟨w.heap.size+1,1,none⟩ (.int .i64 0)).setCell ⟨w.heap.size+1,2,none⟩ (.int .i64 0)=w3∧But No w w3∧w3.cell? ⟨w.heap.size+1,0,none⟩=some (.int .i64 0)∧w3.cell? ⟨w.heap.size+1,1,none⟩=some (.int .i64 0)∧w3.cell? ⟨w.heap.size+1,2,none⟩=some (.int .i64 0):=by
    have hb:=store3 HX.out (.int .i64 0) (.int .i64 0) (.int .i64 0)
    exact⟨_,rfl,((HB1.out.setNew (Nat.le_succ _) _).setNew (Nat.le_succ _) _).setNew (Nat.le_succ _) _,hb.cell rfl,hb.cell rfl,hb.cell rfl⟩
   rw[hw3]
   clear hw3
   refine bodyPost_ret (v:=findV (none)) (by simp[results,Tryz.results93,go_sem,k0,k1,k2,findV]) rfl ?_
   exact⟨rfl,hb3⟩
end Go.Proofs.YtjfaiaipojfhgaaGreat.ter
end
section
namespace Go.Proofs.YtjfaiaipojfhgaaGreat.ter
open Go.Lib (hid)
open Go.ChangeShapes Go.WideShapes Go.ChangeAt Go.RowKit Go.Deep ky2 val
theorem mx_next {co:Int} {wh:List Int} (L:List Sec) {i j:Nat} {t:Tsk} {x:Sec} {c r:Int} (hx:t.secs[j]? = some x) (h0:0≤c) (h1:c<co) :
  mx (L ++ enS (cr co wh i) (t.secs.take (j+1))) c r=if dcr wh i=c∧x.2.1=r then max (mx (L ++ enS (cr co wh i) (t.secs.take j)) c r) x.2.2 else mx (L ++ enS (cr co wh i) (t.secs.take j)) c r:=by
 have hd:=dcr_is (wh:=wh) (i:=i) h0 h1
 by_cases e:cr co wh i = -1
 ·have hne:dcr wh i≠c:=fun h=>by have:=hd.1 h;omega
  rw[e,if_neg (fun h=>hne h.1)]
  unfold enS
  rw[if_pos rfl,if_pos rfl]
 ·rw[enS_take e hx,←List.append_assoc,mx_snoc]
  simp only[←hd]
set_option maxRecDepth 100000 in
set_option maxHeartbeats 4000000 in
theorem dlongest_any (s:Sys) (A:Option Addr) (n c:Nat) (B:Option Addr) (m d:Nat) (wh:List Int) (k r:Int) (w:World) (h:RSys w A n c s) (hz:Rd w B m wh) :
  Calls Tryz.prog 94 #[sysV s A n c,.slice B m d,.int .i64 k,.int .i64 r] w fun e w'=>e=.returned (.int .i64 (longV s wh k r))∧But No w w':=by
 have HN:=hid h.ts.len
 have CR:Hid (∀ W,But No w W→Calls Tryz.prog 34 #[sysV s A n c] W fun e w'=>e=.returned (.bool (right s))∧But No W w'):=fun W hb=>dright_any s A n c W (h.no hb)
 have HR:=hid h.ts
 have HZ:=hid hz
 clear h hz
 cases hrt:right s with
 | false =>
  have HV:Hid (longV s wh k r=0):=hid (by unfold longV;rw[if_neg (by rw[hrt];simp)])
  rw[hrt] at CR
  clear hrt
  unfold sysV at CR ⊢
  go_enter Tryz.func94,Tryz.ntmps94
  go_wp2_with (go_at_call 34;refine(CR.out _ ((But.refl No w).alloc _)).mono ?_;rintro e w1 ⟨rfl,hb1⟩;have HB1:=hid (((But.refl No w).alloc _).trans hb1);have hsy:=(Blk.new w (boxS s A n c) 24).but hb1 (fun f=>f);have HSY:=hid hsy;obtain⟨d0,d1,d2,d3,d4,d5,d6,d7,d8⟩:=sys_cells hsy;clear hb1 hsy)
  go_ret
  exact⟨ret1 HV.out.symm,HB1.out⟩
 | true =>
  have hln:=right_len hrt
  have hco:=hln.1
  have hn24:=hln.2.2.2.1
  rw[HN.out] at hn24
  have HRT:=hid hrt
  rw[hrt] at CR
  clear hln
  rcases(show k<0∨(0≤k∧s.co≤k)∨(0≤k∧k<s.co)by omega)with hk | ⟨hk0,hk⟩ | ⟨hk0,hk1⟩
  ·have HV:Hid (longV s wh k r=0):=hid (longV_off (.inl hk))
   have b0:decide (k<0)=true:=by simp[hk]
   clear hrt
   unfold sysV at CR ⊢
   go_enter Tryz.func94,Tryz.ntmps94
   go_wp2_with (go_at_call 34;refine(CR.out _ ((But.refl No w).alloc _)).mono ?_;rintro e w1 ⟨rfl,hb1⟩;have HB1:=hid (((But.refl No w).alloc _).trans hb1);have hsy:=(Blk.new w (boxS s A n c) 24).but hb1 (fun f=>f);have HSY:=hid hsy;obtain⟨d0,d1,d2,d3,d4,d5,d6,d7,d8⟩:=sys_cells hsy;clear hb1 hsy)
   go_ret
   exact⟨ret1 HV.out.symm,HB1.out⟩
  ·have HV:Hid (longV s wh k r=0):=hid (longV_off (.inr hk))
   have b0:decide (k<0)=false:=by simp;omega
   have b1:decide (s.co≤k)=true:=by simp[hk]
   clear hrt
   unfold sysV at CR ⊢
   go_enter Tryz.func94,Tryz.ntmps94
   go_wp2_with (go_at_call 34;refine(CR.out _ ((But.refl No w).alloc _)).mono ?_;rintro e w1 ⟨rfl,hb1⟩;have HB1:=hid (((But.refl No w).alloc _).trans hb1);have hsy:=(Blk.new w (boxS s A n c) 24).but hb1 (fun f=>f);have HSY:=hid hsy;obtain⟨d0,d1,d2,d3,d4,d5,d6,d7,d8⟩:=sys_cells hsy;clear hb1 hsy)
   go_ret
   exact⟨ret1 HV.out.symm,HB1.out⟩
  ·have HV:Hid (longV s wh k r=mx (fl s.co wh s.ts n) k r):=hid (by unfold longV F;rw[if_pos hrt,HN.out])
   have b0:decide (k<0)=false:=by simp;omega
   have b1:decide (s.co≤k)=false:=by simp;omega
   clear hrt
   unfold sysV at CR ⊢
   go_enter Tryz.func94,Tryz.ntmps94
   go_upto_region 5 with(go_at_call 34;refine(CR.out _ ((But.refl No w).alloc _)).mono ?_;rintro e w1 ⟨rfl,hb1⟩;have HB1:=hid (((But.refl No w).alloc _).trans hb1);have hsy:=(Blk.new w (boxS s A n c) 24).but hb1 (fun f=>f);have HSY:=hid hsy;obtain⟨d0,d1,d2,d3,d4,d5,d6,d7,d8⟩:=sys_cells hsy;clear hb1 hsy)
   generalize w.heap.size=bx at HSY d0 d1 d2 d3 d4 d5 d6 d7 d8 ⊢
   have HRW:=hid (HR.out.no HB1.out)
   have HZW:=hid (HZ.out.no HB1.out)
   clear d0 d1 d2 d3 d4 d5 d6 d7 d8 CR HR HZ
   go_wp2_with fail
   go_loopw [10,11] (fun u i wr=>∃ q:Nat,u=.int .i64 (mx (fl s.co wh s.ts q) k r)∧i=.int .i64 (q:Int)∧q≤n∧Hid (But No w1 wr)) (fun _ i _=>n-(intOf i).toNat)
   case atStart=>exact⟨0,rfl,rfl,by omega,But.refl No w1⟩
   case round =>
    obtain⟨i,rfl,rfl,hi,HBO⟩:=hrel
    have d8:wr.cell? ⟨bx,8,none⟩=some (.slice A n c):=(HSY.out.but HBO.out (fun f=>f)).cell (o:=8) rfl
    by_cases hin:i<n
    ·have hin2:(i:Int)<(n:Int):=by omega
     have hi0:(0:Int)≤(i:Int):=Int.natCast_nonneg i
     obtain⟨t,ht⟩:∃ t,s.ts[i]? = some t:=⟨_,List.getElem?_eq_getElem (by rw[HN.out];exact hin)⟩
     obtain⟨ba,oa,A',c',rfl,_,_,_,c3,hcc,hS⟩:=HRW.out.at1 ht
     have HS:=hid hS
     have HTK:=hid ht
     have C3:=hid c3
     have HFS:=hid (fl_snoc (co:=s.co) (wh:=wh) ht)
     have hm4:=(right_len HRT.out).2.2.2.2 t (List.mem_of_getElem? ht)
     obtain⟨m',hm'⟩:∃ m',t.secs.length=m':=⟨_,rfl⟩
     have HM:=hid hm'
     rw[hm'] at c3 hcc HS hm4 C3
     have CD:Hid (∀ W,But No w1 W→Calls Tryz.prog 95 #[.slice B m d,.int .i64 i] W fun e w'=>e=.returned (.int .i64 (dcr wh i))∧w'=W):=fun W hb=>dcore_any B m d wh i W (HZW.out.no hb)
     have c3:=cell_keep c3 HBO.out
     clear hS ht hm'
     go_wp2_with fail
     clear d8 c3
     go_loopw [10,12] (fun u j wr=>∃ q:Nat,u=.int .i64 (mx (fl s.co wh s.ts i ++ enS (cr s.co wh i) (t.secs.take q)) k r)∧j=.int .i64 (q:Int)∧q≤m'∧Hid (But No w1 wr)) (fun _ j _=>m'-(intOf j).toNat)
     case atStart=>exact⟨0,by rw[List.take_zero];unfold enS;simp only[List.map_nil,ite_self,List.append_nil],rfl,by omega,HBO⟩
     case round =>
      obtain⟨j,rfl,rfl,hj,HBR⟩:=hrel
      have d8:wr.cell? ⟨bx,8,none⟩=some (.slice (some ⟨ba,oa,none⟩) n c):=(HSY.out.but HBR.out (fun f=>f)).cell (o:=8) rfl
      have c3:=cell_keep C3.out HBR.out
      by_cases hjm:j<m'
      ·have hjm2:(j:Int)<(m':Int):=by omega
       have hj0:(0:Int)≤(j:Int):=Int.natCast_nonneg j
       obtain⟨x,hx⟩:∃ x,t.secs[j]? = some x:=⟨_,List.getElem?_eq_getElem (by rw[HM.out];exact hjm)⟩
       obtain⟨bb,oo,rfl,e0,e1,e2⟩:=(HS.out.no HBR.out).at1 hx
       have HMX:=hid (mx_next (wh:=wh) (i:=i) (r:=r) (fl s.co wh s.ts i) hx hk0 hk1)
       obtain⟨M,hM⟩:∃ M,mx (fl s.co wh s.ts i ++ enS (cr s.co wh i) (t.secs.take j)) k r=M:=⟨_,rfl⟩
       rw[hM] at HMX ⊢
       clear hx hM
       obtain⟨x0,x1,x2⟩:=x
       simp only at e0 e1 e2 HMX
       generalize dcr wh i=dc at CD HMX
       by_cases hdc:dc=k
       ·have q1:(dc == k)=true:=by simp[hdc]
        by_cases hxr:x1=r
        ·have q2:(x1 == r)=true:=by simp[hxr]
         rw[if_pos ⟨hdc,hxr⟩] at HMX
         clear hdc hxr
         go_wp2_with (go_at_call 95;(with_reducible refine(CD.out _ (HBR.out.alloc _)).mono ?_);rintro e wC ⟨rfl,rfl⟩)
         go_roundw
         case rel=>exact⟨j+1,by rw[HMX.out];congr 1;split <;> omega,by go_num,by omega,HBR.out.alloc _⟩
         case measure=>simp[intOf];omega
        ·have q2:(x1 == r)=false:=by simp[hxr]
         rw[if_neg (fun h=>hxr h.2)] at HMX
         clear hdc hxr
         go_wp2_with (go_at_call 95;(with_reducible refine(CD.out _ (HBR.out.alloc _)).mono ?_);rintro e wC ⟨rfl,rfl⟩)
         go_roundw
         case rel=>exact⟨j+1,by rw[HMX.out],by go_num,by omega,HBR.out.alloc _⟩
         case measure=>simp[intOf];omega
       ·have q1:(dc == k)=false:=by simp[hdc]
        rw[if_neg (fun h=>hdc h.1)] at HMX
        clear hdc
        go_wp2_with (go_at_call 95;(with_reducible refine(CD.out _ (HBR.out.alloc _)).mono ?_);rintro e wC ⟨rfl,rfl⟩)
        go_roundw
        case rel=>exact⟨j+1,by rw[HMX.out],by go_num,by omega,HBR.out.alloc _⟩
        case measure=>simp[intOf];omega
      ·have b3:decide ((j:Int)<(m':Int))=false:=by simp;omega
       have HJ:Hid (mx (fl s.co wh s.ts i ++ enS (cr s.co wh i) (t.secs.take j)) k r=mx (fl s.co wh s.ts (i+1)) k r):=hid (by rw[HFS.out,show j=t.secs.length by rw[HM.out];omega,List.take_length])
       rw[HJ.out]
       go_wp2
       go_roundw
       case rel=>exact⟨i+1,rfl,by go_num,by omega,HBR⟩
       case measure=>simp[intOf];omega
    ·have HI:Hid (i=n):=hid (by omega)
     have b3:decide ((i:Int)<(n:Int))=false:=by simp;omega
     go_wp2
     go_ret
     exact⟨ret1 (by rw[HV.out,HI.out]),HB1.out.trans HBO.out⟩
end Go.Proofs.YtjfaiaipojfhgaaGreat.ter
end
section
namespace Go.Proofs.YtjfaiaipojfhgaaGreat.ter
open Go.Lib (hid)
open Go.ChangeShapes Go.WideShapes Go.ChangeAt Go.RowKit Go.Deep ky2 val
set_option maxRecDepth 100000 in
set_option maxHeartbeats 4000000 in
theorem dwait_any (s:Sys) (A:Option Addr) (n c:Nat) (B:Option Addr) (m d:Nat) (wh:List Int) (task sect:Int) (w:World) (h:RSys w A n c s) (hz:Rd w B m wh) :
  Calls Tryz.prog 68 #[sysV s A n c,.slice B m d,.int .i64 task,.int .i64 sect] w fun e w'=>e=.returned (.int .i64 (waitV s wh task sect))∧But No w w':=by
 have CF:Hid (∀ W,But No w W→Calls Tryz.prog 93 #[sysV s A n c,.int .i64 task,.int .i64 sect] W fun e w'=>e=.returned (findV (sec? s task sect))∧But No W w'):=fun W hb=>section_any s A n c task sect W (h.no hb)
 cases hx:sec? s task sect with
 | none =>
  have HV:=hid (wait_none (wh:=wh) hx)
  rw[hx,show findV none=.tuple #[.agg #[.int .i64 0,.int .i64 0,.int .i64 0],.bool false] from rfl] at CF
  clear h hz hx
  unfold sysV at CF ⊢
  go_enter Tryz.func68,Tryz.ntmps68
  go_wp2_with (go_at_call 93;refine(CF.out _ ((But.refl No w).alloc _)).mono ?_;rintro e w1 ⟨rfl,hb1⟩;have HB1:=hid (((But.refl No w).alloc _).trans hb1);clear hb1)
  go_ret
  exact⟨ret1 HV.out.symm,HB1.out.alloc _⟩
 | some x =>
  have HV:=hid (wait_some (wh:=wh) hx)
  obtain⟨k,hk,hrt⟩:∃ k:Nat,task=(k:Int)∧right s=true:=by
   rcases sec_cases s task sect with⟨k,_,_,_,h1,_,h3,_⟩ | ⟨h6,_⟩ | ⟨h6,_⟩
   ·exact⟨k,h1,h3⟩
   ·rw[hx] at h6;cases h6
   ·rw[hx] at h6;cases h6
  subst hk
  rw[Int.toNat_natCast] at HV
  have hco:=(right_len hrt).1
  have HRT:=hid hrt
  obtain⟨x0,x1,x2⟩:=x
  obtain⟨nc,hnc⟩:∃ nc:Nat,s.co=(nc:Int):=⟨s.co.toNat,by omega⟩
  have HNC:=hid hnc
  have hnc8:nc≤8:=by omega
  have CL:Hid (∀ (q:Nat) W,But No w W→Calls Tryz.prog 94 #[sysV s A n c,.slice B m d,.int .i64 q,.int .i64 x1] W fun e w'=>e=.returned (.int .i64 (mx (F s wh) q x1))∧But No W w'):=fun q W hb=>by
   have:=dlongest_any s A n c B m d wh q x1 W (h.no hb) (hz.no hb)
   unfold longV at this
   rwa [if_pos hrt] at this
  have CD:Hid (∀ W,But No w W→Calls Tryz.prog 95 #[.slice B m d,.int .i64 k] W fun e w'=>e=.returned (.int .i64 (dcr wh k))∧w'=W):=fun W hb=>dcore_any B m d wh k W (hz.no hb)
  rw[hx,show findV (some (x0,x1,x2))=.tuple #[.agg #[.int .i64 x0,.int .i64 x1,.int .i64 x2],.bool true] from rfl] at CF
  have HDC:Hid (∀ q:Nat,q<nc→(((q:Int)=cr s.co wh k) ↔ ((q:Int)=dcr wh k))):=hid (fun q hq=>by
   have:=dcr_is (co:=s.co) (wh:=wh) (i:=k) (k:=(q:Int)) (by omega) (by omega)
   exact⟨fun h=>(this.2 h.symm).symm,fun h=>(this.1 h.symm).symm⟩)
  have HV2:Hid (waitV s wh k sect=sm (F s wh) (cr s.co wh k) x1 nc):=hid (by rw[HV.out];unfold smV;rw[hnc,Int.toNat_natCast])
  clear h hz hx hrt HV hco hnc
  generalize cr s.co wh k=own at HDC HV2
  generalize dcr wh k=dc at CD HDC
  unfold sysV at CF CL ⊢
  go_enter Tryz.func68,Tryz.ntmps68
  go_upto_region 5 with(go_at_call 93;refine(CF.out _ ((But.refl No w).alloc _)).mono ?_;rintro e w1 ⟨rfl,hb1⟩;have HB1:=hid (((But.refl No w).alloc _).trans hb1);have HSY:=hid ((Blk.new w (boxS s A n c) 24).but hb1 (fun f=>f));clear hb1)
  have hb3:But No w (w1.alloc (.cells #[.int .i64 x0,.int .i64 x1,.int .i64 x2] 63)):=HB1.out.alloc _
  have hsy:=HSY.out.alloc (.cells #[.int .i64 x0,.int .i64 x1,.int .i64 x2] 63)
  have hxs:=Blk.new w1 #[.int .i64 x0,.int .i64 x1,.int .i64 x2] 63
  generalize w1.alloc (.cells #[.int .i64 x0,.int .i64 x1,.int .i64 x2] 63)=w3 at hb3 hsy hxs ⊢
  generalize w.heap.size=b1 at HSY hsy ⊢
  generalize w1.heap.size=bc at hxs ⊢
  have HB3:=hid hb3
  have HS3:=hid hsy
  have HX3:=hid hxs
  clear hb3 hsy hxs HSY HB1 CF
  have CL3:Hid (∀ (q:Nat) w',But No w3 w'→Calls Tryz.prog 94 #[.agg #[.int .i64 s.co,.int .i64 s.po,.int .i64 s.pr,.int .i64 s.re,.int .i64 s.sw,.int .i64 s.fi,.int .i64 s.la,.int .i64 s.rs,.slice A n c],.slice B m d,.int .i64 q,.int .i64 x1] w' fun e w''=>e=.returned (.int .i64 (mx (F s wh) q x1))∧But No w3 w''):=hid (fun q w' hb=>(CL.out q w' (HB3.out.trans hb)).mono (fun e w'' ⟨h1,h2⟩=>⟨h1,hb.trans h2⟩))
  have CD:Hid (∀ w',But No w3 w'→Calls Tryz.prog 95 #[.slice B m d,.int .i64 k] w' fun e w''=>e=.returned (.int .i64 dc)∧w''=w'):=hid (fun w' hb=>CD.out w' (HB3.out.trans hb))
  clear CL
  go_wp2_with fail
  go_loopw [11,12] (fun u i wr=>∃ q:Nat,u=.int .i64 (sm (F s wh) own x1 q)∧i=.int .i64 (q:Int)∧q≤nc∧Hid (But No w3 wr)) (fun _ i _=>nc-(intOf i).toNat)
  case atStart=>exact⟨0,rfl,rfl,by omega,But.refl No w3⟩
  case round =>
   obtain⟨q,rfl,rfl,hq,HBR⟩:=hrel
   obtain⟨d0,d1,d2,d3,d4,d5,d6,d7,d8⟩:=sys_cells (HS3.out.but HBR.out (fun f=>f))
   rw[HNC.out] at d0
   have f1:wr.cell? ⟨bc,1,none⟩=some (.int .i64 x1):=(HX3.out.but HBR.out (fun f=>f)).cell (o:=1) rfl
   have hs:=sm_in (L:=F s wh) (fun c r=>mxF_le HRT.out wh c r) own x1 q (by omega)
   have hmb:=mxF_le HRT.out wh q x1
   have hm0:=mx_pos (F s wh) q x1
   have HSM:=hid (show sm (F s wh) own x1 (q+1)=sm (F s wh) own x1 q+(if 0<mx (F s wh) q x1∧(q:Int)≠own then mx (F s wh) q x1+1 else 0) from rfl)
   have CL1:=hid (CL3.out q)
   obtain⟨S0,hS0⟩:∃ S0,sm (F s wh) own x1 q=S0:=⟨_,rfl⟩
   obtain⟨M,hM⟩:∃ M,mx (F s wh) q x1=M:=⟨_,rfl⟩
   have HS0:=hid hS0
   rw[hS0] at hs HSM ⊢
   rw[hM] at hmb hm0 HSM CL1
   clear hS0 hM
   by_cases hqn:q<nc
   ·have hqn2:(q:Int)<(nc:Int):=by omega
    have hdd:=HDC.out q hqn
    have CL1:Hid (∀ w',But No w3 w'→Calls Tryz.prog 94 #[.agg #[.int .i64 (nc:Int),.int .i64 s.po,.int .i64 s.pr,.int .i64 s.re,.int .i64 s.sw,.int .i64 s.fi,.int .i64 s.la,.int .i64 s.rs,.slice A n c],.slice B m d,.int .i64 q,.int .i64 x1] w' fun e w''=>e=.returned (.int .i64 M)∧But No w3 w''):=hid (by have h9:=CL1.out;rw[HNC.out] at h9;exact h9)
    by_cases hdc:(q:Int)=dc
    ·have q1:((q:Int) != dc)=false:=by simp[hdc]
     rw[if_neg (fun h=>h.2 (hdd.2 hdc)),Int.add_zero] at HSM
     clear hdd hdc
     go_wp2_with (first | (go_at_call 94;(with_reducible refine(CL1.out _ HBR.out).mono ?_);rintro e wA ⟨rfl,hA⟩;have HA:=hid hA;clear hA d0 d1 d2 d3 d4 d5 d6 d7 d8) | (go_at_call 95;(with_reducible refine(CD.out _ HA.out).mono ?_);rintro e wC ⟨rfl,rfl⟩))
     go_roundw
     case rel=>exact⟨q+1,by rw[HSM.out],by go_num,by omega,HA⟩
     case measure=>simp[intOf];omega
    ·have q1:((q:Int) != dc)=true:=by simp[hdc]
     by_cases hM0:0<M
     ·have q2:decide (0<M)=true:=by simp[hM0]
      rw[if_pos ⟨hM0,fun h=>hdc (hdd.1 h)⟩] at HSM
      clear hdd hdc
      go_wp2_with (first | (go_at_call 94;(with_reducible refine(CL1.out _ HBR.out).mono ?_);rintro e wA ⟨rfl,hA⟩;have HA:=hid hA;clear hA d0 d1 d2 d3 d4 d5 d6 d7 d8) | (go_at_call 95;(with_reducible refine(CD.out _ HA.out).mono ?_);rintro e wC ⟨rfl,rfl⟩))
      go_roundw
      case rel=>exact⟨q+1,by rw[HSM.out];go_num,by go_num,by omega,HA⟩
      case measure=>simp[intOf];omega
     ·have q2:decide (0<M)=false:=by simp;omega
      rw[if_neg (fun h=>hM0 h.1),Int.add_zero] at HSM
      clear hdd hdc
      go_wp2_with (first | (go_at_call 94;(with_reducible refine(CL1.out _ HBR.out).mono ?_);rintro e wA ⟨rfl,hA⟩;have HA:=hid hA;clear hA d0 d1 d2 d3 d4 d5 d6 d7 d8) | (go_at_call 95;(with_reducible refine(CD.out _ HA.out).mono ?_);rintro e wC ⟨rfl,rfl⟩))
      go_roundw
      case rel=>exact⟨q+1,by rw[HSM.out],by go_num,by omega,HA⟩
      case measure=>simp[intOf];omega
   ·have HQ:Hid (q=nc):=hid (by omega)
    have b3:decide ((q:Int)<(nc:Int))=false:=by simp;omega
    go_wp2
    go_ret
    exact⟨ret1 (by rw[HV2.out,←HS0.out,HQ.out]),HB3.out.trans HBR.out⟩
set_option maxRecDepth 100000 in
set_option maxHeartbeats 4000000 in
theorem dextra_any (s:Sys) (A:Option Addr) (n c:Nat) (B:Option Addr) (m d:Nat) (wh:List Int) (task:Int) (w:World) (h:RSys w A n c s) (hz:Rd w B m wh) :
  Calls Tryz.prog 54 #[sysV s A n c,.slice B m d,.int .i64 task] w fun e w'=>e=.returned (.int .i64 (extraV s wh task))∧But No w w':=by
 have HN:=h.ts.len
 have HR:=hid h.ts
 have CR:Hid (∀ W,But No w W→Calls Tryz.prog 34 #[sysV s A n c] W fun e w'=>e=.returned (.bool (right s))∧But No W w'):=fun W hb=>dright_any s A n c W (h.no hb)
 have CW:Hid (∀ (q:Nat) W,But No w W→Calls Tryz.prog 68 #[sysV s A n c,.slice B m d,.int .i64 task,.int .i64 q] W fun e w'=>e=.returned (.int .i64 (waitV s wh task q))∧But No W w'):=fun q W hb=>dwait_any s A n c B m d wh task q W (h.no hb) (hz.no hb)
 clear h hz
 rcases tsk_cases s task with⟨k,t,rfl,h2,h3,h4⟩ | ⟨h4,h9⟩
 ·have hk:=(List.getElem?_eq_some_iff.1 h2).1
  rw[HN] at hk
  have hk2:(k:Int)<(n:Int):=by omega
  have hk0:(0:Int)≤(k:Int):=Int.natCast_nonneg k
  have HV:Hid (extraV s wh k=exN s wh k t.secs t.secs.length):=hid (by rw[extra_some h4,Int.toNat_natCast])
  have hm4:=(right_len h3).2.2.2.2 t (List.mem_of_getElem? h2)
  have HRT:=hid h3
  have HT4:=hid h4
  rw[h3] at CR
  obtain⟨b,off,A',c',rfl,_,_,_,c3,hcc,hS⟩:=HR.out.at1 h2
  have C3:=hid c3
  obtain⟨m',hm'⟩:∃ m',t.secs.length=m':=⟨_,rfl⟩
  rw[hm'] at c3 hcc hm4 HV C3
  have HM:=hid hm'
  clear h2 h3 h4 hS HN hm' c3 HR
  unfold sysV at CR CW ⊢
  go_enter Tryz.func54,Tryz.ntmps54
  go_upto_region 4 with(go_at_call 34;refine(CR.out _ ((But.refl No w).alloc _)).mono ?_;rintro e w3 ⟨rfl,hb1⟩;have HB3:=hid (((But.refl No w).alloc _).trans hb1);have hsy:=(Blk.new w (boxS s (some ⟨b,off,none⟩) n c) 24).but hb1 (fun f=>f);have HSY:=hid hsy;obtain⟨d0,d1,d2,d3,d4,d5,d6,d7,d8⟩:=sys_cells hsy;clear hb1 hsy)
  generalize w.heap.size=b1 at HSY d0 d1 d2 d3 d4 d5 d6 d7 d8 ⊢
  clear d0 d1 d2 d3 d4 d5 d6 d7 d8 CR
  go_wp2_with fail
  go_loopw [8,9] (fun a i wr=>∃ j:Nat,a=.int .i64 (exN s wh k t.secs j)∧i=.int .i64 (j:Int)∧j≤m'∧Hid (But No w3 wr)) (fun _ i _=>m'-(intOf i).toNat)
  case atStart=>exact⟨0,rfl,rfl,by omega,But.refl No w3⟩
  case round =>
   obtain⟨j,rfl,rfl,hj,HBR⟩:=hrel
   obtain⟨d0,d1,d2,d3,d4,d5,d6,d7,d8⟩:=sys_cells (HSY.out.but HBR.out (fun f=>f))
   have c3:=cell_keep C3.out (HB3.out.trans HBR.out)
   by_cases hjm:j<m'
   ·obtain⟨x,hx⟩:∃ x,t.secs[j]? = some x:=⟨_,List.getElem?_eq_getElem (by rw[HM.out];exact hjm)⟩
    have hsec:sec? s (k:Int) (j:Int)=some x:=by
     unfold sec?
     rw[HT4.out]
     simp only[Option.bind_some]
     rw[if_pos (Int.natCast_nonneg j),Int.toNat_natCast,hx]
    have hwv:waitV s wh (k:Int) (j:Int)=smV s wh k x.2.1:=by rw[wait_some hsec,Int.toNat_natCast]
    have HEX:=hid (exN_succ (s:=s) (wh:=wh) (k:=k) hx)
    have hE:=exN_le HRT.out wh k t.secs j
    have hS:=smV_le HRT.out wh k x.2.1
    have CW1:Hid (∀ W,But No w3 W→Calls Tryz.prog 68 #[.agg #[.int .i64 s.co,.int .i64 s.po,.int .i64 s.pr,.int .i64 s.re,.int .i64 s.sw,.int .i64 s.fi,.int .i64 s.la,.int .i64 s.rs,.slice (some ⟨b,off,none⟩) n c],.slice B m d,.int .i64 k,.int .i64 j] W fun e w'=>e=.returned (.int .i64 (smV s wh k x.2.1))∧But No w3 w'):=hid (fun W hb=>(by rw[←hwv];exact(CW.out j W (HB3.out.trans hb)).mono (fun e w' ⟨h1,h2⟩=>⟨h1,hb.trans h2⟩)))
    obtain⟨E0,hE0⟩:∃ E0,exN s wh k t.secs j=E0:=⟨_,rfl⟩
    obtain⟨S0,hS0⟩:∃ S0,smV s wh k x.2.1=S0:=⟨_,rfl⟩
    rw[hE0] at hE HEX ⊢
    rw[hS0] at hS HEX CW1
    have hj4:(j:Int)*8796093022216≤35184372088864:=by omega
    clear hE0 hS0 hx hsec hwv
    go_wp2_with (go_at_call 68;((with_reducible refine(CW1.out _ HBR.out).mono ?_);rintro e wC ⟨rfl,hC⟩;have HC:=hid hC;clear hC))
    go_roundw
    case rel=>exact⟨j+1,by rw[HEX.out],by go_num,by omega,HC⟩
    case measure=>simp[intOf];omega
   ·have hE:Hid (j=m'):=hid (by omega)
    have b3:decide ((j:Int)<(m':Int))=false:=by simp;omega
    go_wp2
    go_ret
    exact⟨ret1 (by rw[HV.out,hE.out]),HB3.out.trans HBR.out⟩
 ·have HV:=hid (extra_none (wh:=wh) h4)
  cases hrt:right s with
  | false =>
   rw[hrt] at CR
   clear h4 h9 hrt HN
   unfold sysV at CR ⊢
   go_enter Tryz.func54,Tryz.ntmps54
   go_wp2_with (go_at_call 34;refine(CR.out _ ((But.refl No w).alloc _)).mono ?_;rintro e w1 ⟨rfl,hb1⟩;have HB1:=hid (((But.refl No w).alloc _).trans hb1);have s8:w1.cell? ⟨w.heap.size,8,none⟩=some (.slice A n c):=((Blk.new w (boxS s A n c) 24).but hb1 (fun f=>f)).cell (o:=8) rfl;clear hb1)
   go_ret
   exact⟨ret1 HV.out.symm,HB1.out⟩
  | true =>
   rw[hrt] at CR
   by_cases h0:task<0
   ·have b0:decide ((0:Int)≤task)=false:=by simp;omega
    clear h4 h9 hrt HN
    unfold sysV at CR ⊢
    go_enter Tryz.func54,Tryz.ntmps54
    go_wp2_with (go_at_call 34;refine(CR.out _ ((But.refl No w).alloc _)).mono ?_;rintro e w1 ⟨rfl,hb1⟩;have HB1:=hid (((But.refl No w).alloc _).trans hb1);have s8:w1.cell? ⟨w.heap.size,8,none⟩=some (.slice A n c):=((Blk.new w (boxS s A n c) 24).but hb1 (fun f=>f)).cell (o:=8) rfl;clear hb1)
    go_ret
    exact⟨ret1 HV.out.symm,HB1.out⟩
   ·have b0:decide ((0:Int)≤task)=true:=by simp;omega
    have b1:decide (task<(n:Int))=false:=by
     rcases h9 with h | h | h
     ·omega
     ·simp;omega
     ·rw[hrt] at h;cases h
    clear h4 h9 hrt HN
    unfold sysV at CR ⊢
    go_enter Tryz.func54,Tryz.ntmps54
    go_wp2_with (go_at_call 34;refine(CR.out _ ((But.refl No w).alloc _)).mono ?_;rintro e w1 ⟨rfl,hb1⟩;have HB1:=hid (((But.refl No w).alloc _).trans hb1);have s8:w1.cell? ⟨w.heap.size,8,none⟩=some (.slice A n c):=((Blk.new w (boxS s A n c) 24).but hb1 (fun f=>f)).cell (o:=8) rfl;clear hb1)
    go_ret
    exact⟨ret1 HV.out.symm,HB1.out⟩
end Go.Proofs.YtjfaiaipojfhgaaGreat.ter
end
