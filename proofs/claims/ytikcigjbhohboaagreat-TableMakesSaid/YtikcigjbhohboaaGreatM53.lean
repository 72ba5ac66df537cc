/- Part 53 of a proof: TbS TbW. -/
import Derived.StillTailTactics
import Derived.Test.YtikcigjbhohboaaGreatM39
import Derived.Test.YtikcigjbhohboaaGreatM52
section
namespace Go.Proofs.YtikcigjbhohboaaGreat.tbl
open Go.Lib (hid)
set_option linter.unusedSimpArgs false
open Go.ChangeShapes Go.WideShapes Go.ChangeAt Go.RowKit Go.Deep val ter pln
theorem sec_at {w:World} {A:Option Addr} {n:Nat} {l:List (Int × Int × Int)} (h:RSec w A n l) {k:Nat} {x:Int × Int × Int} (hx:l[k]? = some x) :
  ∃ b off,A=some ⟨b,off,none⟩∧w.cell? ⟨b,off+k*3,none⟩=some (.int .i64 x.1)∧w.cell? ⟨b,off+k*3+1,none⟩=some (.int .i64 x.2.1)∧w.cell? ⟨b,off+k*3+2,none⟩=some (.int .i64 x.2.2):=by
 have hk:k<l.length:=(List.getElem?_eq_some_iff.1 hx).1
 obtain⟨b,off,e,hl,hc⟩:=h.at_ (by rw[←h.len];omega)
 exact⟨b,off,e,hc k x hx⟩
theorem nsc_run (a b c:Int) (W:World):(binOp BinOp.neq 120 (.agg #[.int .i64 a,.int .i64 b,.int .i64 c]) (.agg #[.int .i64 a,.int .i64 b,.int .i64 c])).run Tryz.prog W=.ok (.bool false) W:=by simp[go_sem]
set_option maxRecDepth 100000 in
set_option maxHeartbeats 8000000 in
theorem system_eq (s:Sys) (A:Option Addr) (n c:Nat) (A2:Option Addr) (c2:Nat) (w:World) (hs:RSys w A n c s) (hs2:RSys w A2 n c2 s) :
  Calls Tryz.prog 31 #[sysV s A n c,sysV s A2 n c2] w fun e w'=>e=.returned (.bool true)∧But No w w':=by
 obtain⟨W1,hW1⟩:∃ W1,(w.alloc (.cells (boxS s A n c) 24)).alloc (.cells (boxS s A2 n c2) 24)=W1:=⟨_,rfl⟩
 have HB1:Hid (But No w W1):=hid (by rw[←hW1];exact((But.refl No w).alloc _).alloc _)
 have HX1:Hid (Blk W1 w.heap.size (boxS s A n c) 24):=hid (by rw[←hW1];exact(Blk.new w _ _).alloc _)
 have HX2:Hid (Blk W1 (w.heap.size+1) (boxS s A2 n c2) 24):=hid (by rw[←hW1];exact blk2 w _ _ _)
 have HS:=hid hs
 have HS2:=hid hs2
 have HN:Hid (s.ts.length=n):=hs.ts.len
 have hnm:=hs.ts.max
 clear hs hs2
 obtain⟨B,hB⟩:∃ B,w.heap.size=B:=⟨_,rfl⟩
 rw[hB] at HX1 HX2
 dsimp only[sysV,boxS] at hW1 ⊢
 go_enter Tryz.func31,Tryz.ntmps31
 go_wp2_with fail
 clear hW1 hB
 go_loopw [5] (fun i wr=>∃ k:Nat,k≤n∧i=.int .i64 k∧Hid (But No W1 wr)) (fun i _=>n-(intOf i).toNat)
 case atStart=>exact⟨0,by omega,rfl,But.refl _ _⟩
 case round =>
  obtain⟨k,hk,rfl,hbw⟩:=hrel
  have hk0:(0:Int)≤(k:Int):=Int.natCast_nonneg k
  have bb:=sys_cells (s:=s) (HX1.out.but hbw.out (fun f=>f))
  have bb2:=sys_cells (s:=s) (HX2.out.but hbw.out (fun f=>f))
  by_cases hlt:k<n
  ·have kn':(k:Int)<(n:Int):=by omega
   obtain⟨t,ht⟩:∃ t,s.ts[k]? = some t:=⟨_,List.getElem?_eq_getElem (by rw[HN.out];exact hlt)⟩
   have hB:=HB1.out.trans hbw.out
   obtain⟨b,off,A3,c3,rfl,t0,t1,t2,t3,_,hr3⟩:=(HS.out.no hB).ts.at1 ht
   obtain⟨b',off',A4,c4,rfl,u0,u1,u2,u3,_,hr4⟩:=(HS2.out.no hB).ts.at1 ht
   have hsm:=hr3.max
   have HR3:=hid hr3
   have HR4:=hid hr4
   have HML:Hid (t.secs.length=t.secs.length):=hid rfl
   clear ht hr3 hr4 hB
   obtain⟨l,hl⟩:∃ l,t.secs=l:=⟨_,rfl⟩
   rw[hl] at t3 u3 HR3 HR4 hsm
   clear hl
   obtain⟨m,hm⟩:∃ m,l.length=m:=⟨_,rfl⟩
   rw[hm] at t3 u3 HR3 HR4 hsm
   have HM:=hid hm
   clear hm
   obtain⟨W2,hW2⟩:∃ W2,wr.alloc (.cells #[.int .i64 t.p,.int .i64 t.d,.int .i64 t.w,.slice A3 m c3] 97)=W2:=⟨_,rfl⟩
   have hb2:But No wr W2:=by rw[←hW2];exact(But.refl No wr).alloc _
   have h2:Blk W2 wr.heap.size #[.int .i64 t.p,.int .i64 t.d,.int .i64 t.w,.slice A3 m c3] 97:=by rw[←hW2];exact Blk.new wr _ _
   replace bb2:=sys_cells (s:=s) (HX2.out.but (hbw.out.trans hb2) (fun f=>f))
   replace u0:=cell_keep u0 hb2
   replace u1:=cell_keep u1 hb2
   replace u2:=cell_keep u2 hb2
   replace u3:=cell_keep u3 hb2
   obtain⟨W3,hW3⟩:∃ W3,W2.alloc (.cells #[.int .i64 t.p,.int .i64 t.d,.int .i64 t.w,.slice A4 m c4] 97)=W3:=⟨_,rfl⟩
   have hb23:But No W2 W3:=by rw[←hW3];exact(But.refl No W2).alloc _
   have HB3:Hid (But No wr W3):=hid (hb2.trans hb23)
   have h3:Blk W3 wr.heap.size #[.int .i64 t.p,.int .i64 t.d,.int .i64 t.w,.slice A3 m c3] 97:=h2.but hb23 (fun f=>f)
   have h4:Blk W3 W2.heap.size #[.int .i64 t.p,.int .i64 t.d,.int .i64 t.w,.slice A4 m c4] 97:=by rw[←hW3];exact Blk.new W2 _ _
   have HX3:=hid h3
   have HX4:=hid h4
   obtain⟨x0,x1,x2,x3⟩:W3.cell? ⟨wr.heap.size,0,none⟩=some (.int .i64 t.p)∧W3.cell? ⟨wr.heap.size,1,none⟩=some (.int .i64 t.d)∧W3.cell? ⟨wr.heap.size,2,none⟩=some (.int .i64 t.w)∧W3.cell? ⟨wr.heap.size,3,none⟩=some (.slice A3 m c3):=⟨h3.cell rfl,h3.cell rfl,h3.cell rfl,h3.cell rfl⟩
   obtain⟨y0,y1,y2,y3⟩:W3.cell? ⟨W2.heap.size,0,none⟩=some (.int .i64 t.p)∧W3.cell? ⟨W2.heap.size,1,none⟩=some (.int .i64 t.d)∧W3.cell? ⟨W2.heap.size,2,none⟩=some (.int .i64 t.w)∧W3.cell? ⟨W2.heap.size,3,none⟩=some (.slice A4 m c4):=⟨h4.cell rfl,h4.cell rfl,h4.cell rfl,h4.cell rfl⟩
   have d0:((m:Int) != (m:Int))=false:=by simp
   clear h2 h3 h4 hb2 hb23
   obtain⟨X,hX⟩:∃ X,wr.heap.size=X:=⟨_,rfl⟩
   obtain⟨Y,hY⟩:∃ Y,W2.heap.size=Y:=⟨_,rfl⟩
   rw[hX] at x0 x1 x2 x3 HX3
   rw[hY] at y0 y1 y2 y3 HX4
   go_wp2_with fail
   clear hW2 hW3 hX hY x0 x1 x2 x3 y0 y1 y2 y3 t0 t1 t2 t3 u0 u1 u2 u3 bb bb2
   go_loopw [8] (fun i wq=>∃ g:Nat,g≤m∧i=.int .i64 g∧Hid (But No W3 wq)) (fun i _=>m-(intOf i).toNat)
   case atStart=>exact⟨0,by omega,rfl,But.refl _ _⟩
   case round =>
    obtain⟨g,hg,rfl,hbq⟩:=hrel
    have hg0:(0:Int)≤(g:Int):=Int.natCast_nonneg g
    have x3:=(HX3.out.but hbq.out (fun f=>f)).cell (o:=3) rfl
    have y3:=(HX4.out.but hbq.out (fun f=>f)).cell (o:=3) rfl
    by_cases hgm:g<m
    ·have gm':(g:Int)<(m:Int):=by omega
     obtain⟨⟨p,q,r⟩,hx⟩:∃ x,l[g]? = some x:=⟨_,List.getElem?_eq_getElem (by rw[HM.out];exact hgm)⟩
     obtain⟨b1,off1,rfl,p0,p1,p2⟩:=sec_at (HR3.out.no (HB3.out.trans hbq.out)) hx
     obtain⟨b2,off2,rfl,q0,q1,q2⟩:=sec_at (HR4.out.no (HB3.out.trans hbq.out)) hx
     have hop:=nsc_run p q r
     clear hx
     dsimp only at p0 p1 p2 q0 q1 q2
     go_wp2_with fail
     go_quiet (fail)
     go_wp2
     go_roundw
     case rel=>exact⟨g+1,by omega,by go_num,hid (hbq.out.drewN _)⟩
     case measure=>simp[intOf];omega
    ·have hgM:g=m:=by omega
     subst hgM
     go_wp2
     refine⟨⟨k+1,by omega,by go_num,hid (hbw.out.trans (HB3.out.trans hbq.out))⟩,by simp[intOf];omega⟩
  ·have hkn:k=n:=by omega
   subst hkn
   go_wp2
   go_ret
   exact⟨rfl,HB1.out.trans hbw.out⟩
theorem npc_run (a b c d:Int) (e:Bool) (W:World):(binOp BinOp.neq 42 (.agg #[.int .i64 a,.int .i64 b,.int .i64 c,.int .i64 d,.bool e]) (.agg #[.int .i64 a,.int .i64 b,.int .i64 c,.int .i64 d,.bool e])).run Tryz.prog W=.ok (.bool false) W:=by simp[go_sem]
set_option maxRecDepth 100000 in
set_option maxHeartbeats 16000000 in
theorem same_eq (s:Sys) (es:List En) (ce:List (List Int)) (A:Option Addr) (n c:Nat) (E:Option Addr) (m d:Nat) (C:Option Addr) (q f:Nat) (A2:Option Addr) (c2:Nat) (E2:Option Addr) (d2:Nat) (C2:Option Addr) (f2:Nat) (w:World)
  (hs:RSys w A n c s) (he:REn w E m es) (hc:RNs w C q ce) (hs2:RSys w A2 n c2 s) (he2:REn w E2 m es) (hc2:RNs w C2 q ce) :
  Calls Tryz.prog 12 #[tbV s A n c E m d C q f,tbV s A2 n c2 E2 m d2 C2 q f2] w fun e w'=>e=.returned (.bool true)∧But No w w':=by
 obtain⟨W1,hW1⟩:∃ W1,(w.alloc (.cells (boxT11 s A n c E m d C q f) 31)).alloc (.cells (boxT11 s A2 n c2 E2 m d2 C2 q f2) 31)=W1:=⟨_,rfl⟩
 have HB1:Hid (But No w W1):=hid (by rw[←hW1];exact((But.refl No w).alloc _).alloc _)
 have HX1:Hid (Blk W1 w.heap.size (boxT11 s A n c E m d C q f) 31):=hid (by rw[←hW1];exact(Blk.new w _ _).alloc _)
 have HX2:Hid (Blk W1 (w.heap.size+1) (boxT11 s A2 n c2 E2 m d2 C2 q f2) 31):=hid (by rw[←hW1];exact blk2 w _ _ _)
 have CS:=hid (fun W (hb:But No w W)=>system_eq s A n c A2 c2 W (hs.no hb) (hs2.no hb))
 have HE:=hid he
 have HE2:=hid he2
 have HC:=hid hc
 have HC2:=hid hc2
 have HM:Hid (es.length=m):=he.len
 have HQ:Hid (ce.length=q):=hc.len
 have hmm:=he.max
 have hqm:=hc.max
 clear hs he hc hs2 he2 hc2
 obtain⟨B,hB⟩:∃ B,w.heap.size=B:=⟨_,rfl⟩
 rw[hB] at HX1 HX2
 have bb:=tb_cells HX1.out
 have bb2:=tb_cells HX2.out
 dsimp only[tbV,sysV,boxT11] at hW1 CS ⊢
 have d0:((m:Int) != (m:Int))=false:=by simp
 have d1:((q:Int) != (q:Int))=false:=by simp
 have d2:((n:Int) != (n:Int))=false:=by simp
 go_enter Tryz.func12,Tryz.ntmps12
 go_wp2_with fail
 clear hW1 hB bb bb2 d0 d1 d2
 go_loopw [5] (fun i wr=>∃ k:Nat,k≤m∧i=.int .i64 k∧Hid (But No W1 wr)) (fun i _=>m-(intOf i).toNat)
 case atStart=>exact⟨0,by omega,rfl,But.refl _ _⟩
 case round =>
  obtain⟨k,hk,rfl,hbw⟩:=hrel
  have hk0:(0:Int)≤(k:Int):=Int.natCast_nonneg k
  have bb:=tb_cells (s:=s) (HX1.out.but hbw.out (fun f=>f))
  have bb2:=tb_cells (s:=s) (HX2.out.but hbw.out (fun f=>f))
  by_cases hlt:k<m
  ·have kn':(k:Int)<(m:Int):=by omega
   obtain⟨t,ht⟩:∃ t,es[k]? = some t:=⟨_,List.getElem?_eq_getElem (by rw[HM.out];exact hlt)⟩
   have hB:=HB1.out.trans hbw.out
   obtain⟨b,off,A3,c3,rfl,_,t0,t1,_,hr3⟩:=(HE.out.no hB).at1 ht
   obtain⟨b',off',A4,c4,rfl,_,u0,u1,_,hr4⟩:=(HE2.out.no hB).at1 ht
   have hsm:=hr3.max
   have HR3:=hid hr3
   have HR4:=hid hr4
   clear ht hr3 hr4 hB
   obtain⟨l,hl⟩:∃ l,t.ps=l:=⟨_,rfl⟩
   rw[hl] at t0 u0 HR3 HR4 hsm
   clear hl
   obtain⟨z,hz⟩:∃ z,l.length=z:=⟨_,rfl⟩
   rw[hz] at t0 u0 HR3 HR4 hsm
   have HL:=hid hz
   clear hz
   obtain⟨W2,hW2⟩:∃ W2,wr.alloc (.cells #[.slice A3 z c3,.int .i64 t.bo] 40)=W2:=⟨_,rfl⟩
   have hb2:But No wr W2:=by rw[←hW2];exact(But.refl No wr).alloc _
   have h2:Blk W2 wr.heap.size #[.slice A3 z c3,.int .i64 t.bo] 40:=by rw[←hW2];exact Blk.new wr _ _
   replace bb2:=tb_cells (s:=s) (HX2.out.but (hbw.out.trans hb2) (fun f=>f))
   replace u0:=cell_keep u0 hb2
   replace u1:=cell_keep u1 hb2
   obtain⟨W3,hW3⟩:∃ W3,W2.alloc (.cells #[.slice A4 z c4,.int .i64 t.bo] 40)=W3:=⟨_,rfl⟩
   have hb23:But No W2 W3:=by rw[←hW3];exact(But.refl No W2).alloc _
   have HB3:Hid (But No wr W3):=hid (hb2.trans hb23)
   have h3:Blk W3 wr.heap.size #[.slice A3 z c3,.int .i64 t.bo] 40:=h2.but hb23 (fun f=>f)
   have h4:Blk W3 W2.heap.size #[.slice A4 z c4,.int .i64 t.bo] 40:=by rw[←hW3];exact Blk.new W2 _ _
   have HX3:=hid h3
   have HX4:=hid h4
   obtain⟨x0,x1⟩:W3.cell? ⟨wr.heap.size,0,none⟩=some (.slice A3 z c3)∧W3.cell? ⟨wr.heap.size,1,none⟩=some (.int .i64 t.bo):=⟨h3.cell rfl,h3.cell rfl⟩
   obtain⟨y0,y1⟩:W3.cell? ⟨W2.heap.size,0,none⟩=some (.slice A4 z c4)∧W3.cell? ⟨W2.heap.size,1,none⟩=some (.int .i64 t.bo):=⟨h4.cell rfl,h4.cell rfl⟩
   have d0:((z:Int) != (z:Int))=false:=by simp
   clear h2 h3 h4 hb2 hb23
   obtain⟨X,hX⟩:∃ X,wr.heap.size=X:=⟨_,rfl⟩
   obtain⟨Y,hY⟩:∃ Y,W2.heap.size=Y:=⟨_,rfl⟩
   rw[hX] at x0 x1 HX3
   rw[hY] at y0 y1 HX4
   go_wp2_with fail
   clear hW2 hW3 hX hY x0 x1 y0 y1 t0 t1 u0 u1 bb bb2
   go_loopw [8] (fun i wq=>∃ g:Nat,g≤z∧i=.int .i64 g∧Hid (But No W3 wq)) (fun i _=>z-(intOf i).toNat)
   case atStart=>exact⟨0,by omega,rfl,But.refl _ _⟩
   case round =>
    obtain⟨g,hg,rfl,hbq⟩:=hrel
    have hg0:(0:Int)≤(g:Int):=Int.natCast_nonneg g
    have x0:=(HX3.out.but hbq.out (fun f=>f)).cell (o:=0) rfl
    have y0:=(HX4.out.but hbq.out (fun f=>f)).cell (o:=0) rfl
    by_cases hgm:g<z
    ·have gm':(g:Int)<(z:Int):=by omega
     obtain⟨x,hx⟩:∃ x,l[g]? = some x:=⟨_,List.getElem?_eq_getElem (by rw[HL.out];exact hgm)⟩
     obtain⟨b1,off1,rfl,_,p0,p1,p2,p3,p4⟩:=(HR3.out.no (HB3.out.trans hbq.out)).at1 hx
     obtain⟨b2,off2,rfl,_,q0,q1,q2,q3,q4⟩:=(HR4.out.no (HB3.out.trans hbq.out)).at1 hx
     have hop:=npc_run x.co x.bu x.de x.pr x.ti
     clear hx
     go_wp2_with fail
     go_quiet (fail)
     go_wp2
     go_roundw
     case rel=>exact⟨g+1,by omega,by go_num,hid (hbq.out.drewN _)⟩
     case measure=>simp[intOf];omega
    ·have hgM:g=z:=by omega
     subst hgM
     go_wp2
     refine⟨⟨k+1,by omega,by go_num,hid (hbw.out.trans (HB3.out.trans hbq.out))⟩,by simp[intOf];omega⟩
  ·have hkn:k=m:=by omega
   subst hkn
   obtain⟨W4,hW4⟩:∃ W4,wr=W4:=⟨_,rfl⟩
   subst hW4
   go_wp2_with fail
   clear bb bb2
   go_loopw [9] (fun i wq=>∃ g:Nat,g≤q∧i=.int .i64 g∧Hid (But No W1 wq)) (fun i _=>q-(intOf i).toNat)
   case atStart=>exact⟨0,by omega,rfl,hbw⟩
   case round =>
    obtain⟨g,hg,rfl,hbq⟩:=hrel
    have hg0:(0:Int)≤(g:Int):=Int.natCast_nonneg g
    have bb:=tb_cells (s:=s) (HX1.out.but hbq.out (fun f=>f))
    have bb2:=tb_cells (s:=s) (HX2.out.but hbq.out (fun f=>f))
    by_cases hgq:g<q
    ·have gq':(g:Int)<(q:Int):=by omega
     obtain⟨x,hx⟩:∃ x,ce[g]? = some x:=⟨_,List.getElem?_eq_getElem (by rw[HQ.out];exact hgq)⟩
     obtain⟨b1,off1,A5,c5,rfl,_,u0,_,hp⟩:=(HC.out.no (HB1.out.trans hbq.out)).at1 hx
     obtain⟨b2,off2,A6,c6,rfl,_,v0,_,hr⟩:=(HC2.out.no (HB1.out.trans hbq.out)).at1 hx
     have HP:=hid hp
     have HR:=hid hr
     have hxm:=hp.max
     have U0:=hid u0
     have V0:=hid v0
     clear hx hp hr
     obtain⟨N,hN⟩:∃ N,x.length=N:=⟨_,rfl⟩
     rw[hN] at u0 v0 HP HR hxm U0 V0
     have HN:=hid hN
     clear hN
     have d2:((N:Int) != (N:Int))=false:=by simp
     obtain⟨W6,hW6⟩:∃ W6,W6=wr:=⟨_,rfl⟩
     go_wp2_with fail
     go_quiet (fail)
     go_wp2
     clear bb bb2 u0 v0
     go_loopw [10] (fun i wk=>∃ a:Nat,a≤N∧i=.int .i64 a∧Hid (But No W6 wk)) (fun i _=>N-(intOf i).toNat)
     case atStart=>exact⟨0,by omega,rfl,hid (by rw[hW6];exact(But.refl No wr).drewN _)⟩
     case round =>
      subst hW6
      obtain⟨a,ha,rfl,hbk⟩:=hrel
      have ha0:(0:Int)≤(a:Int):=Int.natCast_nonneg a
      have u0:=cell_keep U0.out hbk.out
      have v0:=cell_keep V0.out hbk.out
      have bb:=tb_cells (s:=s) (HX1.out.but (hbq.out.trans hbk.out) (fun f=>f))
      have bb2:=tb_cells (s:=s) (HX2.out.but (hbq.out.trans hbk.out) (fun f=>f))
      by_cases haN:a<N
      ·have aN':(a:Int)<(N:Int):=by omega
       obtain⟨y,hy⟩:∃ y,x[a]? = some y:=⟨_,List.getElem?_eq_getElem (by rw[HN.out];exact haN)⟩
       obtain⟨b7,off7,rfl,_,p0⟩:=(HP.out.no hbk.out).at_ (by omega)
       obtain⟨b8,off8,rfl,_,q0⟩:=(HR.out.no hbk.out).at_ (by omega)
       replace p0:=p0 a haN
       replace q0:=q0 a haN
       rw[getD_at hy] at p0 q0
       have hop:(y != y)=false:=by simp
       clear hy
       go_wp2_with fail
       go_quiet (fail)
       go_wp2
       go_roundw
       case rel=>exact⟨a+1,by omega,by go_num,hid (hbk.out.drewN _)⟩
       case measure=>simp[intOf];omega
      ·have haq:a=N:=by omega
       subst haq
       go_wp2
       refine⟨⟨g+1,by omega,by go_num,hid (hbq.out.trans hbk.out)⟩,by simp[intOf];omega⟩
    ·have hgQ:g=q:=by omega
     subst hgQ
     have CSY:=hid (CS.out _ (HB1.out.trans hbq.out))
     go_wp2_with (go_at_call 31;refine CSY.out.mono ?_;rintro e w5 ⟨rfl,hb5⟩;have HB5:=hid hb5;clear hb5 bb bb2)
     go_ret
     exact⟨rfl,(HB1.out.trans hbq.out).trans HB5.out⟩
end Go.Proofs.YtikcigjbhohboaaGreat.tbl
end
section
namespace Go.Proofs.YtikcigjbhohboaaGreat.tbl
open Go.Lib (hid)
set_option linter.unusedSimpArgs false
set_option linter.unusedVariables false
open Go.ChangeShapes Go.WideShapes Go.ChangeAt Go.RowKit Go.Deep val ter pln
namespace tableMakes
theorem row_u {w W:World} {v:Value} {vs:List Value} {Ls:List (List Pc)} {i:Nat} {l:List Pc} {u:Value} (h:RoP w W v vs Ls) (hu:vs[i]? = some u) (hl:Ls[i]? = some l) :
  ∃ A' c',u=.slice A' l.length c'∧(∀ z,(∃ o,A'=some ⟨z,o,none⟩)→0<l.length→¬Ud vs i z∧Ud vs (i+1) z)∧(0<l.length→∃ z,A'=some ⟨z,0,none⟩∧Lv W z (l.length*5)):=by
 have ho:=(h.own i u l hu hl).1
 obtain⟨A',c',e⟩:=owns_slice (show W.ownsRow 0 42 5 u l.length _ from ho)
 subst e
 refine⟨A',c',rfl,fun z ⟨o,e⟩ hp=>?_,fun hp=>?_⟩
 ·subst e
  have hz:(Value.slice (some ⟨z,o,none⟩) l.length c').ownBlock=some z:=rfl
  exact⟨fun ⟨j,u2,h1,h2,h3⟩=>by have:=h.dis j i u2 _ z h2 hu h3 hz;omega,i,_,by omega,hu,hz⟩
 ·obtain⟨z,h1,h2⟩:=owns_lv (show W.ownsRow 0 42 5 (.slice A' l.length c') l.length _ from ho) hp
  exact⟨z,h1,h2⟩
structure Wb (W w':World) (E:Option Addr) (m:Nat) (vs:List Value) (Ls:List (List Pc)):Prop where
 len:Ls.length=m
 vlen:vs.length=m
 sm:∀ l ∈ Ls,l.length≤8
 row:∀ (j:Nat) (u:Value) (l:List Pc),vs[j]? = some u→Ls[j]? = some l→∃ A' c',u=.slice A' l.length c'∧(∀ z,(∃ o,A'=some ⟨z,o,none⟩)→0<l.length→¬Ud vs j z∧Ud vs (j+1) z)∧(0<l.length→∃ z,A'=some ⟨z,0,none⟩∧Lv w' z (l.length*5))
 at_:∀ (j:Nat) (u:Value),vs[j]? = some u→∃ g,E=some ⟨g,0,none⟩∧g<w'.heap.size∧(∀ i,¬Ud vs i g)∧w'.cell? ⟨g,j*2,none⟩=some u
 new:∀ i z,Ud vs i z→W.heap.size≤z∧z<w'.heap.size
theorem wb_nil (W w':World) (E:Option Addr):Wb W w' E 0 [] []:=⟨rfl,rfl,by simp,fun j u l h=>by simp at h,fun j u h=>by simp at h,fun i z ⟨j,u,_,h,_⟩=>by simp at h⟩
theorem wb_of {w w':World} {s:Sys} {n:Nat} {L:List (List Pc)} {zs:List Int} {g9 c9 g:Nat} {AZ:Option Addr} {q fZ:Nat} (h:MkT w w' s n L zs g9 c9 g AZ q fZ) (hL:(rkV s L).length=n) (h8:∀ m ∈ rkV s L,m.length≤8):∃ vs,Wb w w' (some ⟨g,0,none⟩) n vs (rkV s L)∧∃ v,RoP w w' v vs (rkV s L)∧Rf w' g 40 (n*2) (fun j=>if j % 2=0 then vs.getD (j/2) (.slice none 0 0) else .int .i64 (zs.getD (j/2) 0)):=by
 obtain⟨v,vs,hro,hg,hrf,hnb⟩:=h.rows
 refine⟨vs,⟨hL,by rw[hro.len,hL],h8,fun j u l hu hl=>row_u hro hu hl,fun j u hu=>⟨g,rfl,hrf.lt,fun i ⟨j',u',_,hu',e⟩=>hnb u' (List.mem_of_getElem? hu') g e rfl,?_⟩,fun i z hz=>⟨(hro.ud hz).1,?_⟩⟩,v,hro,hrf⟩
 ·have hj:j<n:=by rw[←hL,←hro.len];exact(List.getElem?_eq_some_iff.1 hu).1
  rw[hrf.cell (by omega)]
  show some (if _ then _ else _)=_;rw[if_pos (by omega),show j*2/2=j by omega];simp[List.getD,hu]
 ·obtain⟨j,u,_,hu,e⟩:=hz
  exact hro.rows hu e
set_option maxRecDepth 100000 in
set_option maxHeartbeats 16000000 in
theorem turn_ok (s:Sys) (A:Option Addr) (n c:Nat) (A':Option Addr) (N c':Nat) (D:Option Addr) (z cz:Nat) (w:World) (s0:Sys) (n0 m q:Nat) (es:List En) (ce:List (List Int)) (hmm:m≤9223372036854775807)
  (C1:∀ W,But No w W→Calls Tryz.prog 10 #[sysV s A n c,.slice A' N c',.slice D z cz] W fun e w'=>∃ a c0 E d AZ f,e=.returned (.tuple #[tbV s0 a n0 c0 E m d AZ q f,.bool true])∧But No W w'∧RSys w' a n0 c0 s0∧REn w' E m es∧RNs w' AZ q ce)
  (C2:∀ W,But No w W→Calls Tryz.prog 11 #[sysV s A n c,.slice A' N c',.slice D z cz] W fun e w'=>∃ a c0 E d AZ f vs Ls,e=.returned (.tuple #[tbV s0 a n0 c0 E m d AZ q f,.int .i64 0])∧But No W w'∧RSys w' a n0 c0 s0∧REn w' E m es∧RNs w' AZ q ce∧Wb W w' E m vs Ls) :
  Calls Tryz.prog 3 #[sysV s A n c,.slice A' N c',.slice D z cz] w fun e w'=>e=.returned (.bool true)∧But No w w':=by
 have CX:Hid (∀ W,Calls Tryz.prog 9 #[] W fun e w'=>e=.returned (.bool true)∧But No W w'):=hid (fun W=>examples_ok W)
 have CS:Hid (∀ (W:World) a c0 E d AZ f a2 c2 E2 d2 AZ2 f2,RSys W a n0 c0 s0→REn W E m es→RNs W AZ q ce→RSys W a2 n0 c2 s0→REn W E2 m es→RNs W AZ2 q ce→Calls Tryz.prog 12 #[tbV s0 a n0 c0 E m d AZ q f,tbV s0 a2 n0 c2 E2 m d2 AZ2 q f2] W fun e w'=>e=.returned (.bool true)∧But No W w'):=hid (fun W a c0 E d AZ f a2 c2 E2 d2 AZ2 f2 h1 h2 h3 h4 h5 h6=>same_eq s0 es ce a n0 c0 E m d AZ q f a2 c2 E2 d2 AZ2 f2 W h1 h2 h3 h4 h5 h6)
 have CP1:=hid C1
 have CP2:=hid C2
 have HX:=hid (Blk.new w (boxS s A n c) 24)
 have HB0:=hid ((But.refl No w).alloc (.cells (boxS s A n c) 24))
 clear C1 C2
 dsimp only[sysV,tbV,boxS] at CP1 CP2 CS HB0 ⊢
 obtain⟨B,hB⟩:∃ B,w.heap.size=B:=⟨_,rfl⟩
 rw[hB] at HX
 go_enter Tryz.func3,Tryz.ntmps3
 go_upto_region 2 with(go_at_call 9;refine(CX.out _).mono ?_;rintro e w1 ⟨rfl,h1⟩;have H1:=hid (HB0.out.trans h1);have HX1:=hid (HX.out.but h1 (fun f=>f));have bb:=sys_cells HX1.out;clear h1)
 go_upto_region 3 with(go_at_call 10;refine(CP1.out _ H1.out).mono ?_;rintro e w2 ⟨a1,e1,E1,d1,Z1,f1,rfl,h2,r1,r2,r3⟩;obtain⟨W2,hW2⟩:∃ W2,w2.alloc (.cells #[.int .i64 s0.co,.int .i64 s0.po,.int .i64 s0.pr,.int .i64 s0.re,.int .i64 s0.sw,.int .i64 s0.fi,.int .i64 s0.la,.int .i64 s0.rs,.slice a1 n0 e1,.slice E1 m d1,.slice Z1 q f1] 31)=W2:=⟨_,rfl⟩;have h22:But No w2 W2:=(by rw[←hW2];exact(But.refl No w2).alloc _);have HT2:Hid (Blk W2 w2.heap.size (boxT11 s0 a1 n0 e1 E1 m d1 Z1 q f1) 31):=hid (by rw[←hW2];exact Blk.new w2 _ _);have H2:=hid (H1.out.trans (h2.trans h22));have HX2:=hid (HX1.out.but (h2.trans h22) (fun f=>f));have R1:=hid (r1.no h22);have R2:=hid (r2.no h22);have R3:=hid (r3.no h22);clear h2 r1 r2 r3 h22 bb)
 obtain⟨P,hP⟩:∃ P,w2.heap.size=P:=⟨_,rfl⟩
 rw[hP] at HT2 ⊢
 go_wp2_with fail
 clear hW2 hP
 go_loopw [10] (fun i wr=>∃ k:Nat,i=.int .i64 (k:Int)∧k≤2∧Hid (But No W2 wr)) (fun i _=>2-(intOf i).toNat)
 case atStart=>exact⟨0,rfl,by omega,But.refl _ _⟩
 case round =>
  obtain⟨k,rfl,hk,hbw⟩:=hrel
  have hk0:(0:Int)≤(k:Int):=Int.natCast_nonneg k
  have bb:=sys_cells (HX2.out.but hbw.out (fun f=>f))
  by_cases hk2:k<2
  ·have hk3:(k:Int)<2:=by omega
   go_upto_region 7 with(go_at_call 11;refine(CP2.out _ (H2.out.trans hbw.out)).mono ?_;rintro e w4 ⟨a3,e3,E3,d3,Z3,f3,vs,Ls,rfl,h4,r1,r2,r3,hwb⟩;obtain⟨W5,hW5⟩:∃ W5,w4.alloc (.cells #[.int .i64 s0.co,.int .i64 s0.po,.int .i64 s0.pr,.int .i64 s0.re,.int .i64 s0.sw,.int .i64 s0.fi,.int .i64 s0.la,.int .i64 s0.rs,.slice a3 n0 e3,.slice E3 m d3,.slice Z3 q f3] 31)=W5:=⟨_,rfl⟩;have h45:But No w4 W5:=(by rw[←hW5];exact(But.refl No w4).alloc _);have HT5:Hid (Blk W5 w4.heap.size (boxT11 s0 a3 n0 e3 E3 m d3 Z3 q f3) 31):=hid (by rw[←hW5];exact Blk.new w4 _ _);have H4:=hid h4;have H45:=hid h45;have HP5:=hid (HT2.out.but (hbw.out.trans (h4.trans h45)) (fun f=>f));have tt:=tb_cells HT5.out;have pp:=tb_cells HP5.out;have Q1:=hid (r1.no h45);have Q2:=hid (r2.no h45);have Q3:=hid (r3.no h45);have HWB:=hid hwb;clear h4 h45 r1 r2 r3 hwb bb)
   obtain⟨X,hX⟩:∃ X,w4.heap.size=X:=⟨_,rfl⟩
   have HXX:=hid hX
   rw[hX] at HT5 tt ⊢
   have CSS:=hid (CS.out W5 a3 e3 E3 d3 Z3 f3 a1 e1 E1 d1 Z1 f1 Q1.out Q2.out Q3.out (R1.out.no (hbw.out.trans (H4.out.trans H45.out))) (R2.out.no (hbw.out.trans (H4.out.trans H45.out))) (R3.out.no (hbw.out.trans (H4.out.trans H45.out))))
   go_upto_region 8 with(go_at_call 12;refine CSS.out.mono ?_;rintro e w6 ⟨rfl,h6⟩;have H6:=hid h6;have HT6:=hid (HT5.out.but h6 (fun f=>f));clear h6 tt pp)
   clear hW5 hX
   have HO6:Hid (But No W2 w6):=hid (hbw.out.trans (H4.out.trans (H45.out.trans H6.out)))
   have HNV:Hid (∀ i z,Ud vs i z→W2.heap.size≤z∧z<X):=hid (fun i z hz=>by
    have h1:=HWB.out.new i z hz
    have h2:=hbw.out.size
    have h3:=HXX.out
    omega)
   have HTX:Hid (∀ i W,But (Ud vs i) w6 W→T11 W X s0 a3 n0 e3 E3 m d3 Z3 q f3):=hid (fun i W hb=>tb_cells (HT6.out.but hb (fun h=>absurd (HNV.out _ _ h).2 (by omega))))
   clear CSS Q1 Q2 Q3 HP5 HT5
   go_wp2_with fail
   go_loopw [14] (fun x wx=>∃ j:Nat,x=.int .i64 (j:Int)∧j≤m∧Hid (But (Ud vs j) w6 wx)) (fun x _=>m-(intOf x).toNat)
   case atStart=>exact⟨0,rfl,by omega,But.refl _ _⟩
   case round =>
    obtain⟨j,rfl,hj,hb4⟩:=hrel
    have hj0:(0:Int)≤(j:Int):=Int.natCast_nonneg j
    by_cases hjm:j<m
    ·have hj2:(j:Int)<(m:Int):=by omega
     obtain⟨u,hu⟩:∃ u,vs[j]? = some u:=⟨_,List.getElem?_eq_getElem (by rw[HWB.out.vlen];exact hjm)⟩
     obtain⟨l,hl⟩:∃ l,Ls[j]? = some l:=⟨_,List.getElem?_eq_getElem (by rw[HWB.out.len];exact hjm)⟩
     have hl8:=HWB.out.sm l (List.mem_of_getElem? hl)
     obtain⟨AR,cR,rfl,hud,hlv⟩:=HWB.out.row j u l hu hl
     obtain⟨g,hE,hgl,hgu,hgc⟩:=HWB.out.at_ j _ hu
     subst hE
     have tt:=HTX.out j wr hb4.out
     obtain⟨ml,hml⟩:∃ ml,l.length=ml:=⟨_,rfl⟩
     rw[hml] at hl8 hgc hud hlv
     have E0:Hid (∀ W,But (Ud vs (j+1)) w6 W→W.cell? ⟨g,j*2,none⟩=some (.slice AR ml cR)):=hid (fun W hW=>by
      have h1:=H45.out.size
      have h2:=H6.out.size
      rw[hW.cell (by omega) (hgu _)]
      exact cell_keep hgc (H45.out.trans H6.out))
     have HLV:Hid (∀ z,AR=some ⟨z,0,none⟩→0<ml→Lv wr z (ml*5)∧Ud vs (j+1) z):=hid (fun z hz h0=>by
      obtain⟨z',h7,h8⟩:=hlv h0
      rw[h7] at hz
      cases hz
      exact⟨(h8.but (H45.out.trans H6.out) (fun f=>f)).but hb4.out (hud _ ⟨0,h7⟩ h0).1,(hud _ ⟨0,h7⟩ h0).2⟩)
     have HUP:Hid (But (Ud vs (j+1)) w6 wr):=hid (hb4.out.mono (fun z _ hz=>hz.more))
     have HAR:Hid (0<ml→∃ z,AR=some ⟨z,0,none⟩):=hid (fun h0=>by obtain⟨z,h7,_⟩:=hlv h0;exact⟨z,h7⟩)
     have e1:=E0.out wr HUP.out
     clear hgc hgu hgl hud hlv hl hml hu
     go_wp2_with fail
     clear e1 tt
     go_loopw [15] (fun x wy=>∃ i:Nat,x=.int .i64 (i:Int)∧i≤ml∧Hid (But (Ud vs (j+1)) w6 wy∧∀ z,AR=some ⟨z,0,none⟩→0<ml→Lv wy z (ml*5)∧Ud vs (j+1) z)) (fun x _=>ml-(intOf x).toNat)
     case atStart=>exact⟨0,rfl,by omega,HUP.out,HLV.out⟩
     case round =>
      clear HUP HLV
      obtain⟨i,rfl,hi,HI5⟩:=hrel
      have hi0:(0:Int)≤(i:Int):=Int.natCast_nonneg i
      have e1:=E0.out wr HI5.out.1
      have tt:=HTX.out (j+1) wr HI5.out.1
      by_cases him:i<ml
      ·have hi2:(i:Int)<(ml:Int):=by omega
       obtain⟨z,hz⟩:=HAR.out (by omega)
       obtain⟨hlv,hudz⟩:=HI5.out.2 z hz (by omega)
       obtain⟨⟨u0,f0⟩,g0⟩:=hlv.cell (o:=i*5) (by omega)
       obtain⟨⟨u1,f1⟩,g1⟩:=hlv.cell (o:=i*5+1) (by omega)
       obtain⟨⟨u2,f2⟩,g2⟩:=hlv.cell (o:=i*5+2) (by omega)
       obtain⟨⟨u3,f3⟩,g3⟩:=hlv.cell (o:=i*5+3) (by omega)
       obtain⟨⟨u4,f4⟩,g4⟩:=hlv.cell (o:=i*5+4) (by omega)
       have HNX:=hid (ro_five (v0:=.int .i64 0) (v1:=.int .i64 0) (v2:=.int .i64 0) (v3:=.int .i64 0) (v4:=.bool false) (o:=i*5) HI5.out.1 hlv hudz)
       have HUZ:=hid hudz
       subst hz
       clear hlv hudz
       go_wp2_with fail
       go_roundw
       case rel=>exact⟨i+1,by go_num,by omega,HNX.out.1,fun z' hz' _=>by cases hz';exact⟨HNX.out.2,HUZ.out⟩⟩
       case measure=>simp[intOf];omega
      ·have hie:i=ml:=by omega
       subst hie
       go_wp2_with fail
       refine⟨⟨j+1,by go_num,by omega,HI5.out.1⟩,?_⟩
       simp[intOf];omega
    ·have hje:j=m:=by omega
     subst hje
     have tt:=HTX.out j wr hb4.out
     have HFI:Hid (But No W2 wr):=hid (HO6.out.andThen' hb4.out (fun z _ hz=>(HNV.out j z hz).1))
     go_wp2_with fail
     refine⟨⟨k+1,by go_num,by omega,HFI⟩,?_⟩
     simp[intOf];omega
  ·have hke:k=2:=by omega
   subst hke
   go_wp2_with fail
   go_ret
   exact⟨rfl,H2.out.trans hbw.out⟩
set_option maxRecDepth 100000 in
set_option maxHeartbeats 16000000 in
theorem turn_no (s:Sys) (A:Option Addr) (n c:Nat) (A':Option Addr) (N c':Nat) (D:Option Addr) (z cz:Nat) (w:World) (s0:Sys) (n0 m q:Nat) (es:List En) (ce:List (List Int)) (hmm:m≤9223372036854775807)
  (C1:∀ W,But No w W→Calls Tryz.prog 10 #[sysV s A n c,.slice A' N c',.slice D z cz] W fun e w'=>∃ a c0 E d AZ f,e=.returned (.tuple #[tbV s0 a n0 c0 E m d AZ q f,.bool false])∧But No W w'∧RSys w' a n0 c0 s0∧REn w' E m es∧RNs w' AZ q ce)
  (C2:∀ W,But No w W→Calls Tryz.prog 11 #[sysV s A n c,.slice A' N c',.slice D z cz] W fun e w'=>∃ a c0 E d AZ f vs Ls,e=.returned (.tuple #[tbV s0 a n0 c0 E m d AZ q f,.int .i64 1])∧But No W w'∧RSys w' a n0 c0 s0∧REn w' E m es∧RNs w' AZ q ce∧Wb W w' E m vs Ls) :
  Calls Tryz.prog 3 #[sysV s A n c,.slice A' N c',.slice D z cz] w fun e w'=>e=.returned (.bool true)∧But No w w':=by
 have CX:Hid (∀ W,Calls Tryz.prog 9 #[] W fun e w'=>e=.returned (.bool true)∧But No W w'):=hid (fun W=>examples_ok W)
 have CS:Hid (∀ (W:World) a c0 E d AZ f a2 c2 E2 d2 AZ2 f2,RSys W a n0 c0 s0→REn W E m es→RNs W AZ q ce→RSys W a2 n0 c2 s0→REn W E2 m es→RNs W AZ2 q ce→Calls Tryz.prog 12 #[tbV s0 a n0 c0 E m d AZ q f,tbV s0 a2 n0 c2 E2 m d2 AZ2 q f2] W fun e w'=>e=.returned (.bool true)∧But No W w'):=hid (fun W a c0 E d AZ f a2 c2 E2 d2 AZ2 f2 h1 h2 h3 h4 h5 h6=>same_eq s0 es ce a n0 c0 E m d AZ q f a2 c2 E2 d2 AZ2 f2 W h1 h2 h3 h4 h5 h6)
 have CP1:=hid C1
 have CP2:=hid C2
 have HX:=hid (Blk.new w (boxS s A n c) 24)
 have HB0:=hid ((But.refl No w).alloc (.cells (boxS s A n c) 24))
 clear C1 C2
 dsimp only[sysV,tbV,boxS] at CP1 CP2 CS HB0 ⊢
 obtain⟨B,hB⟩:∃ B,w.heap.size=B:=⟨_,rfl⟩
 rw[hB] at HX
 go_enter Tryz.func3,Tryz.ntmps3
 go_upto_region 2 with(go_at_call 9;refine(CX.out _).mono ?_;rintro e w1 ⟨rfl,h1⟩;have H1:=hid (HB0.out.trans h1);have HX1:=hid (HX.out.but h1 (fun f=>f));have bb:=sys_cells HX1.out;clear h1)
 go_upto_region 3 with(go_at_call 10;refine(CP1.out _ H1.out).mono ?_;rintro e w2 ⟨a1,e1,E1,d1,Z1,f1,rfl,h2,r1,r2,r3⟩;obtain⟨W2,hW2⟩:∃ W2,w2.alloc (.cells #[.int .i64 s0.co,.int .i64 s0.po,.int .i64 s0.pr,.int .i64 s0.re,.int .i64 s0.sw,.int .i64 s0.fi,.int .i64 s0.la,.int .i64 s0.rs,.slice a1 n0 e1,.slice E1 m d1,.slice Z1 q f1] 31)=W2:=⟨_,rfl⟩;have h22:But No w2 W2:=(by rw[←hW2];exact(But.refl No w2).alloc _);have HT2:Hid (Blk W2 w2.heap.size (boxT11 s0 a1 n0 e1 E1 m d1 Z1 q f1) 31):=hid (by rw[←hW2];exact Blk.new w2 _ _);have H2:=hid (H1.out.trans (h2.trans h22));have HX2:=hid (HX1.out.but (h2.trans h22) (fun f=>f));have R1:=hid (r1.no h22);have R2:=hid (r2.no h22);have R3:=hid (r3.no h22);clear h2 r1 r2 r3 h22 bb)
 obtain⟨P,hP⟩:∃ P,w2.heap.size=P:=⟨_,rfl⟩
 rw[hP] at HT2 ⊢
 go_wp2_with fail
 clear hW2 hP
 go_loopw [10] (fun i wr=>∃ k:Nat,i=.int .i64 (k:Int)∧k≤2∧Hid (But No W2 wr)) (fun i _=>2-(intOf i).toNat)
 case atStart=>exact⟨0,rfl,by omega,But.refl _ _⟩
 case round =>
  obtain⟨k,rfl,hk,hbw⟩:=hrel
  have hk0:(0:Int)≤(k:Int):=Int.natCast_nonneg k
  have bb:=sys_cells (HX2.out.but hbw.out (fun f=>f))
  by_cases hk2:k<2
  ·have hk3:(k:Int)<2:=by omega
   go_upto_region 7 with(go_at_call 11;refine(CP2.out _ (H2.out.trans hbw.out)).mono ?_;rintro e w4 ⟨a3,e3,E3,d3,Z3,f3,vs,Ls,rfl,h4,r1,r2,r3,hwb⟩;obtain⟨W5,hW5⟩:∃ W5,w4.alloc (.cells #[.int .i64 s0.co,.int .i64 s0.po,.int .i64 s0.pr,.int .i64 s0.re,.int .i64 s0.sw,.int .i64 s0.fi,.int .i64 s0.la,.int .i64 s0.rs,.slice a3 n0 e3,.slice E3 m d3,.slice Z3 q f3] 31)=W5:=⟨_,rfl⟩;have h45:But No w4 W5:=(by rw[←hW5];exact(But.refl No w4).alloc _);have HT5:Hid (Blk W5 w4.heap.size (boxT11 s0 a3 n0 e3 E3 m d3 Z3 q f3) 31):=hid (by rw[←hW5];exact Blk.new w4 _ _);have H4:=hid h4;have H45:=hid h45;have HP5:=hid (HT2.out.but (hbw.out.trans (h4.trans h45)) (fun f=>f));have tt:=tb_cells HT5.out;have pp:=tb_cells HP5.out;have Q1:=hid (r1.no h45);have Q2:=hid (r2.no h45);have Q3:=hid (r3.no h45);have HWB:=hid hwb;clear h4 h45 r1 r2 r3 hwb bb)
   obtain⟨X,hX⟩:∃ X,w4.heap.size=X:=⟨_,rfl⟩
   have HXX:=hid hX
   rw[hX] at HT5 tt ⊢
   have CSS:=hid (CS.out W5 a3 e3 E3 d3 Z3 f3 a1 e1 E1 d1 Z1 f1 Q1.out Q2.out Q3.out (R1.out.no (hbw.out.trans (H4.out.trans H45.out))) (R2.out.no (hbw.out.trans (H4.out.trans H45.out))) (R3.out.no (hbw.out.trans (H4.out.trans H45.out))))
   go_upto_region 8 with(go_at_call 12;refine CSS.out.mono ?_;rintro e w6 ⟨rfl,h6⟩;have H6:=hid h6;have HT6:=hid (HT5.out.but h6 (fun f=>f));clear h6 tt pp)
   clear hW5 hX
   have HO6:Hid (But No W2 w6):=hid (hbw.out.trans (H4.out.trans (H45.out.trans H6.out)))
   have HNV:Hid (∀ i z,Ud vs i z→W2.heap.size≤z∧z<X):=hid (fun i z hz=>by
    have h1:=HWB.out.new i z hz
    have h2:=hbw.out.size
    have h3:=HXX.out
    omega)
   have HTX:Hid (∀ i W,But (Ud vs i) w6 W→T11 W X s0 a3 n0 e3 E3 m d3 Z3 q f3):=hid (fun i W hb=>tb_cells (HT6.out.but hb (fun h=>absurd (HNV.out _ _ h).2 (by omega))))
   clear CSS Q1 Q2 Q3 HP5 HT5
   go_wp2_with fail
   go_loopw [14] (fun x wx=>∃ j:Nat,x=.int .i64 (j:Int)∧j≤m∧Hid (But (Ud vs j) w6 wx)) (fun x _=>m-(intOf x).toNat)
   case atStart=>exact⟨0,rfl,by omega,But.refl _ _⟩
   case round =>
    obtain⟨j,rfl,hj,hb4⟩:=hrel
    have hj0:(0:Int)≤(j:Int):=Int.natCast_nonneg j
    by_cases hjm:j<m
    ·have hj2:(j:Int)<(m:Int):=by omega
     obtain⟨u,hu⟩:∃ u,vs[j]? = some u:=⟨_,List.getElem?_eq_getElem (by rw[HWB.out.vlen];exact hjm)⟩
     obtain⟨l,hl⟩:∃ l,Ls[j]? = some l:=⟨_,List.getElem?_eq_getElem (by rw[HWB.out.len];exact hjm)⟩
     have hl8:=HWB.out.sm l (List.mem_of_getElem? hl)
     obtain⟨AR,cR,rfl,hud,hlv⟩:=HWB.out.row j u l hu hl
     obtain⟨g,hE,hgl,hgu,hgc⟩:=HWB.out.at_ j _ hu
     subst hE
     have tt:=HTX.out j wr hb4.out
     obtain⟨ml,hml⟩:∃ ml,l.length=ml:=⟨_,rfl⟩
     rw[hml] at hl8 hgc hud hlv
     have E0:Hid (∀ W,But (Ud vs (j+1)) w6 W→W.cell? ⟨g,j*2,none⟩=some (.slice AR ml cR)):=hid (fun W hW=>by
      have h1:=H45.out.size
      have h2:=H6.out.size
      rw[hW.cell (by omega) (hgu _)]
      exact cell_keep hgc (H45.out.trans H6.out))
     have HLV:Hid (∀ z,AR=some ⟨z,0,none⟩→0<ml→Lv wr z (ml*5)∧Ud vs (j+1) z):=hid (fun z hz h0=>by
      obtain⟨z',h7,h8⟩:=hlv h0
      rw[h7] at hz
      cases hz
      exact⟨(h8.but (H45.out.trans H6.out) (fun f=>f)).but hb4.out (hud _ ⟨0,h7⟩ h0).1,(hud _ ⟨0,h7⟩ h0).2⟩)
     have HUP:Hid (But (Ud vs (j+1)) w6 wr):=hid (hb4.out.mono (fun z _ hz=>hz.more))
     have HAR:Hid (0<ml→∃ z,AR=some ⟨z,0,none⟩):=hid (fun h0=>by obtain⟨z,h7,_⟩:=hlv h0;exact⟨z,h7⟩)
     have e1:=E0.out wr HUP.out
     clear hgc hgu hgl hud hlv hl hml hu
     go_wp2_with fail
     clear e1 tt
     go_loopw [15] (fun x wy=>∃ i:Nat,x=.int .i64 (i:Int)∧i≤ml∧Hid (But (Ud vs (j+1)) w6 wy∧∀ z,AR=some ⟨z,0,none⟩→0<ml→Lv wy z (ml*5)∧Ud vs (j+1) z)) (fun x _=>ml-(intOf x).toNat)
     case atStart=>exact⟨0,rfl,by omega,HUP.out,HLV.out⟩
     case round =>
      clear HUP HLV
      obtain⟨i,rfl,hi,HI5⟩:=hrel
      have hi0:(0:Int)≤(i:Int):=Int.natCast_nonneg i
      have e1:=E0.out wr HI5.out.1
      have tt:=HTX.out (j+1) wr HI5.out.1
      by_cases him:i<ml
      ·have hi2:(i:Int)<(ml:Int):=by omega
       obtain⟨z,hz⟩:=HAR.out (by omega)
       obtain⟨hlv,hudz⟩:=HI5.out.2 z hz (by omega)
       obtain⟨⟨u0,f0⟩,g0⟩:=hlv.cell (o:=i*5) (by omega)
       obtain⟨⟨u1,f1⟩,g1⟩:=hlv.cell (o:=i*5+1) (by omega)
       obtain⟨⟨u2,f2⟩,g2⟩:=hlv.cell (o:=i*5+2) (by omega)
       obtain⟨⟨u3,f3⟩,g3⟩:=hlv.cell (o:=i*5+3) (by omega)
       obtain⟨⟨u4,f4⟩,g4⟩:=hlv.cell (o:=i*5+4) (by omega)
       have HNX:=hid (ro_five (v0:=.int .i64 0) (v1:=.int .i64 0) (v2:=.int .i64 0) (v3:=.int .i64 0) (v4:=.bool false) (o:=i*5) HI5.out.1 hlv hudz)
       have HUZ:=hid hudz
       subst hz
       clear hlv hudz
       go_wp2_with fail
       go_roundw
       case rel=>exact⟨i+1,by go_num,by omega,HNX.out.1,fun z' hz' _=>by cases hz';exact⟨HNX.out.2,HUZ.out⟩⟩
       case measure=>simp[intOf];omega
      ·have hie:i=ml:=by omega
       subst hie
       go_wp2_with fail
       refine⟨⟨j+1,by go_num,by omega,HI5.out.1⟩,?_⟩
       simp[intOf];omega
    ·have hje:j=m:=by omega
     subst hje
     have tt:=HTX.out j wr hb4.out
     have HFI:Hid (But No W2 wr):=hid (HO6.out.andThen' hb4.out (fun z _ hz=>(HNV.out j z hz).1))
     go_wp2_with fail
     refine⟨⟨k+1,by go_num,by omega,HFI⟩,?_⟩
     simp[intOf];omega
  ·have hke:k=2:=by omega
   subst hke
   go_wp2_with fail
   go_ret
   exact⟨rfl,H2.out.trans hbw.out⟩
theorem rsys0 (w:World):RSys w none 0 0 sys0:=⟨by omega,⟨rfl,by omega,fun h=>absurd h (by omega),by simp[sys0]⟩,by unfold sys0 inR;simp⟩
theorem ren0 (w:World):REn w none 0 []:=⟨rfl,by omega,fun h=>absurd h (by omega),by simp⟩
theorem walk (s:Sys) (A:Option Addr) (c:Nat) (A':Option Addr) (N c':Nat) (L:List (List Pc)) (_:N≤c') (D:Option Addr) (z cz:Nat) (zs:List Int) (_:z≤cz) (w:World) (hs:RSys w A s.ts.length c s) (hl:RPl w A' N L) (hz:Rd w D z zs) :
  Calls Tryz.prog 3 #[sysV s A s.ts.length c,.slice A' N c',.slice D z cz] w fun e w'=>e=.returned (.bool true)∧But No w w':=by
 cases hm:mkV s L zs with
 | true =>
  have hp:plR s L=true:=by
   cases hp:plR s L with
   | true=>rfl
   | false=>unfold mkV at hm;rw[hp] at hm;simp at hm
  have hN:N=s.ts.length:=by rw[←hl.len,(plR_parts hp).2.1]
  obtain⟨_,_,hn1,hn2,_⟩:=right_len (plR_parts hp).1
  obtain⟨hr1,hr2,hr3⟩:=rk_sizes hl hp
  refine turn_ok s A _ c A' N c' D z cz w s s.ts.length s.ts.length (ceV s L).length (esV s L zs) (ceV s L) (by omega) (fun W hw=>(dmake_any s A _ c A' N c' L D z cz zs W (hs.no hw) (hl.no hw) (hz.no hw)).mono fun e w' h=>?_) (fun W hw=>(make_any s A _ c A' N c' L D z cz zs W (hs.no hw) (hl.no hw) (hz.no hw)).mono fun e w' h=>?_)
  ·rcases h with⟨h,_⟩ | ⟨_,g,d,AZ,q,fZ,rfl,hb,h1,h2⟩
   ·rw[hm] at h;cases h
   ·obtain rfl:=h2.len
    subst hN
    exact⟨A,c,_,d,AZ,fZ,rfl,hb,hs.no (hw.trans hb),h1,h2⟩
  ·rcases h with⟨h,_⟩ | ⟨_,g9,c9,g,AZ,q,fZ,rfl,hk⟩
   ·rw[hm] at h;cases h
   ·have hc:=hk.ce
    rw[ceV_rk] at hc
    obtain rfl:=hc.len
    obtain⟨vs,hwb,v,hro,hrf⟩:=wb_of hk (by rw[hr1,hN]) hr2
    exact⟨_,c9,_,_,AZ,fZ,vs,_,rfl,hk.but,hk.sys,ren_of (by rw[hl.len,hN]) (by omega) hro hrf ⟨hr2,hr3⟩ hz.fit,hc,hwb⟩
 | false =>
  refine turn_no s A _ c A' N c' D z cz w sys0 0 0 0 [] [] (by omega) (fun W hw=>(dmake_any s A _ c A' N c' L D z cz zs W (hs.no hw) (hl.no hw) (hz.no hw)).mono fun e w' h=>?_) (fun W hw=>(make_any s A _ c A' N c' L D z cz zs W (hs.no hw) (hl.no hw) (hz.no hw)).mono fun e w' h=>?_)
  ·rcases h with⟨_,rfl,hb⟩ | ⟨h,_⟩
   ·exact⟨none,0,none,0,none,0,rfl,hb,rsys0 _,ren0 _,RNs.nil _⟩
   ·rw[hm] at h;cases h
  ·rcases h with⟨_,rfl,hb⟩ | ⟨h,_⟩
   ·exact⟨none,0,none,0,none,0, [], [],rfl,hb,rsys0 _,ren0 _,RNs.nil _,wb_nil _ _ _⟩
   ·rw[hm] at h;cases h
end tableMakes
end Go.Proofs.YtikcigjbhohboaaGreat.tbl
end
