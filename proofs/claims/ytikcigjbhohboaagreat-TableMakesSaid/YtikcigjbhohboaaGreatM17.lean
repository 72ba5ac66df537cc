/- Part 17 of a proof: TeC5 TeC6. -/
import Derived.Test.YtikcigjbhohboaaGreatM16
section
namespace Go.Proofs.YtikcigjbhohboaaGreat.ter
open Go.Lib (hid)
open Go.ChangeShapes Go.WideShapes Go.ChangeAt Go.RowKit Go.Deep ky2 val
theorem wait_some {s:Sys} {wh:List Int} {task k:Int} {x:Sec} (h:sec? s task k=some x):waitV s wh task k=smV s wh task.toNat x.2.1:=by unfold waitV;rw[h]
theorem wait_none {s:Sys} {wh:List Int} {task k:Int} (h:sec? s task k=none):waitV s wh task k=0:=by unfold waitV;rw[h]
set_option maxRecDepth 100000 in
set_option maxHeartbeats 2000000 in
theorem waits_any (s:Sys) (A:Option Addr) (n c:Nat) (B:Option Addr) (m d:Nat) (wh:List Int) (task sect:Int) (w:World) (h:RSys w A n c s) (hz:Rd w B m wh) :
  Calls Tryz.prog 180 #[sysV s A n c,.slice B m d,.int .i64 task,.int .i64 sect] w fun e w'=>e=.returned (.int .i64 (waitV s wh task sect))∧But No w w':=by
 have CF:Hid (∀ W,But No w W→Calls Tryz.prog 179 #[sysV s A n c,.int .i64 task,.int .i64 sect] W fun e w'=>e=.returned (findV (sec? s task sect))∧But No W w'):=fun W hb=>find_any s A n c task sect W (h.no hb)
 cases hx:sec? s task sect with
 | none =>
  have HV:=hid (wait_none (wh:=wh) hx)
  rw[hx,show findV none=.tuple #[.agg #[.int .i64 0,.int .i64 0,.int .i64 0],.bool false] from rfl] at CF
  clear h hz hx
  unfold sysV at CF ⊢
  go_enter Tryz.func180,Tryz.ntmps180
  go_wp2_with (go_at_call 179;refine(CF.out _ ((But.refl No w).alloc _)).mono ?_;rintro e w1 ⟨rfl,hb1⟩;have HB1:=hid (((But.refl No w).alloc _).trans hb1);clear hb1)
  go_ret
  exact⟨ret1 HV.out.symm,HB1.out.alloc _⟩
 | some x =>
  have HV:=hid (wait_some (wh:=wh) hx)
  obtain⟨k,t,hk,h2,hrt,hj⟩:∃ (k:Nat) (t:Tsk),task=(k:Int)∧s.ts[k]? = some t∧right s=true∧∃ j:Nat,t.secs[j]? = some x:=by
   rcases sec_cases s task sect with⟨k,t,j,y,h1,h2,h3,_,_,h5,h6⟩ | ⟨h6,_⟩ | ⟨h6,_⟩
   ·rw[hx] at h6;cases h6;exact⟨k,t,h1,h2,h3,j,h5⟩
   ·rw[hx] at h6;cases h6
   ·rw[hx] at h6;cases h6
  subst hk
  rw[Int.toNat_natCast] at HV
  have hin:inR x.2.1:=by
   obtain⟨j,hj⟩:=hj
   obtain⟨_,_,_,_,_,_,_,_,_,_,hS⟩:=h.ts.at1 h2
   exact(hS.fit x (List.mem_of_getElem? hj)).2.1
  have hln:=right_len hrt
  obtain⟨x0,x1,x2⟩:=x
  have CL:Hid (∀ W,But No w W→Calls Tryz.prog 168 #[sysV s A n c,.slice B m d] W fun e w'=>∃ mb,e=.returned (.map (some mb))∧But No W w'∧W.heap.size≤mb∧∃ D,OM w' mb 96 D∧LIs D (F s wh)):=fun W hb=>longestOf_any s A n c B m d wh W (h.no hb) (hz.no hb) hrt
  have CC:Hid (∀ W,But No w W→Calls Tryz.prog 169 #[sysV s A n c,.slice B m d,.int .i64 k] W fun e w'=>e=.returned (.int .i64 (cr s.co wh k))∧But No W w'):=fun W hb=>coreOf_any s A n c B m d wh k W (hz.no hb)
  have CW:Hid (∀ (D:DataW Unit) (mb:Nat) (own:Int) (W:World),OM W mb 96 D→LIs D (F s wh)→Calls Tryz.prog 170 #[.map (some mb),.int .i64 s.co,.int .i64 own,.int .i64 x1] W fun e w'=>e=.returned (.int .i64 (sm (F s wh) own x1 s.co.toNat))∧w'=W):=fun D mb own W hO hI=>wait_any (F s wh) D mb 96 s.co own x1 W hO hI (fun c r=>mxF_le hrt wh c r) (by omega) (by omega) hin
  rw[hx,show findV (some (x0,x1,x2))=.tuple #[.agg #[.int .i64 x0,.int .i64 x1,.int .i64 x2],.bool true] from rfl] at CF
  clear h hz hx h2 hrt hj hin hln
  unfold smV at HV
  generalize cr s.co wh k=cc at CC HV
  unfold sysV at CF CL CC ⊢
  go_enter Tryz.func180,Tryz.ntmps180
  go_wp2_with (go_at_call 179;refine(CF.out _ ((But.refl No w).alloc _)).mono ?_;rintro e w1 ⟨rfl,hb1⟩;have HB1:=hid (((But.refl No w).alloc _).trans hb1);have HSY:=hid ((Blk.new w (boxS s A n c) 24).but hb1 (fun f=>f));clear hb1)
  have hb3:But No w (w1.alloc (.cells #[.int .i64 x0,.int .i64 x1,.int .i64 x2] 120)):=HB1.out.alloc _
  have hsy:=HSY.out.alloc (.cells #[.int .i64 x0,.int .i64 x1,.int .i64 x2] 120)
  have hxs:=Blk.new w1 #[.int .i64 x0,.int .i64 x1,.int .i64 x2] 120
  generalize w1.alloc (.cells #[.int .i64 x0,.int .i64 x1,.int .i64 x2] 120)=w3 at hb3 hsy hxs ⊢
  generalize w.heap.size=b1 at HSY hsy ⊢
  generalize w1.heap.size=bc at hxs ⊢
  have HB3:=hid hb3
  have KEEP:Hid (∀ w',But No w3 w'→(w'.cell? ⟨b1,0,none⟩=some (.int .i64 s.co)∧w'.cell? ⟨b1,1,none⟩=some (.int .i64 s.po)∧w'.cell? ⟨b1,2,none⟩=some (.int .i64 s.pr)∧w'.cell? ⟨b1,3,none⟩=some (.int .i64 s.re)∧w'.cell? ⟨b1,4,none⟩=some (.int .i64 s.sw)∧w'.cell? ⟨b1,5,none⟩=some (.int .i64 s.fi)∧w'.cell? ⟨b1,6,none⟩=some (.int .i64 s.la)∧w'.cell? ⟨b1,7,none⟩=some (.int .i64 s.rs)∧w'.cell? ⟨b1,8,none⟩=some (.slice A n c)∧w'.cell? ⟨bc,1,none⟩=some (.int .i64 x1))∧But No w3 w'):=hid (fun w' hb=>by
   obtain⟨d0,d1,d2,d3,d4,d5,d6,d7,d8⟩:=sys_cells (hsy.but hb (fun f=>f))
   exact⟨⟨d0,d1,d2,d3,d4,d5,d6,d7,d8,(hxs.but (S:=No) hb (fun f=>f)).cell (o:=1) rfl⟩,hb⟩)
  clear hb3 hsy hxs HSY HB1 CF
  have CL3:Hid (∀ w',But No w3 w'→Calls Tryz.prog 168 #[.agg #[.int .i64 s.co,.int .i64 s.po,.int .i64 s.pr,.int .i64 s.re,.int .i64 s.sw,.int .i64 s.fi,.int .i64 s.la,.int .i64 s.rs,.slice A n c],.slice B m d] w' fun e w''=>∃ mb,e=.returned (.map (some mb))∧But No w3 w''∧∃ D,OM w'' mb 96 D∧LIs D (F s wh)):=hid (fun w' hb=>(CL.out w' (HB3.out.trans hb)).mono (fun e w'' ⟨mb,h1,h2,_,h4⟩=>⟨mb,h1,hb.trans h2,h4⟩))
  have CC3:Hid (∀ w',But No w3 w'→Calls Tryz.prog 169 #[.agg #[.int .i64 s.co,.int .i64 s.po,.int .i64 s.pr,.int .i64 s.re,.int .i64 s.sw,.int .i64 s.fi,.int .i64 s.la,.int .i64 s.rs,.slice A n c],.slice B m d,.int .i64 k] w' fun e w''=>e=.returned (.int .i64 cc)∧But No w3 w''∧But No w' w''):=hid (fun w' hb=>(CC.out w' (HB3.out.trans hb)).mono (fun e w'' ⟨h1,h2⟩=>⟨h1,hb.trans h2,h2⟩))
  clear CL CC
  go_region_held3 (fun w'=>(w'.cell? ⟨b1,0,none⟩=some (.int .i64 s.co)∧w'.cell? ⟨b1,1,none⟩=some (.int .i64 s.po)∧w'.cell? ⟨b1,2,none⟩=some (.int .i64 s.pr)∧w'.cell? ⟨b1,3,none⟩=some (.int .i64 s.re)∧w'.cell? ⟨b1,4,none⟩=some (.int .i64 s.sw)∧w'.cell? ⟨b1,5,none⟩=some (.int .i64 s.fi)∧w'.cell? ⟨b1,6,none⟩=some (.int .i64 s.la)∧w'.cell? ⟨b1,7,none⟩=some (.int .i64 s.rs)∧w'.cell? ⟨b1,8,none⟩=some (.slice A n c)∧w'.cell? ⟨bc,1,none⟩=some (.int .i64 x1))∧But No w3 w')
   (first | exact KEEP.out _ (But.refl No w3).drew | exact KEEP.out _ hgA | exact KEEP.out _ hgB)
   (first | (go_at_call 168;((with_reducible refine(CL3.out _ (But.refl No w3).drew).mono ?_);rintro e wA ⟨mb,rfl,hgA,D,hO,hI⟩;have HOA:=hid hO;have HIA:=hid hI;clear hO hI)) | (go_at_call 169;((with_reducible refine(CC3.out _ hgA).mono ?_);rintro e wB ⟨rfl,hgB,hgAB⟩;have HOB:=hid (OM.no HOA.out hgAB);clear hgAB)) | (go_at_call 170;((with_reducible refine(CW.out D mb cc _ HOB.out HIA.out).mono ?_);rintro e wC ⟨rfl,rfl⟩)))
  rename_i hHeld
  clear hHeld
  have HE:=hid (HB3.out.trans hgB)
  clear hgA hgB
  go_wp2
  go_ret
  exact⟨ret1 HV.out.symm,HE.out⟩
theorem hold_some {s:Sys} {wh:List Int} {task k:Int} {x:Sec} (h:sec? s task k=some x):holdV s wh task k=waitV s wh task k+x.2.2:=by unfold holdV waitV;rw[h]
theorem hold_none {s:Sys} {wh:List Int} {task k:Int} (h:sec? s task k=none):holdV s wh task k=0:=by unfold holdV;rw[h]
theorem wait_le (s:Sys) (wh:List Int) (task k:Int):0≤waitV s wh task k∧waitV s wh task k≤8796093022216:=by
 rcases sec_cases s task k with⟨_,_,_,_,_,_,h3,_,_,_,h6⟩ | ⟨h6,_⟩ | ⟨h6,_⟩
 ·rw[wait_some h6];exact smV_le h3 wh _ _
 ·rw[wait_none h6];omega
 ·rw[wait_none h6];omega
theorem sec_some {s:Sys} {task k:Int} {x:Sec} (h:sec? s task k=some x):right s=true∧1≤x.2.2∧x.2.2≤1099511627776:=by
 rcases sec_cases s task k with⟨i,t,j,y,_,h2,h3,_,_,h5,h6⟩ | ⟨h6,_⟩ | ⟨h6,_⟩
 ·rw[h] at h6;cases h6
  exact⟨h3,(right_sec h3 (List.mem_of_getElem? h2) (List.mem_of_getElem? h5)).2⟩
 ·rw[h] at h6;cases h6
 ·rw[h] at h6;cases h6
set_option maxRecDepth 100000 in
set_option maxHeartbeats 2000000 in
theorem hold_any (s:Sys) (A:Option Addr) (n c:Nat) (B:Option Addr) (m d:Nat) (wh:List Int) (task sect:Int) (w:World) (h:RSys w A n c s) (hz:Rd w B m wh) :
  Calls Tryz.prog 156 #[sysV s A n c,.slice B m d,.int .i64 task,.int .i64 sect] w fun e w'=>e=.returned (.int .i64 (holdV s wh task sect))∧But No w w':=by
 have CF:Hid (∀ W,But No w W→Calls Tryz.prog 179 #[sysV s A n c,.int .i64 task,.int .i64 sect] W fun e w'=>e=.returned (findV (sec? s task sect))∧But No W w'):=fun W hb=>find_any s A n c task sect W (h.no hb)
 cases hx:sec? s task sect with
 | none =>
  have HV:=hid (hold_none (wh:=wh) hx)
  rw[hx,show findV none=.tuple #[.agg #[.int .i64 0,.int .i64 0,.int .i64 0],.bool false] from rfl] at CF
  clear h hz hx
  unfold sysV at CF ⊢
  go_enter Tryz.func156,Tryz.ntmps156
  go_wp2_with (go_at_call 179;refine(CF.out _ ((But.refl No w).alloc _)).mono ?_;rintro e w1 ⟨rfl,hb1⟩;have HB1:=hid (((But.refl No w).alloc _).trans hb1);clear hb1)
  go_ret
  exact⟨ret1 HV.out.symm,HB1.out.alloc _⟩
 | some x =>
  have HV:=hid (hold_some (wh:=wh) hx)
  have hl:=(sec_some hx).2
  have hv:=wait_le s wh task sect
  obtain⟨x0,x1,x2⟩:=x
  have CW:Hid (∀ W,But No w W→Calls Tryz.prog 180 #[sysV s A n c,.slice B m d,.int .i64 task,.int .i64 sect] W fun e w'=>e=.returned (.int .i64 (waitV s wh task sect))∧But No W w'):=fun W hb=>waits_any s A n c B m d wh task sect W (h.no hb) (hz.no hb)
  rw[hx,show findV (some (x0,x1,x2))=.tuple #[.agg #[.int .i64 x0,.int .i64 x1,.int .i64 x2],.bool true] from rfl] at CF
  clear h hz hx
  generalize waitV s wh task sect=V at CW HV hv
  simp only at HV hl
  have hw1:IntKind.i64.wrap (V+x2)=V+x2:=IntWalk.i64_in (V+x2) (by omega)
  unfold sysV at CF CW ⊢
  go_enter Tryz.func156,Tryz.ntmps156
  go_wp2_with (go_at_call 179;refine(CF.out _ ((But.refl No w).alloc _)).mono ?_;rintro e w1 ⟨rfl,hb1⟩;have HB1:=hid (((But.refl No w).alloc _).trans hb1);have HSY:=hid ((Blk.new w (boxS s A n c) 24).but hb1 (fun f=>f));clear hb1)
  have hb3:But No w (w1.alloc (.cells #[.int .i64 x0,.int .i64 x1,.int .i64 x2] 120)):=HB1.out.alloc _
  have hsy:=HSY.out.alloc (.cells #[.int .i64 x0,.int .i64 x1,.int .i64 x2] 120)
  have hxs:=Blk.new w1 #[.int .i64 x0,.int .i64 x1,.int .i64 x2] 120
  generalize w1.alloc (.cells #[.int .i64 x0,.int .i64 x1,.int .i64 x2] 120)=w3 at hb3 hsy hxs ⊢
  generalize w.heap.size=b1 at HSY hsy ⊢
  generalize w1.heap.size=bc at hxs ⊢
  have HB3:=hid hb3
  have KEEP:Hid (∀ w',But No w3 w'→(w'.cell? ⟨b1,0,none⟩=some (.int .i64 s.co)∧w'.cell? ⟨b1,1,none⟩=some (.int .i64 s.po)∧w'.cell? ⟨b1,2,none⟩=some (.int .i64 s.pr)∧w'.cell? ⟨b1,3,none⟩=some (.int .i64 s.re)∧w'.cell? ⟨b1,4,none⟩=some (.int .i64 s.sw)∧w'.cell? ⟨b1,5,none⟩=some (.int .i64 s.fi)∧w'.cell? ⟨b1,6,none⟩=some (.int .i64 s.la)∧w'.cell? ⟨b1,7,none⟩=some (.int .i64 s.rs)∧w'.cell? ⟨b1,8,none⟩=some (.slice A n c)∧w'.cell? ⟨bc,2,none⟩=some (.int .i64 x2))∧But No w3 w'):=hid (fun w' hb=>by
   obtain⟨d0,d1,d2,d3,d4,d5,d6,d7,d8⟩:=sys_cells (hsy.but hb (fun f=>f))
   exact⟨⟨d0,d1,d2,d3,d4,d5,d6,d7,d8,(hxs.but (S:=No) hb (fun f=>f)).cell (o:=2) rfl⟩,hb⟩)
  clear hb3 hsy hxs HSY HB1 CF
  have CW3:Hid (∀ w',But No w3 w'→Calls Tryz.prog 180 #[.agg #[.int .i64 s.co,.int .i64 s.po,.int .i64 s.pr,.int .i64 s.re,.int .i64 s.sw,.int .i64 s.fi,.int .i64 s.la,.int .i64 s.rs,.slice A n c],.slice B m d,.int .i64 task,.int .i64 sect] w' fun e w''=>e=.returned (.int .i64 V)∧But No w3 w''):=hid (fun w' hb=>(CW.out w' (HB3.out.trans hb)).mono (fun e w'' ⟨h1,h2⟩=>⟨h1,hb.trans h2⟩))
  clear CW
  go_region_held3 (fun w'=>(w'.cell? ⟨b1,0,none⟩=some (.int .i64 s.co)∧w'.cell? ⟨b1,1,none⟩=some (.int .i64 s.po)∧w'.cell? ⟨b1,2,none⟩=some (.int .i64 s.pr)∧w'.cell? ⟨b1,3,none⟩=some (.int .i64 s.re)∧w'.cell? ⟨b1,4,none⟩=some (.int .i64 s.sw)∧w'.cell? ⟨b1,5,none⟩=some (.int .i64 s.fi)∧w'.cell? ⟨b1,6,none⟩=some (.int .i64 s.la)∧w'.cell? ⟨b1,7,none⟩=some (.int .i64 s.rs)∧w'.cell? ⟨b1,8,none⟩=some (.slice A n c)∧w'.cell? ⟨bc,2,none⟩=some (.int .i64 x2))∧But No w3 w')
   (first | exact KEEP.out _ (But.refl No w3).drew | exact KEEP.out _ hgA)
   (first | (go_at_call 180;((with_reducible refine(CW3.out _ (But.refl No w3).drew).mono ?_);rintro e wA ⟨rfl,hgA⟩)))
  rename_i hHeld
  clear hHeld
  have HE:=hid (HB3.out.trans hgA)
  clear hgA
  go_wp2
  go_ret
  exact⟨ret1 HV.out.symm,HE.out⟩
end Go.Proofs.YtikcigjbhohboaaGreat.ter
end
section
namespace Go.Proofs.YtikcigjbhohboaaGreat.ter
open Go.Lib (hid)
open Go.ChangeShapes Go.WideShapes Go.ChangeAt Go.RowKit Go.Deep ky2 val
theorem exN_succ {s:Sys} {wh:List Int} {k:Nat} {l:List Sec} {j:Nat} {x:Sec} (h:l[j]? = some x):exN s wh k l (j+1)=exN s wh k l j+smV s wh k x.2.1:=by
 rw[exN];simp[List.getD,h]
theorem extra_some {s:Sys} {wh:List Int} {task:Int} {t:Tsk} (h:tsk? s task=some t):extraV s wh task=exN s wh task.toNat t.secs t.secs.length:=by unfold extraV;rw[h]
theorem extra_none {s:Sys} {wh:List Int} {task:Int} (h:tsk? s task=none):extraV s wh task=0:=by unfold extraV;rw[h]
set_option maxRecDepth 100000 in
set_option maxHeartbeats 2000000 in
theorem extra_any (s:Sys) (A:Option Addr) (n c:Nat) (B:Option Addr) (m d:Nat) (wh:List Int) (task:Int) (w:World) (h:RSys w A n c s) (hz:Rd w B m wh) :
  Calls Tryz.prog 151 #[sysV s A n c,.slice B m d,.int .i64 task] w fun e w'=>e=.returned (.int .i64 (extraV s wh task))∧But No w w':=by
 have HN:=h.ts.len
 have CH:Hid (∀ W,But No w W→Calls Tryz.prog 167 #[sysV s A n c,.int .i64 task] W fun e w'=>e=.returned (.bool (tsk? s task).isSome)∧But No W w'):=fun W hb=>hasTask_any s A n c task W (h.no hb)
 rcases tsk_cases s task with⟨k,t,rfl,h2,h3,h4⟩ | ⟨h4,_⟩
 ·have hk:=(List.getElem?_eq_some_iff.1 h2).1
  rw[HN] at hk
  have hk2:(k:Int)<(n:Int):=by omega
  have hk0:(0:Int)≤(k:Int):=Int.natCast_nonneg k
  have HV:Hid (extraV s wh k=exN s wh k t.secs t.secs.length):=hid (by rw[extra_some h4,Int.toNat_natCast])
  have hln:=right_len h3
  have hm4:=hln.2.2.2.2 t (List.mem_of_getElem? h2)
  have HRT:=hid h3
  rw[tskS s k h4] at CH
  have CL:Hid (∀ W,But No w W→Calls Tryz.prog 168 #[sysV s A n c,.slice B m d] W fun e w'=>∃ mb,e=.returned (.map (some mb))∧But No W w'∧W.heap.size≤mb∧∃ D,OM w' mb 96 D∧LIs D (F s wh)):=fun W hb=>longestOf_any s A n c B m d wh W (h.no hb) (hz.no hb) h3
  have CC:Hid (∀ W,But No w W→Calls Tryz.prog 169 #[sysV s A n c,.slice B m d,.int .i64 k] W fun e w'=>e=.returned (.int .i64 (cr s.co wh k))∧But No W w'):=fun W hb=>coreOf_any s A n c B m d wh k W (hz.no hb)
  have CW:Hid (∀ (D:DataW Unit) (mb:Nat) (r:Int) (W:World),inR r→OM W mb 96 D→LIs D (F s wh)→Calls Tryz.prog 170 #[.map (some mb),.int .i64 s.co,.int .i64 (cr s.co wh k),.int .i64 r] W fun e w'=>e=.returned (.int .i64 (smV s wh k r))∧w'=W):=fun D mb r W hr hO hI=>wait_any (F s wh) D mb 96 s.co (cr s.co wh k) r W hO hI (fun c r=>mxF_le h3 wh c r) (by omega) (by omega) hr
  obtain⟨b,off,A',c',rfl,_,_,_,c3,hcc,hS⟩:=h.ts.at1 h2
  have HS:=hid hS
  obtain⟨m',hm'⟩:∃ m',t.secs.length=m':=⟨_,rfl⟩
  rw[hm'] at c3 hcc hm4 HV HS
  have HM:=hid hm'
  clear h hz h2 h3 h4 hS HN hm' hln
  generalize cr s.co wh k=cc at CC CW
  unfold sysV at CH CL CC ⊢
  go_enter Tryz.func151,Tryz.ntmps151
  go_wp2_with (go_at_call 167;refine(CH.out _ ((But.refl No w).alloc _)).mono ?_;rintro e w3 ⟨rfl,hb1⟩;have HB3:=hid (((But.refl No w).alloc _).trans hb1);have HSY:=hid ((Blk.new w (boxS s (some ⟨b,off,none⟩) n c) 24).but hb1 (fun f=>f));clear hb1)
  generalize w.heap.size=b1 at HSY ⊢
  have KEEP:Hid (∀ w',But No w3 w'→(w'.cell? ⟨b1,0,none⟩=some (.int .i64 s.co)∧w'.cell? ⟨b1,1,none⟩=some (.int .i64 s.po)∧w'.cell? ⟨b1,2,none⟩=some (.int .i64 s.pr)∧w'.cell? ⟨b1,3,none⟩=some (.int .i64 s.re)∧w'.cell? ⟨b1,4,none⟩=some (.int .i64 s.sw)∧w'.cell? ⟨b1,5,none⟩=some (.int .i64 s.fi)∧w'.cell? ⟨b1,6,none⟩=some (.int .i64 s.la)∧w'.cell? ⟨b1,7,none⟩=some (.int .i64 s.rs)∧w'.cell? ⟨b1,8,none⟩=some (.slice (some ⟨b,off,none⟩) n c))∧But No w3 w'):=hid (fun w' hb=>by
   obtain⟨d0,d1,d2,d3,d4,d5,d6,d7,d8⟩:=sys_cells (HSY.out.but hb (fun f=>f))
   exact⟨⟨d0,d1,d2,d3,d4,d5,d6,d7,d8⟩,hb⟩)
  have CL3:Hid (∀ w',But No w3 w'→Calls Tryz.prog 168 #[.agg #[.int .i64 s.co,.int .i64 s.po,.int .i64 s.pr,.int .i64 s.re,.int .i64 s.sw,.int .i64 s.fi,.int .i64 s.la,.int .i64 s.rs,.slice (some ⟨b,off,none⟩) n c],.slice B m d] w' fun e w''=>∃ mb,e=.returned (.map (some mb))∧But No w3 w''∧∃ D,OM w'' mb 96 D∧LIs D (F s wh)):=hid (fun w' hb=>(CL.out w' (HB3.out.trans hb)).mono (fun e w'' ⟨mb,h1,h2,_,h4⟩=>⟨mb,h1,hb.trans h2,h4⟩))
  have CC3:Hid (∀ w',But No w3 w'→Calls Tryz.prog 169 #[.agg #[.int .i64 s.co,.int .i64 s.po,.int .i64 s.pr,.int .i64 s.re,.int .i64 s.sw,.int .i64 s.fi,.int .i64 s.la,.int .i64 s.rs,.slice (some ⟨b,off,none⟩) n c],.slice B m d,.int .i64 k] w' fun e w''=>e=.returned (.int .i64 cc)∧But No w3 w''∧But No w' w''):=hid (fun w' hb=>(CC.out w' (HB3.out.trans hb)).mono (fun e w'' ⟨h1,h2⟩=>⟨h1,hb.trans h2,h2⟩))
  clear CL CC CH
  go_region_held3 (fun w'=>(w'.cell? ⟨b1,0,none⟩=some (.int .i64 s.co)∧w'.cell? ⟨b1,1,none⟩=some (.int .i64 s.po)∧w'.cell? ⟨b1,2,none⟩=some (.int .i64 s.pr)∧w'.cell? ⟨b1,3,none⟩=some (.int .i64 s.re)∧w'.cell? ⟨b1,4,none⟩=some (.int .i64 s.sw)∧w'.cell? ⟨b1,5,none⟩=some (.int .i64 s.fi)∧w'.cell? ⟨b1,6,none⟩=some (.int .i64 s.la)∧w'.cell? ⟨b1,7,none⟩=some (.int .i64 s.rs)∧w'.cell? ⟨b1,8,none⟩=some (.slice (some ⟨b,off,none⟩) n c))∧But No w3 w')
   (first | exact KEEP.out _ (But.refl No w3).drew | exact KEEP.out _ hgA | exact KEEP.out _ hgB)
   (first | (go_at_call 168;((with_reducible refine(CL3.out _ (But.refl No w3).drew).mono ?_);rintro e wA ⟨mb,rfl,hgA,D,hO,hI⟩;have HOA:=hid hO;have HIA:=hid hI;clear hO hI)) | (go_at_call 169;((with_reducible refine(CC3.out _ hgA).mono ?_);rintro e wB ⟨rfl,hgB,hgAB⟩;have HOB:=hid (OM.no HOA.out hgAB);clear hgAB)))
  rename_i hHeld
  clear hHeld
  have q3:=cell_keep c3 (HB3.out.trans hgB)
  have d8:wB.cell? ⟨b1,8,none⟩=some (.slice (some ⟨b,off,none⟩) n c):=(KEEP.out _ hgB).1.2.2.2.2.2.2.2.2
  have HSB:=hid (HS.out.no (HB3.out.trans hgB))
  have HBB:=hid (HB3.out.trans hgB)
  have HXB:=hid (HSY.out.but hgB (fun f=>f))
  clear hgA hgB HOA HB3 HSY KEEP CL3 CC3 c3 HS
  go_wp2_with fail
  clear q3 d8
  go_loopw [9,30] (fun a i wr=>∃ j:Nat,a=.int .i64 (exN s wh k t.secs j)∧i=.int .i64 (j:Int)∧j≤m'∧Hid (But No wB wr)) (fun _ i _=>m'-(intOf i).toNat)
  case atStart=>exact⟨0,rfl,rfl,by omega,But.refl No wB⟩
  case round =>
   obtain⟨j,rfl,rfl,hj,HBR⟩:=hrel
   by_cases hjm:j<m'
   ·obtain⟨x,hx⟩:∃ x,t.secs[j]? = some x:=⟨_,List.getElem?_eq_getElem (by rw[HM.out];exact hjm)⟩
    obtain⟨bb,oo,rfl,e0,e1,e2⟩:=(HSB.out.no HBR.out).at1 hx
    have hxf:=(HSB.out.fit x (List.mem_of_getElem? hx)).2.1
    have HEX:=hid (exN_succ (s:=s) (wh:=wh) (k:=k) hx)
    clear hx
    obtain⟨x0,x1,x2⟩:=x
    simp only at e0 e1 e2 hxf HEX
    have hE:=exN_le HRT.out wh k t.secs j
    have hS:=smV_le HRT.out wh k x1
    have CW1:Hid (∀ W,But No wB W→Calls Tryz.prog 170 #[.map (some mb),.int .i64 s.co,.int .i64 cc,.int .i64 x1] W fun e w'=>e=.returned (.int .i64 (smV s wh k x1))∧w'=W):=hid (fun W hb=>CW.out D mb x1 W hxf (OM.no HOB.out hb) HIA.out)
    obtain⟨E0,hE0⟩:∃ E0,exN s wh k t.secs j=E0:=⟨_,rfl⟩
    obtain⟨S0,hS0⟩:∃ S0,smV s wh k x1=S0:=⟨_,rfl⟩
    rw[hE0] at hE HEX ⊢
    rw[hS0] at hS HEX CW1
    have d0:(wr.alloc (.cells #[.int .i64 x0,.int .i64 x1,.int .i64 x2] 120)).cell? ⟨b1,0,none⟩=some (.int .i64 s.co):=((HXB.out.but HBR.out (fun f=>f)).alloc _).cell (o:=0) rfl
    have hj4:(j:Int)*8796093022216≤35184372088864:=by omega
    clear hE0 hS0 hxf
    go_wp2_with (go_at_call 170;((with_reducible refine(CW1.out _ (HBR.out.alloc _)).mono ?_);rintro e wC ⟨rfl,rfl⟩))
    go_roundw
    case rel=>exact⟨j+1,by rw[HEX.out],by go_num,by omega,HBR.out.alloc _⟩
    case measure=>simp[intOf];omega
   ·have hE:Hid (j=m'):=hid (by omega)
    have b3:decide ((j:Int)<(m':Int))=false:=by simp;omega
    go_wp2
    go_ret
    exact⟨ret1 (by rw[HV.out,hE.out]),HBB.out.trans HBR.out⟩
 ·have HV:=hid (extra_none (wh:=wh) h4)
  rw[tskN s task h4] at CH
  clear h4 HN h hz
  unfold sysV at CH ⊢
  go_enter Tryz.func151,Tryz.ntmps151
  go_wp2_with (go_at_call 167;refine(CH.out _ ((But.refl No w).alloc _)).mono ?_;rintro e w1 ⟨rfl,hb1⟩;have HB1:=hid (((But.refl No w).alloc _).trans hb1);clear hb1)
  go_ret
  exact⟨ret1 HV.out.symm,HB1.out⟩
end Go.Proofs.YtikcigjbhohboaaGreat.ter
end
