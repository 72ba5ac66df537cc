/- Part 5 of a proof: VaC1 VaC2 VaC3. -/
import Derived.WalkMore
import Derived.Test.YtikcigjbhohboaaGreatM01
import Derived.Test.YtikcigjbhohboaaGreatM02
section
namespace Go.Proofs.YtikcigjbhohboaaGreat.val
open Go.ChangeShapes Go.WideShapes Go.ChangeAt Go.RowKit Go.Deep
theorem sysT : ∃ fS ft fc,SysT Tryz.prog 24 22 97 95 120 fS ft fc :=
 ⟨_,_,_,Tryz.underlying24,Tryz.underlying22,Tryz.underlying97,Tryz.underlying95,Tryz.underlying120,Tryz.underlying3,by kernel_rfl,by kernel_rfl,by kernel_rfl,by kernel_rfl,by kernel_rfl,by kernel_rfl,by simp,by simp,by simp⟩
abbrev tskV (t:Tsk) (A:Option Addr) (n c:Nat):Value:=.agg #[.int .i64 t.p,.int .i64 t.d,.int .i64 t.w,.slice A n c]
abbrev secV (x:Int × Int × Int):Value:=.agg #[.int .i64 x.1,.int .i64 x.2.1,.int .i64 x.2.2]
abbrev finV (e:Nat) (i k:Int):Value:=.agg #[.int .i64 (e:Int),.int .i64 i,.int .i64 k]
theorem within_any (n a b:Int) (w:World):Calls Tryz.prog 147 #[.int .i64 n,.int .i64 a,.int .i64 b] w fun e w'=>e=.returned (.bool (wi n a b))∧w'=w:=by
 cases h:wi n a b with
 | true =>
  obtain⟨h1,h2⟩:=wi_true.1 h
  go_enter Tryz.func147,Tryz.ntmps147
  go_wp2
  all_goals go_ret
  all_goals exact⟨by simp_all,rfl⟩
 | false =>
  rcases wi_false.1 h with h1 | h1
  ·have h2:decide (a≤n)=false:=by simp;omega
   go_enter Tryz.func147,Tryz.ntmps147
   go_wp2
   all_goals go_ret
   all_goals exact⟨by simp_all,rfl⟩
  ·have h2:decide (n≤b)=false:=by simp;omega
   by_cases h3:a≤n
   ·go_enter Tryz.func147,Tryz.ntmps147
    go_wp2
    all_goals go_ret
    all_goals exact⟨by simp_all,rfl⟩
   ·have h4:decide (a≤n)=false:=by simp;omega
    go_enter Tryz.func147,Tryz.ntmps147
    go_wp2
    all_goals go_ret
    all_goals exact⟨by simp_all,rfl⟩
theorem dwithin_any (n a b:Int) (w:World):Calls Tryz.prog 140 #[.int .i64 n,.int .i64 a,.int .i64 b] w fun e w'=>e=.returned (.bool (wi n a b))∧w'=w:=by
 cases h:wi n a b with
 | true =>
  obtain⟨h1,h2⟩:=wi_true.1 h
  go_enter Tryz.func140,Tryz.ntmps140
  go_wp2
  all_goals go_ret
  all_goals exact⟨by simp_all,rfl⟩
 | false =>
  rcases wi_false.1 h with h1 | h1
  ·have h2:decide (a≤n)=false:=by simp;omega
   go_enter Tryz.func140,Tryz.ntmps140
   go_wp2
   all_goals go_ret
   all_goals exact⟨by simp_all,rfl⟩
  ·have h2:decide (n≤b)=false:=by simp;omega
   by_cases h3:a≤n
   ·go_enter Tryz.func140,Tryz.ntmps140
    go_wp2
    all_goals go_ret
    all_goals exact⟨by simp_all,rfl⟩
   ·have h4:decide (a≤n)=false:=by simp;omega
    go_enter Tryz.func140,Tryz.ntmps140
    go_wp2
    all_goals go_ret
    all_goals exact⟨by simp_all,rfl⟩
def vPro (po pr:Int):Bool:=wi po 1 2 && (wi pr 1 2 && !(decide (pr=2) && !decide (po=1)))
theorem vPro_eq (po pr:Int):vPro po pr=(if po=1 then decide (pr=1) || decide (pr=2) else if po=2 then decide (pr=1) else false):=by
 unfold vPro wi
 by_cases h1:po=1
 ·subst h1
  by_cases h3:pr=1
  ·subst h3;rfl
  ·by_cases h4:pr=2
   ·subst h4;rfl
   ·have:(decide (1≤pr) && decide (pr≤2))=false:=by rw[Bool.and_eq_false_iff,decide_eq_false_iff_not,decide_eq_false_iff_not];omega
    simp[this,h3,h4]
 ·by_cases h2:po=2
  ·subst h2
   by_cases h3:pr=1
   ·subst h3;rfl
   ·by_cases h4:pr=2
    ·subst h4;rfl
    ·have:(decide (1≤pr) && decide (pr≤2))=false:=by rw[Bool.and_eq_false_iff,decide_eq_false_iff_not,decide_eq_false_iff_not];omega
     simp[this,h3]
  ·have:(decide (1≤po) && decide (po≤2))=false:=by rw[Bool.and_eq_false_iff,decide_eq_false_iff_not,decide_eq_false_iff_not];omega
   simp[this,h1,h2]
theorem protocol_any (po pr:Int) (w:World):Calls Tryz.prog 148 #[.int .i64 po,.int .i64 pr] w fun e w'=>e=.returned (.bool (vPro po pr))∧w'=w:=by
 rw[vPro_eq]
 by_cases h1:po=1
 ·have e1:(po == 1)=true:=by simp[h1]
  by_cases h3:pr=1
  ·have e2:(pr == 1)=true:=by simp[h3]
   go_enter Tryz.func148,Tryz.ntmps148
   go_wp2
   all_goals go_ret
   all_goals exact⟨by first | (simp_all;done) | (simp_all;rfl),rfl⟩
  ·have e2:(pr == 1)=false:=by simp[h3]
   go_enter Tryz.func148,Tryz.ntmps148
   go_wp2
   all_goals go_ret
   all_goals exact⟨by first | (simp_all;done) | (simp_all;rfl),rfl⟩
 ·have e1:(po == 1)=false:=by simp[h1]
  by_cases h2:po=2
  ·have e2:(po == 2)=true:=by simp[h2]
   go_enter Tryz.func148,Tryz.ntmps148
   go_wp2
   all_goals go_ret
   all_goals exact⟨by first | (simp_all;done) | (simp_all;rfl),rfl⟩
  ·have e2:(po == 2)=false:=by simp[h2]
   go_enter Tryz.func148,Tryz.ntmps148
   go_wp2
   all_goals go_ret
   all_goals exact⟨by first | (simp_all;done) | (simp_all;rfl),rfl⟩
set_option maxRecDepth 100000 in
theorem fault_any (i k:Int) (w:World):Calls Tryz.prog 122 #[.int .i64 i,.int .i64 k] w fun e w'=>e=.returned (finV 10 i k)∧But No w w':=by
 go_enter Tryz.func122,Tryz.ntmps122
 go_wp2
 refine bodyPost_ret (v:=finV 10 i k) (by simp[results,Tryz.results122,go_sem]) rfl ?_
 exact⟨rfl,(But.refl _ _).alloc _⟩
theorem vWhole_pro (s:Sys):vWhole s=(wi s.co 1 8 && (vPro s.po s.pr && (wi s.re 0 50 && (wi s.sw 0 50 && (wi s.fi 0 50 && (wi s.la 1 50 && (wi s.rs 0 8 && wi (s.ts.length:Int) 1 24))))))):=by
 unfold vWhole vPro
 simp only[Bool.and_assoc]
set_option maxRecDepth 100000 in
set_option maxHeartbeats 1000000 in
theorem system_any (s:Sys) (A:Option Addr) (n c:Nat) (w:World) (hn:s.ts.length=n):Calls Tryz.prog 121 #[sysV s A n c] w fun e w'=>e=.returned (.bool (vWhole s))∧But No w w':=by
 have CW:Hid (∀ n a b w,Calls Tryz.prog 147 #[.int .i64 n,.int .i64 a,.int .i64 b] w fun e w'=>e=.returned (.bool (wi n a b))∧w'=w):=within_any
 have CP:Hid (∀ a b w,Calls Tryz.prog 148 #[.int .i64 a,.int .i64 b] w fun e w'=>e=.returned (.bool (vPro a b))∧w'=w):=protocol_any
 rw[vWhole_pro,hn]
 obtain⟨a1,a2,a3,a4,a5,a6,a7,a8,ts⟩:=s
 clear hn
 unfold sysV
 go_enter Tryz.func121,Tryz.ntmps121
 go_wp2_with (first | (go_at_call 147;(with_reducible refine(CW.out _ _ _ _).mono ?_);rintro e w1 ⟨rfl,rfl⟩) | (go_at_call 148;(with_reducible refine(CP.out _ _ _).mono ?_);rintro e w1 ⟨rfl,rfl⟩))
 all_goals go_ret
 all_goals exact⟨by simp_all,(But.refl _ _).alloc _⟩
set_option maxRecDepth 100000 in
set_option maxHeartbeats 1000000 in
theorem dwhole_any (s:Sys) (A:Option Addr) (n c:Nat) (w:World) (hn:s.ts.length=n):Calls Tryz.prog 139 #[sysV s A n c] w fun e w'=>e=.returned (.bool (vWhole s))∧But No w w':=by
 have CW:Hid (∀ n a b w,Calls Tryz.prog 140 #[.int .i64 n,.int .i64 a,.int .i64 b] w fun e w'=>e=.returned (.bool (wi n a b))∧w'=w):=dwithin_any
 have HV:Hid (vWhole s=(wi s.co 1 8 && (wi s.po 1 2 && (wi s.pr 1 2 && (!(decide (s.pr=2) && !decide (s.po=1)) && (wi s.re 0 50 && (wi s.sw 0 50 && (wi s.fi 0 50 && (wi s.la 1 50 && (wi s.rs 0 8 && wi (n:Int) 1 24)))))))))):=by subst hn;rfl
 generalize vWhole s=V at HV ⊢
 obtain⟨a1,a2,a3,a4,a5,a6,a7,a8,ts⟩:=s
 clear hn
 unfold sysV
 go_enter Tryz.func139,Tryz.ntmps139
 go_wp2_with (go_at_call 140;(with_reducible refine(CW.out _ _ _ _).mono ?_);rintro e w1 ⟨rfl,rfl⟩)
 all_goals go_ret
 all_goals exact⟨by rw[HV.out];simp_all,(But.refl _ _).alloc _⟩
set_option maxRecDepth 100000 in
set_option maxHeartbeats 1000000 in
theorem task_any (t:Tsk) (A:Option Addr) (n c:Nat) (w:World) (hn:t.secs.length=n):Calls Tryz.prog 123 #[tskV t A n c] w fun e w'=>e=.returned (.bool (vHead t))∧But No w w':=by
 have CW:Hid (∀ n a b w,Calls Tryz.prog 147 #[.int .i64 n,.int .i64 a,.int .i64 b] w fun e w'=>e=.returned (.bool (wi n a b))∧w'=w):=within_any
 have HV:Hid (vHead t=(wi t.p 1 1099511627776 && (wi t.d 1 t.p && (wi t.w 1 t.d && decide (n≤4))))):=by subst hn;rfl
 generalize vHead t=V at HV ⊢
 obtain⟨a1,a2,a3,ts⟩:=t
 clear hn
 go_enter Tryz.func123,Tryz.ntmps123
 go_wp2_with (go_at_call 147;(with_reducible refine(CW.out _ _ _ _).mono ?_);rintro e w1 ⟨rfl,rfl⟩)
 all_goals go_ret
 all_goals exact⟨by rw[HV.out];first | (simp_all;done) | (simp_all;omega),(But.refl _ _).alloc _⟩
set_option maxRecDepth 100000 in
set_option maxHeartbeats 1000000 in
theorem section_any (x:Int × Int × Int) (e0 wc rs:Int) (w:World) (hx:inR x.1) (he:0≤e0) (hw:0≤wc) (hwc:inR wc) (hr:0≤rs) (hrs:inR rs):Calls Tryz.prog 124 #[secV x,.int .i64 e0,.int .i64 wc,.int .i64 rs] w fun e w'=>e=.returned (.bool (vSec rs wc e0 x))∧But No w w':=by
 have CW:Hid (∀ n a b w,Calls Tryz.prog 147 #[.int .i64 n,.int .i64 a,.int .i64 b] w fun e w'=>e=.returned (.bool (wi n a b))∧w'=w):=within_any
 obtain⟨x0,x1,x2⟩:=x
 have HV:Hid (vSec rs wc e0 (x0,x1,x2)=(decide (e0≤x0) && (wi x1 0 (rs-1) && wi x2 1 (wc-x0)))):=by
  show _=_
  unfold vSec
  cases h:decide (e0≤x0) && (wi x1 0 (rs-1) && wi x2 1 (wc-x0))with
  | true =>
   simp only[Bool.and_eq_true,decide_eq_true_eq] at h
   obtain⟨h1,h2,h3⟩:=h
   have h4:=wi_true.1 h3
   have h5:wi x0 e0 wc=true:=wi_true.2 ⟨h1,by omega⟩
   simp[h2,h3,h5]
  | false =>
   cases g:wi x0 e0 wc with
   | false=>simp
   | true =>
    have:=(wi_true.1 g).1
    have h6:decide (e0≤x0)=true:=by simpa using this
    rw[h6,Bool.true_and] at h
    simp only[Bool.true_and]
    exact h
 generalize vSec rs wc e0 (x0,x1,x2)=V at HV ⊢
 unfold inR at hx hwc hrs
 simp only at hx
 by_cases hlt:e0≤x0
 ·go_enter Tryz.func124,Tryz.ntmps124
  go_wp2_with (go_at_call 147;(with_reducible refine(CW.out _ _ _ _).mono ?_);rintro e w1 ⟨rfl,rfl⟩)
  all_goals go_ret
  all_goals exact⟨by rw[HV.out];simp_all,(But.refl _ _).alloc _⟩
 ·have hd:decide (e0≤x0)=false:=by simp;omega
  go_enter Tryz.func124,Tryz.ntmps124
  go_wp2_with (go_at_call 147;(with_reducible refine(CW.out _ _ _ _).mono ?_);rintro e w1 ⟨rfl,rfl⟩)
  all_goals go_ret
  all_goals exact⟨by rw[HV.out];simp_all;exact fun h=>absurd h (by omega),(But.refl _ _).alloc _⟩
end Go.Proofs.YtikcigjbhohboaaGreat.val
end
section
namespace Go.Proofs.YtikcigjbhohboaaGreat.val
open Go.Lib (hid)
open Go.ChangeShapes Go.WideShapes Go.ChangeAt Go.RowKit Go.Deep
def boxS (s:Sys) (A:Option Addr) (n c:Nat):Array Value:=#[.int .i64 s.co,.int .i64 s.po,.int .i64 s.pr,.int .i64 s.re,.int .i64 s.sw,.int .i64 s.fi,.int .i64 s.la,.int .i64 s.rs,.slice A n c]
def boxT (t:Tsk) (A:Option Addr) (n c:Nat):Array Value:=#[.int .i64 t.p,.int .i64 t.d,.int .i64 t.w,.slice A n c]
abbrev S9 (w:World) (b:Nat) (s:Sys) (A:Option Addr) (n c:Nat):Prop:=w.cell? ⟨b,0,none⟩=some (.int .i64 s.co)∧w.cell? ⟨b,1,none⟩=some (.int .i64 s.po)∧w.cell? ⟨b,2,none⟩=some (.int .i64 s.pr)∧w.cell? ⟨b,3,none⟩=some (.int .i64 s.re)∧w.cell? ⟨b,4,none⟩=some (.int .i64 s.sw)∧w.cell? ⟨b,5,none⟩=some (.int .i64 s.fi)∧w.cell? ⟨b,6,none⟩=some (.int .i64 s.la)∧w.cell? ⟨b,7,none⟩=some (.int .i64 s.rs)∧w.cell? ⟨b,8,none⟩=some (.slice A n c)
theorem sys_cells {s:Sys} {A:Option Addr} {n c:Nat} {w:World} {b:Nat} (h:Blk w b (boxS s A n c) 24):S9 w b s A n c :=
 ⟨h.cell rfl,h.cell rfl,h.cell rfl,h.cell rfl,h.cell rfl,h.cell rfl,h.cell rfl,h.cell rfl,h.cell rfl⟩
theorem _root_.Go.Proofs.YtikcigjbhohboaaGreat.RTsk.at1 {w:World} {A:Option Addr} {n:Nat} {ts:List Tsk} (h:RTsk w A n ts) {k:Nat} {t:Tsk} (ht:ts[k]? = some t) :
  ∃ b off A' c',A=some ⟨b,off,none⟩∧w.cell? ⟨b,off+k*4,none⟩=some (.int .i64 t.p)∧w.cell? ⟨b,off+k*4+1,none⟩=some (.int .i64 t.d)∧w.cell? ⟨b,off+k*4+2,none⟩=some (.int .i64 t.w)∧w.cell? ⟨b,off+k*4+3,none⟩=some (.slice A' t.secs.length c')∧t.secs.length≤c'∧RSec w A' t.secs.length t.secs:=by
 have hk:k<ts.length:=(List.getElem?_eq_some_iff.1 ht).1
 obtain⟨b,off,e,_,hc⟩:=h.at_ (by rw[←h.len];omega)
 obtain⟨h1,h2,h3,A',c',h4,h5,h6⟩:=hc k t ht
 exact⟨b,off,A',c',e,h1,h2,h3,h4,h5,h6⟩
theorem _root_.Go.Proofs.YtikcigjbhohboaaGreat.RSec.at1 {w:World} {A:Option Addr} {n:Nat} {l:List (Int × Int × Int)} (h:RSec w A n l) {k:Nat} {x:Int × Int × Int} (hx:l[k]? = some x) :
  ∃ b off,A=some ⟨b,off,none⟩∧w.cell? ⟨b,off+k*3,none⟩=some (.int .i64 x.1)∧w.cell? ⟨b,off+k*3+1,none⟩=some (.int .i64 x.2.1)∧w.cell? ⟨b,off+k*3+2,none⟩=some (.int .i64 x.2.2):=by
 have hk:k<l.length:=(List.getElem?_eq_some_iff.1 hx).1
 obtain⟨b,off,e,_,hc⟩:=h.at_ (by rw[←h.len];omega)
 obtain⟨h1,h2,h3⟩:=hc k x hx
 exact⟨b,off,e,h1,h2,h3⟩
def fE (s:Sys):Nat:=if (vFind s).1=true then 10 else 0
theorem find_whole {s:Sys} (h:vWhole s=false):fE s=10∧(vFind s).2.1 = -1∧(vFind s).2.2 = -1:=by
 have e:vFind s=(true, -1, -1):=by unfold vFind;rw[if_neg (by rw[h];simp)]
 unfold fE;rw[e];exact⟨rfl,rfl,rfl⟩
theorem find_some {s:Sys} (h:vWhole s=true) {i:Nat} {k:Int} (hs:vTasks s.rs 0 s.ts=some (i,k)):fE s=10∧(vFind s).2.1=(i:Int)∧(vFind s).2.2=k:=by
 have e:vFind s=(true,(i:Int),k):=by unfold vFind;rw[if_pos h,hs]
 unfold fE;rw[e];exact⟨rfl,rfl,rfl⟩
theorem find_none {s:Sys} (h:vWhole s=true) (hs:vTasks s.rs 0 s.ts=none):fE s=0∧(vFind s).2.1 = -1∧(vFind s).2.2 = -1:=by
 have e:vFind s=(false, -1, -1):=by unfold vFind;rw[if_pos h,hs]
 unfold fE;rw[e];exact⟨rfl,rfl,rfl⟩
theorem vTasks_good {res:Int} {ts:List Tsk} (h:∀ j t,j<ts.length→ts[j]? = some t→vTsk res t=true):vTasks res 0 ts=none:=by
 rw[vTasks_skip h,List.drop_length,vTasks]
theorem whole_parts {s:Sys} (h:vWhole s=true):(1≤s.co∧s.co≤8)∧(0≤s.rs∧s.rs≤8)∧1≤s.ts.length∧s.ts.length≤24:=by
 unfold vWhole at h
 simp only[Bool.and_eq_true,wi_true] at h
 obtain⟨h1,_,_,_,_,_,_,_,h2,h3⟩:=h
 omega
theorem head_parts {t:Tsk} (h:vHead t=true):(1≤t.p∧t.p≤1099511627776)∧(1≤t.d∧t.d≤t.p)∧(1≤t.w∧t.w≤t.d)∧t.secs.length≤4:=by
 unfold vHead at h
 simp only[Bool.and_eq_true,wi_true,decide_eq_true_eq] at h
 exact h
theorem sec_parts {rs w e:Int} {x:Int × Int × Int} (h:vSec rs w e x=true):e≤x.1∧x.1≤w∧(0≤x.2.1∧x.2.1≤rs-1)∧1≤x.2.2∧x.2.2≤w-x.1:=by
 unfold vSec at h
 simp only[Bool.and_eq_true,wi_true] at h
 omega
theorem vEnd_succ {q:Nat} {l:List (Int × Int × Int)} {x:Int × Int × Int} (h:l[q]? = some x):vEnd (q+1) l=x.1+x.2.2:=by
 rw[vEnd];simp[List.getD,h]
theorem store3 {w:World} {b:Nat} {e:TypeId} {x0 x1 x2:Value} (h:Blk w b #[x0,x1,x2] e) (y0 y1 y2:Value):Blk (((w.setCell ⟨b,0,none⟩ y0).setCell ⟨b,1,none⟩ y1).setCell ⟨b,2,none⟩ y2) b #[y0,y1,y2] e:=by
 simpa using ((h.set 0 y0).set 1 y1).set 2 y2
structure CK (w wr:World) (b1 b2 b3:Nat) (s:Sys) (A:Option Addr) (n c:Nat):Prop where
 but:But No w wr
 bs:Blk wr b1 (boxS s A n c) 24
 br:Blk wr b2 #[.int .i64 0,.int .i64 0,.int .i64 0] 173
 bf:Blk wr b3 #[.int .i64 0,.int .i64 (-1),.int .i64 (-1)] 173
 new2:w.heap.size≤b2
 new3:w.heap.size≤b3
 ne:b2≠b3
theorem CK.step {w wr w2:World} {b1 b2 b3:Nat} {s:Sys} {A:Option Addr} {n c:Nat} (h:CK w wr b1 b2 b3 s A n c) (hb:But No wr w2):CK w w2 b1 b2 b3 s A n c :=
 ⟨h.but.trans hb,h.bs.but hb (fun f=>f),h.br.but hb (fun f=>f),h.bf.but hb (fun f=>f),h.new2,h.new3,h.ne⟩
theorem CK.done {w wr:World} {b1 b2 b3:Nat} {s:Sys} {A:Option Addr} {n c:Nat} (h:CK w wr b1 b2 b3 s A n c) (y0 y1 y2:Value):∃ w3,((wr.setCell ⟨b2,0,none⟩ y0).setCell ⟨b2,1,none⟩ y1).setCell ⟨b2,2,none⟩ y2=w3∧But No w w3∧w3.cell? ⟨b2,0,none⟩=some y0∧w3.cell? ⟨b2,1,none⟩=some y1∧w3.cell? ⟨b2,2,none⟩=some y2:=by
 have hb:=store3 h.br y0 y1 y2
 exact⟨_,rfl,((h.but.setNew h.new2 _).setNew h.new2 _).setNew h.new2 _,hb.cell rfl,hb.cell rfl,hb.cell rfl⟩
theorem CK.fault {w wr:World} {b1 b2 b3:Nat} {s:Sys} {A:Option Addr} {n c:Nat} (h:CK w wr b1 b2 b3 s A n c) (y0 y1 y2:Value):∃ w3,((((((wr.setCell ⟨b3,0,none⟩ y0).setCell ⟨b3,1,none⟩ y1).setCell ⟨b3,2,none⟩ y2).setCell ⟨b2,0,none⟩ y0).setCell ⟨b2,1,none⟩ y1).setCell ⟨b2,2,none⟩ y2)=w3∧But No w w3∧w3.cell? ⟨b2,0,none⟩=some y0∧w3.cell? ⟨b2,1,none⟩=some y1∧w3.cell? ⟨b2,2,none⟩=some y2:=by
 have hr:=((h.br.other (a:=⟨b3,0,none⟩) h.ne y0).other (a:=⟨b3,1,none⟩) h.ne y1).other (a:=⟨b3,2,none⟩) h.ne y2
 have hb:=store3 hr y0 y1 y2
 exact⟨_,rfl,(((((h.but.setNew h.new3 _).setNew h.new3 _).setNew h.new3 _).setNew h.new2 _).setNew h.new2 _).setNew h.new2 _,hb.cell rfl,hb.cell rfl,hb.cell rfl⟩
set_option maxRecDepth 100000 in
set_option maxHeartbeats 4000000 in
theorem check_any (s:Sys) (A:Option Addr) (n c:Nat) (w:World) (h:RSys w A n c s):Calls Tryz.prog 104 #[sysV s A n c] w fun e w'=>e=.returned (finV (fE s) (vFind s).2.1 (vFind s).2.2)∧But No w w':=by
 have HR:=hid h.ts
 have HN:=hid h.ts.len
 have hmx:=h.ts.max
 have HFT:=hid h.fit
 have CY:Hid (∀ W,Calls Tryz.prog 121 #[sysV s A n c] W fun e w'=>e=.returned (.bool (vWhole s))∧But No W w'):=fun W=>system_any s A n c W HN.out
 have CF:Hid (∀ (i k:Int) W,Calls Tryz.prog 122 #[.int .i64 i,.int .i64 k] W fun e w'=>e=.returned (finV 10 i k)∧But No W w'):=fault_any
 clear h
 cases hw:vWhole s with
 | false =>
  rw[hw] at CY
  have HE:=hid (find_whole hw)
  clear hw
  unfold sysV at CY ⊢
  go_enter Tryz.func104,Tryz.ntmps104
  go_wp2_with fail
  go_step3
  go_wp2_with (first | (go_at_call 121;(with_reducible refine(CY.out _).mono ?_);rintro e w1 ⟨rfl,hb1⟩;have HB1:=hid ((((But.refl No w).alloc _).alloc _).trans hb1);have HX:=hid ((blk2 w _ _ _).but hb1 (fun f=>f));clear hb1) | (go_at_call 122;(with_reducible refine(CF.out _ _ _).mono ?_);rintro e w2 ⟨rfl,hb2⟩;have HB2:=hid (HB1.out.trans hb2);have hx2:=HX.out.but hb2 (fun f=>f);have HX2:=hid hx2;have f0:=hx2.frozen 0;have f1:=hx2.frozen 1;have f2:=hx2.frozen 2;have g0:=hx2.cell (o:=0) rfl;have g1:=hx2.cell (o:=1) rfl;have g2:=hx2.cell (o:=2) rfl;clear hx2 hb2))
  obtain⟨w3,hw3,hb3,k0,k1,k2⟩:∃ w3,((w2.setCell ⟨w.heap.size+1,0,none⟩ (.int .i64 10)).setCell ⟨w.heap.size+1,1,none⟩ (.int .i64 (-1))).setCell ⟨w.heap.size+1,2,none⟩ (.int .i64 (-1))=w3∧But No w w3∧w3.cell? ⟨w.heap.size+1,0,none⟩=some (.int .i64 10)∧w3.cell? ⟨w.heap.size+1,1,none⟩=some (.int .i64 (-1))∧w3.cell? ⟨w.heap.size+1,2,none⟩=some (.int .i64 (-1)):=by
   have hb:=store3 HX2.out (.int .i64 10) (.int .i64 (-1)) (.int .i64 (-1))
   exact⟨_,rfl,((HB2.out.setNew (Nat.le_succ _) _).setNew (Nat.le_succ _) _).setNew (Nat.le_succ _) _,hb.cell rfl,hb.cell rfl,hb.cell rfl⟩
  rw[hw3]
  clear hw3
  simp only[Exit.noGoto_ret]
  refine bodyPost_ret (v:=finV 10 (-1) (-1)) (by simp[results,Tryz.results104,go_sem,k0,k1,k2]) rfl ?_
  exact⟨by rw[HE.out.1,HE.out.2.1,HE.out.2.2],hb3⟩
 | true =>
  rw[hw] at CY
  obtain⟨_,⟨hr0,hr1⟩,hn1,hn2⟩:=whole_parts hw
  have HW:=hid hw
  rw[HN.out] at hn1 hn2
  clear hw
  have CT:Hid (∀ (t:Tsk) (A:Option Addr) (n c:Nat) (W:World),t.secs.length=n→Calls Tryz.prog 123 #[tskV t A n c] W fun e w'=>e=.returned (.bool (vHead t))∧But No W w'):=fun t A n c W h=>task_any t A n c W h
  have CS:Hid (∀ (x:Int × Int × Int) (e0 wc rs:Int) (W:World),inR x.1→0≤e0→0≤wc→inR wc→0≤rs→inR rs→Calls Tryz.prog 124 #[secV x,.int .i64 e0,.int .i64 wc,.int .i64 rs] W fun e w'=>e=.returned (.bool (vSec rs wc e0 x))∧But No W w'):=section_any
  unfold sysV at CY ⊢
  go_enter Tryz.func104,Tryz.ntmps104
  go_wp2_with fail
  go_step3
  go_wp2_with (go_at_call 121;(with_reducible refine(CY.out _).mono ?_);rintro e w1 ⟨rfl,hb1⟩;have HB1:=hid ((((But.refl No w).alloc _).alloc _).trans hb1);have HX:=hid ((blk2 w _ _ _).but hb1 (fun f=>f));have hs1:=((Blk.new w #[.int .i64 s.co,.int .i64 s.po,.int .i64 s.pr,.int .i64 s.re,.int .i64 s.sw,.int .i64 s.fi,.int .i64 s.la,.int .i64 s.rs,.slice A n c] 24).alloc _).but hb1 (fun f=>f);have HS1:Hid (Blk w1 w.heap.size (boxS s A n c) 24):=hs1;have d8:w1.cell? ⟨w.heap.size,8,none⟩=some (.slice A n c):=hs1.cell (o:=8) rfl;clear hs1 hb1)
  generalize hb1:w.heap.size=b1 at HS1 d8 ⊢
  obtain⟨b2,hb2⟩:∃ b2,b1+1=b2:=⟨_,rfl⟩
  obtain⟨b3,hb3⟩:∃ b3,w1.heap.size=b3:=⟨_,rfl⟩
  obtain⟨w0,hw0,HK⟩:∃ w0,w1.alloc (.cells #[.int .i64 0,.int .i64 (-1),.int .i64 (-1)] 173)=w0∧Hid (CK w w0 b1 b2 b3 s A n c):=by
   subst hb1 hb2 hb3
   have hx:=HX.out.lt
   exact⟨_,rfl,HB1.out.alloc _,HS1.out.alloc _,HX.out.alloc _,Blk.new _ _ _,by omega,by omega,by omega⟩
  have hne:b2≠b3:=HK.out.ne
  have hne':b3≠b2:=hne.symm
  rw[hb2,hb3,hw0]
  clear hb1 hb2 hb3 hw0 HX HS1 HB1 d8 CY
  have d8:w0.cell? ⟨b1,8,none⟩=some (.slice A n c):=HK.out.bs.cell (o:=8) rfl
  go_step3
  go_wp2_with fail
  clear d8
  go_loopw [17] (fun i wr=>∃ k:Nat,i=.int .i64 (k:Int)∧k≤n∧Hid (CK w wr b1 b2 b3 s A n c)∧Hid (∀ j t,j<k→s.ts[j]? = some t→vTsk s.rs t=true)) (fun i _=>n-(intOf i).toNat)
  case atStart=>exact⟨0,rfl,by omega,HK,fun j _ hj=>absurd hj (by omega)⟩
  case round =>
   obtain⟨k,rfl,hk,HK1,HG⟩:=hrel
   clear HK
   by_cases hlt:k<n
   ·obtain⟨t,ht⟩:∃ t,s.ts[k]? = some t:=⟨_,List.getElem?_eq_getElem (by rw[HN.out];exact hlt)⟩
    obtain⟨b,off,A',c',rfl,c0,c1,c2,c3,hcc,hS⟩:=(HR.out.no HK1.out.but).at1 ht
    have HTK:=hid ht
    have HTF:=hid (HR.out.fit t (List.mem_of_getElem? ht))
    have HS:=hid hS
    have hm:=hS.max
    obtain⟨m,hm4⟩:∃ m,t.secs.length=m:=⟨_,rfl⟩
    have HM:=hid hm4
    have CTT:Hid (∀ W,Calls Tryz.prog 123 #[tskV t A' m c'] W fun e w'=>e=.returned (.bool (vHead t))∧But No W w'):=fun W=>CT.out t A' m c' W hm4
    rw[hm4] at c3 hcc hm HS
    clear hS ht hm4
    cases hh:vHead t with
    | false =>
     have HE:=hid (find_some HW.out (vTasks_head HG.out HTK.out hh))
     rw[hh] at CTT
     clear hh
     go_wp2_with (first | (go_at_call 123;(with_reducible refine(CTT.out _).mono ?_);rintro e w2 ⟨rfl,hbt⟩;have HK2:=hid (HK1.out.step (((But.refl No wr).alloc _).trans hbt));clear hbt) | (go_at_call 122;(with_reducible refine(CF.out _ _ _).mono ?_);rintro e w9 ⟨rfl,hb9⟩;have HK9:=hid ((HK2.out).step hb9);have f0:=HK9.out.bf.frozen 0;have f1:=HK9.out.bf.frozen 1;have f2:=HK9.out.bf.frozen 2;have r0:=HK9.out.br.frozen 0;have r1:=HK9.out.br.frozen 1;have r2:=HK9.out.br.frozen 2;have g0:w9.cell? ⟨b3,0,none⟩=some (.int .i64 0):=HK9.out.bf.cell (o:=0) rfl;have g1:w9.cell? ⟨b3,1,none⟩=some (.int .i64 (-1)):=HK9.out.bf.cell (o:=1) rfl;have g2:w9.cell? ⟨b3,2,none⟩=some (.int .i64 (-1)):=HK9.out.bf.cell (o:=2) rfl;have q0:w9.cell? ⟨b2,0,none⟩=some (.int .i64 0):=HK9.out.br.cell (o:=0) rfl;have q1:w9.cell? ⟨b2,1,none⟩=some (.int .i64 0):=HK9.out.br.cell (o:=1) rfl;have q2:w9.cell? ⟨b2,2,none⟩=some (.int .i64 0):=HK9.out.br.cell (o:=2) rfl;clear hb9))
     obtain⟨w3,hw3,hb3,k0,k1,k2⟩:=HK9.out.fault (.int .i64 10) (.int .i64 (k:Int)) (.int .i64 (-1))
     rw[hw3]
     clear hw3
     simp only[Exit.noGoto_ret]
     refine bodyPost_ret (v:=finV 10 (k:Int) (-1)) (by simp[results,Tryz.results104,go_sem,k0,k1,k2]) rfl ?_
     exact⟨by rw[HE.out.1,HE.out.2.1,HE.out.2.2],hb3⟩
    | true =>
     have hp:=head_parts hh
     rw[HM.out] at hp
     obtain⟨⟨hp1,hp2⟩,⟨hd1,hd2⟩,⟨hw1,hw2⟩,hm4⟩:=hp
     have HH:=hid hh
     rw[hh] at CTT
     clear hh
     go_wp2_with (go_at_call 123;(with_reducible refine(CTT.out _).mono ?_);rintro e w2 ⟨rfl,hbt⟩;have HK2:=hid (HK1.out.step (((But.refl No wr).alloc _).trans hbt));have hxt:=(Blk.new wr #[.int .i64 t.p,.int .i64 t.d,.int .i64 t.w,.slice A' m c'] 97).but hbt (fun f=>f);have HXT:=hid hxt;have HS2:=hid (HS.out.no (((But.refl No wr).alloc _).trans hbt));have t3:w2.cell? ⟨wr.heap.size,3,none⟩=some (.slice A' m c'):=hxt.cell (o:=3) rfl;clear hbt hxt)
     generalize hbt:wr.heap.size=bt at HXT t3 ⊢
     clear hbt c0 c1 c2 c3 HK1 HS CTT
     go_loopw [6,30] (fun u i wr=>∃ (q:Nat) (e0:Int),u=.int .i64 e0∧i=.int .i64 (q:Int)∧q≤m∧0≤e0∧e0≤t.w∧Hid (e0=vEnd q t.secs)∧Hid (CK w wr b1 b2 b3 s (some ⟨b,off,none⟩) n c)∧Hid (Blk wr bt (boxT t A' m c') 97)∧Hid (RSec wr A' m t.secs)∧Hid (∀ j y,j<q→t.secs[j]? = some y→vSec s.rs t.w (vEnd j t.secs) y=true)) (fun _ i _=>m-(intOf i).toNat)
     case atStart=>exact⟨0,0,rfl,rfl,by omega,by omega,by omega,rfl,HK2,HXT,HS2,fun j _ hj=>absurd hj (by omega)⟩
     case round =>
      obtain⟨q,e0,rfl,rfl,hq,he0,he1,HV,HKQ,HXQ,HSQ,HGQ⟩:=hrel
      clear HK2 HXT HS2 t3
      by_cases hqm:q<m
      ·obtain⟨x,hx⟩:∃ x,t.secs[q]? = some x:=⟨_,List.getElem?_eq_getElem (by rw[HM.out];exact hqm)⟩
       obtain⟨bb,oo,rfl,e1,e2,e3⟩:=HSQ.out.at1 hx
       have hxf:=HSQ.out.fit x (List.mem_of_getElem? hx)
       have CSS:Hid (∀ W,Calls Tryz.prog 124 #[secV x,.int .i64 e0,.int .i64 t.w,.int .i64 s.rs] W fun e w'=>e=.returned (.bool (vSec s.rs t.w e0 x))∧But No W w'):=fun W=>CS.out x e0 t.w s.rs W hxf.1 he0 (by omega) HTF.out.2.2 hr0 HFT.out.2.2.2.2.2.2.2
       have d7:wr.cell? ⟨b1,7,none⟩=some (.int .i64 s.rs):=HKQ.out.bs.cell (o:=7) rfl
       have t2:wr.cell? ⟨bt,2,none⟩=some (.int .i64 t.w):=HXQ.out.cell (o:=2) rfl
       have HX:=hid hx
       clear hx
       cases hv:vSec s.rs t.w e0 x with
       | false =>
        have HE:=hid (find_some HW.out (vTasks_sec HG.out HTK.out HH.out (vSecs_bad HGQ.out HX.out (by rw[←HV.out];exact hv))))
        rw[hv] at CSS
        clear hv hxf
        obtain⟨x0,x1,x2⟩:=x
        simp only at e1 e2 e3
        have d7':(wr.alloc (.cells #[.int .i64 x0,.int .i64 x1,.int .i64 x2] 120)).cell? ⟨b1,7,none⟩=some (.int .i64 s.rs):=cell_keep d7 ((But.refl No wr).alloc _)
        have t2':(wr.alloc (.cells #[.int .i64 x0,.int .i64 x1,.int .i64 x2] 120)).cell? ⟨bt,2,none⟩=some (.int .i64 t.w):=cell_keep t2 ((But.refl No wr).alloc _)
        go_wp2_with (first | (go_at_call 124;(with_reducible refine(CSS.out _).mono ?_);rintro e w4 ⟨rfl,hb4⟩;have HK4:=hid (HKQ.out.step (((But.refl No wr).alloc _).trans hb4));clear hb4) | (go_at_call 122;(with_reducible refine(CF.out _ _ _).mono ?_);rintro e w9 ⟨rfl,hb9⟩;have HK9:=hid ((HK4.out).step hb9);have f0:=HK9.out.bf.frozen 0;have f1:=HK9.out.bf.frozen 1;have f2:=HK9.out.bf.frozen 2;have r0:=HK9.out.br.frozen 0;have r1:=HK9.out.br.frozen 1;have r2:=HK9.out.br.frozen 2;have g0:w9.cell? ⟨b3,0,none⟩=some (.int .i64 0):=HK9.out.bf.cell (o:=0) rfl;have g1:w9.cell? ⟨b3,1,none⟩=some (.int .i64 (-1)):=HK9.out.bf.cell (o:=1) rfl;have g2:w9.cell? ⟨b3,2,none⟩=some (.int .i64 (-1)):=HK9.out.bf.cell (o:=2) rfl;have q0:w9.cell? ⟨b2,0,none⟩=some (.int .i64 0):=HK9.out.br.cell (o:=0) rfl;have q1:w9.cell? ⟨b2,1,none⟩=some (.int .i64 0):=HK9.out.br.cell (o:=1) rfl;have q2:w9.cell? ⟨b2,2,none⟩=some (.int .i64 0):=HK9.out.br.cell (o:=2) rfl;clear hb9))
        obtain⟨w3,hw3,hb3,k0,k1,k2⟩:=HK9.out.fault (.int .i64 10) (.int .i64 (k:Int)) (.int .i64 (q:Int))
        rw[hw3]
        clear hw3
        simp only[Exit.noGoto_ret]
        refine bodyPost_ret (v:=finV 10 (k:Int) (q:Int)) (by simp[results,Tryz.results104,go_sem,k0,k1,k2]) rfl ?_
        exact⟨by rw[HE.out.1,HE.out.2.1,HE.out.2.2],hb3⟩
       | true =>
        have hpp:=sec_parts hv
        have HVT:=hid hv
        rw[hv] at CSS
        clear hv
        obtain⟨x0,x1,x2⟩:=x
        simp only at e1 e2 e3 hpp
        have d7':(wr.alloc (.cells #[.int .i64 x0,.int .i64 x1,.int .i64 x2] 120)).cell? ⟨b1,7,none⟩=some (.int .i64 s.rs):=cell_keep d7 ((But.refl No wr).alloc _)
        have t2':(wr.alloc (.cells #[.int .i64 x0,.int .i64 x1,.int .i64 x2] 120)).cell? ⟨bt,2,none⟩=some (.int .i64 t.w):=cell_keep t2 ((But.refl No wr).alloc _)
        obtain⟨p1,p2,p3,p4,p5⟩:=hpp
        clear hxf
        go_wp2_with (go_at_call 124;(with_reducible refine(CSS.out _).mono ?_);rintro e w4 ⟨rfl,hb4⟩;have HB4:=hid (((But.refl No wr).alloc _).trans hb4);have hxc:=(Blk.new wr #[.int .i64 x0,.int .i64 x1,.int .i64 x2] 120).but hb4 (fun f=>f);have y0:w4.cell? ⟨wr.heap.size,0,none⟩=some (.int .i64 x0):=hxc.cell (o:=0) rfl;have y2:w4.cell? ⟨wr.heap.size,2,none⟩=some (.int .i64 x2):=hxc.cell (o:=2) rfl;clear hb4 hxc)
        go_roundw
        case rel =>
         refine⟨q+1,x0+x2,by go_num,by go_num,by omega,by omega,by omega,(vEnd_succ HX.out).symm,HKQ.out.step HB4.out,HXQ.out.but HB4.out (fun f=>f),HSQ.out.no HB4.out,fun j y hj hy=>?_⟩
         by_cases e:j=q
         ·subst e
          rw[HX.out] at hy
          cases hy
          rw[←HV.out];exact HVT.out
         ·exact HGQ.out j y (by omega) hy
        case measure=>simp[intOf];omega
      ·have HTT:Hid (vTsk s.rs t=true):=by
        show _=_
        unfold vTsk
        rw[HH.out,vSecs_good (fun j y hy=>HGQ.out j y (by have:=(List.getElem?_eq_some_iff.1 hy).1;rw[HM.out] at this;omega) hy)]
        rfl
       go_wp2
       go_roundw
       case rel =>
        refine⟨k+1,by go_num,by omega,HKQ,fun j t hj hjt=>?_⟩
        by_cases e:j=k
        ·subst e
         rw[HTK.out] at hjt
         cases hjt
         exact HTT.out
        ·exact HG.out j t (by omega) hjt
       case measure=>simp[intOf];omega
   ·have HE:=hid (find_none HW.out (vTasks_good (fun j t hj=>HG.out j t (by rw[HN.out] at hj;omega))))
    have f0:=HK1.out.bf.frozen 0
    have f1:=HK1.out.bf.frozen 1
    have f2:=HK1.out.bf.frozen 2
    have r0:=HK1.out.br.frozen 0
    have r1:=HK1.out.br.frozen 1
    have r2:=HK1.out.br.frozen 2
    have g0:wr.cell? ⟨b3,0,none⟩=some (.int .i64 0):=HK1.out.bf.cell (o:=0) rfl
    have g1:wr.cell? ⟨b3,1,none⟩=some (.int .i64 (-1)):=HK1.out.bf.cell (o:=1) rfl
    have g2:wr.cell? ⟨b3,2,none⟩=some (.int .i64 (-1)):=HK1.out.bf.cell (o:=2) rfl
    have q0:wr.cell? ⟨b2,0,none⟩=some (.int .i64 0):=HK1.out.br.cell (o:=0) rfl
    have q1:wr.cell? ⟨b2,1,none⟩=some (.int .i64 0):=HK1.out.br.cell (o:=1) rfl
    have q2:wr.cell? ⟨b2,2,none⟩=some (.int .i64 0):=HK1.out.br.cell (o:=2) rfl
    go_wp2
    obtain⟨w3,hw3,hb3,k0,k1,k2⟩:=HK1.out.done (.int .i64 0) (.int .i64 (-1)) (.int .i64 (-1))
    rw[hw3]
    clear hw3
    simp only[Exit.noGoto_ret]
    refine bodyPost_ret (v:=finV 0 (-1) (-1)) (by simp[results,Tryz.results104,go_sem,k0,k1,k2]) rfl ?_
    exact⟨by rw[HE.out.1,HE.out.2.1,HE.out.2.2],hb3⟩
end Go.Proofs.YtikcigjbhohboaaGreat.val
end
section
namespace Go.Proofs.YtikcigjbhohboaaGreat.val
open Go.ChangeShapes Go.WideShapes Go.ChangeAt Go.RowKit Go.Deep
theorem fE_right (s:Sys):(right s=true∧fE s=0)∨(right s=false∧fE s=10):=by
 rw[right_find]
 unfold fE
 cases (vFind s).1 with
 | true=>exact .inr ⟨rfl,rfl⟩
 | false=>exact .inl ⟨rfl,rfl⟩
theorem field_fin (e i k:Int) (W:World):(Instr.field 173 (.agg #[.int .i64 e,.int .i64 i,.int .i64 k]) 0).run Tryz.prog W=.ok (.int .i64 e) W:=by
 simp[Instr.field,go_sem,asAgg]
attribute [local go_sem] field_fin
set_option maxRecDepth 100000 in
theorem right_any (s:Sys) (A:Option Addr) (n c:Nat) (w:World) (h:RSys w A n c s):Calls Tryz.prog 75 #[sysV s A n c] w fun e w'=>e=.returned (.bool (right s))∧But No w w':=by
 have CC:Hid (∀ W,But No w W→Calls Tryz.prog 104 #[sysV s A n c] W fun e w'=>e=.returned (.agg #[.int .i64 (fE s:Int),.int .i64 (vFind s).2.1,.int .i64 (vFind s).2.2])∧But No W w'):=fun W hb=>check_any s A n c W (h.no hb)
 clear h
 generalize (vFind s).2.1=f1,(vFind s).2.2=f2 at CC
 rcases fE_right s with⟨h1,h2⟩ | ⟨h1,h2⟩
 ·rw[h2] at CC
  rw[h1]
  clear h1 h2
  unfold sysV at CC ⊢
  go_enter Tryz.func75,Tryz.ntmps75
  go_wp2_with (go_at_call 104;refine(CC.out _ ((But.refl No w).alloc _)).mono ?_;rintro e w1 ⟨rfl,hb1⟩;have HB1:=Lib.hid (((But.refl No w).alloc _).trans hb1);clear hb1)
  go_ret
  exact⟨rfl,HB1.out⟩
 ·rw[h2] at CC
  rw[h1]
  clear h1 h2
  unfold sysV at CC ⊢
  go_enter Tryz.func75,Tryz.ntmps75
  go_wp2_with (go_at_call 104;refine(CC.out _ ((But.refl No w).alloc _)).mono ?_;rintro e w1 ⟨rfl,hb1⟩;have HB1:=Lib.hid (((But.refl No w).alloc _).trans hb1);clear hb1)
  go_ret
  exact⟨rfl,HB1.out⟩
end Go.Proofs.YtikcigjbhohboaaGreat.val
end
