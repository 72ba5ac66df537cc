/- Part 13 of a proof: ReR1 ReC1 ReC2 ReC3. -/
import Derived.Deep.DeepCutAuto
import Derived.Deep.RegionHeld3
import Derived.LoopIn
import Derived.LoopNIn
import Derived.OwnWalkIn
import Derived.RangeFuncBound
import Derived.RangeFuncCalls
import Derived.RangeFuncLeaves
import Derived.RangeFuncNested
import Derived.Shelf.Abstract
import Derived.Shelf.RegionOpen
import Derived.TacticsInMore
import Derived.WalkKit
import Derived.Test.YtikcigjbhohboaaGreatM04
import Derived.Test.YtikcigjbhohboaaGreatM12
section
namespace Go.Proofs.YtikcigjbhohboaaGreat.rsp
open Go.ChangeShapes Go.WideShapes Go.ChangeAt Go.RowKit Go.Deep
theorem retp {a b c d:Int} (h:a=c) (k:b=d):Ending.returned (.tuple #[.int .i64 a,.int .i64 b])=.returned (.tuple #[.int .i64 c,.int .i64 d]):=by rw[h,k]
end Go.Proofs.YtikcigjbhohboaaGreat.rsp
end
section
namespace Go.Proofs.YtikcigjbhohboaaGreat.rsp
open Go.Lib (hid)
open Go.ChangeShapes Go.WideShapes Go.ChangeAt Go.RowKit Go.Deep
def ldV (x:Ld):Value:=.agg #[.int .i64 x.w,.int .i64 x.p,.int .i64 x.j]
theorem inside_any (a n:Int) (w:World):Calls Tryz.prog 159 #[.int .i64 a,.int .i64 n] w fun e w'=>e=.returned (.bool (inT a n))∧w'=w:=by
 by_cases h1:a≤n
 · by_cases h2:n≤1099511627776
   ·have HE:Hid (inT a n=true):=hid (inT_true.2 ⟨h1,h2⟩)
    go_enter Tryz.func159,Tryz.ntmps159
    go_wp2
    go_ret
    exact⟨ret_bool HE.out.symm,rfl⟩
   ·have HE:Hid (inT a n=false):=hid (inT_false.2 (by omega))
    go_enter Tryz.func159,Tryz.ntmps159
    go_wp2
    go_ret
    exact⟨ret_bool HE.out.symm,rfl⟩
 · have HE:Hid (inT a n=false):=hid (inT_false.2 (by omega))
   go_enter Tryz.func159,Tryz.ntmps159
   go_wp2
   go_ret
   exact⟨ret_bool HE.out.symm,rfl⟩
set_option maxHeartbeats 1000000 in
theorem ldright_any (x:Ld) (w:World):Calls Tryz.prog 182 #[ldV x] w fun e w'=>e=.returned (.bool (okD x))∧But No w w':=by
 obtain⟨x0,x1,x2⟩:=x
 have HE:Hid (∀ b0 b1 b2:Bool,inT 0 x0=b0→inT 1 x1=b1→inT 0 x2=b2→okD ⟨x0,x1,x2⟩=(b0 && (b1 && b2))):=hid (fun b0 b1 b2 h0 h1 h2=>by unfold okD;rw[←h0,←h1,←h2])
 have C0:Hid (∀ W,Calls Tryz.prog 159 #[.int .i64 0,.int .i64 x0] W fun e w'=>e=.returned (.bool (inT 0 x0))∧w'=W):=hid (fun W=>inside_any 0 x0 W)
 have C1:Hid (∀ W,Calls Tryz.prog 159 #[.int .i64 1,.int .i64 x1] W fun e w'=>e=.returned (.bool (inT 1 x1))∧w'=W):=hid (fun W=>inside_any 1 x1 W)
 have C2:Hid (∀ W,Calls Tryz.prog 159 #[.int .i64 0,.int .i64 x2] W fun e w'=>e=.returned (.bool (inT 0 x2))∧w'=W):=hid (fun W=>inside_any 0 x2 W)
 unfold ldV
 cases g0:inT 0 x0 <;> cases g1:inT 1 x1 <;> cases g2:inT 0 x2 <;>
 (
  rw[HE.out _ _ _ g0 g1 g2]
  rw[g0] at C0
  rw[g1] at C1
  rw[g2] at C2
  clear g0 g1 g2 HE
  dsimp only[Bool.and_true,Bool.and_false,Bool.true_and,Bool.false_and]
  go_enter Tryz.func182,Tryz.ntmps182
  go_wp2_with (go_at_call 159;first | ((with_reducible refine(C0.out _).mono ?_);rintro e wC ⟨rfl,rfl⟩) | ((with_reducible refine(C1.out _).mono ?_);rintro e wC ⟨rfl,rfl⟩) | ((with_reducible refine(C2.out _).mono ?_);rintro e wC ⟨rfl,rfl⟩))
  go_ret
  exact⟨by first | rfl | simp,by first | exact But.refl No w | exact(But.refl No w).alloc _⟩)
theorem cd_up {n p:Int} (hn:0≤n) (hp:1≤p):qar.cdV n p=up n p∧qar.cdE n p=0:=by
 have h2:=Int.emod_nonneg n (show p≠0 by omega)
 unfold qar.cdV qar.cdE up
 have h0:¬(n<0∨p≤0):=by omega
 rw[if_neg h0,if_neg h0]
 refine⟨?_,rfl⟩
 by_cases h:n % p=0
 · rw[if_pos h,if_neg (by omega)];omega
 · rw[if_neg h,if_pos (by omega)]
set_option maxHeartbeats 1000000 in
theorem arr_any (x:Ld) (t:Int) (hx:okD x=true) (h0:0≤t) (h1:t≤4611686018427387904) (w:World):Calls Tryz.prog 197 #[ldV x,.int .i64 t] w fun e w'=>e=.returned (.int .i64 (up (t+x.j) x.p))∧But No w w':=by
 obtain⟨⟨hw0,hw1⟩,⟨hp0,hp1⟩,hj0,hj1⟩:=okD_iff.1 hx
 clear hx
 obtain⟨x0,x1,x2⟩:=x
 dsimp only at hw0 hw1 hp0 hp1 hj0 hj1 ⊢
 obtain⟨hc,he⟩:=cd_up (n:=t+x2) (p:=x1) (by omega) hp0
 have CC:Hid (∀ W,Calls Tryz.prog 208 #[.int .i64 (t+x2),.int .i64 x1] W fun e w'=>e=.returned (.tuple #[.int .i64 (up (t+x2) x1),.int .i64 0])∧W=w'):=hid (fun W=>by have:=qar.ceildiv_any (t+x2) x1 (by unfold inR;omega) (by unfold inR;omega) W;rw[hc,he] at this;exact this)
 have hs1:0≤t+x2∧t+x2≤9223372036854775807:=by omega
 clear hc he
 generalize up (t+x2) x1=u at *
 unfold ldV
 go_enter Tryz.func197,Tryz.ntmps197
 go_wp2_with (go_at_call 208;(with_reducible refine(CC.out _).mono ?_);rintro e wC ⟨rfl,rfl⟩)
 go_ret
 exact⟨rfl,(But.refl No w).alloc _⟩
end Go.Proofs.YtikcigjbhohboaaGreat.rsp
end
section
namespace Go.Proofs.YtikcigjbhohboaaGreat.rsp
open Go.Lib (hid)
open Go.ChangeShapes Go.WideShapes Go.ChangeAt Go.RowKit Go.Deep Go.Shelf
attribute [local go_sem] Oper.semAt_some
theorem keeps_but {W W':World} (hb:But No W W'):KeepsOthers W W':=⟨hb.size,fun k _ hk _=>(hb.block k (Array.getElem?_eq_some_iff.1 hk).1 (fun f=>f)).trans hk⟩
theorem below_but {W W':World} (hb:But No W W') {m:Nat} (h:m≤W.heap.size):Below m W W':=hb.below (fun _ f=>f.elim) h
theorem but_below {W W':World} (h:Below W.heap.size W W'):But No W W':=⟨h.os,h.tape,h.output,h.size,fun k hk _=>h.block k hk⟩
theorem attach_take_snoc {α:Type} {l:List α} {k:Nat} (hk:k<l.length):l.attach.take (k+1)=l.attach.take k ++ [⟨l[k],List.getElem_mem hk⟩]:=by
 rw[List.take_add_one,List.getElem?_eq_getElem (by rw[List.length_attach];exact hk),List.getElem_attach];rfl
def cnt (m k:Nat):Nat→Nat
 | 0=>0
 | 1=>m
 | _+2=>m+k
set_option maxRecDepth 100000 in
set_option maxHeartbeats 4000000 in
theorem loads1_in (F:Fence) (n:Nat) (hf:F.fn 195) (hro:F.round=none) (hn:1≤n) (lp Bs:Nat) (A:Option Addr) (m c:Nat) (a:List Ld) (B:Option Addr) (k d:Nat) (b:List Ld) (w:World) (hA:RLd w A m a) (hB:RLd w B k b) (J Jx:List {x:Ld // x ∈ a ++ b}→World→Prop) (W:World) (hW:But No w W)
  (hJ:AbidesFrom W.heap.size J)
  (hY:∀ pre (x : {x:Ld // x ∈ a ++ b}) W1,J pre W1→pre.length<(a ++ b).length→YieldAt F (n-1) Tryz.prog lp #[ldV x.1] W1 fun e W' =>
   (e=.returned (.bool true)∧J (pre ++ [x]) W'∧Below w.heap.size W1 W')∨(e=.returned (.bool false)∧Jx (pre ++ [x]) W'))
  (h3:W.cell? ⟨Bs,3,none⟩=some (.slice A m c)) (h4:W.cell? ⟨Bs,4,none⟩=some (.slice B k d)) (h0:J [] W) :
  CallsIn F n Tryz.prog 195 #[.func (.yield lp) #[] #[],.pointer (some ⟨Bs,0,none⟩)] W fun e W'=>(∃ v,e=.returned v) ∧
   ((∃ ys,ys=(a ++ b).attach∧J ys W')∨(∃ pre,pre <+: (a ++ b).attach∧Jx pre W')):=by
 have HNA:=hid hA.len
 have HNB:=hid hB.len
 have HA:=hid hA
 have HB:=hid hB
 have HM:=hid (And.intro hA.max hB.max)
 have HY:=hid hY
 have HJ:=hid hJ
 have HLEN:Hid ((a ++ b).length=m+k):=hid (by rw[List.length_append,HNA.out,HNB.out])
 have HCH:Hid (∀ i:Nat,i<2→∃ (A':Option Addr) (m' c':Nat) (l':List Ld),RLd w A' m' l'∧(∀ q,q<m'→(a ++ b)[cnt m k i+q]? = l'[q]?)∧cnt m k i+m'=cnt m k (i+1) ∧
   ∀ X,(Instr.index 279 (.agg #[.slice A m c,.slice B k d]) (.int .i64 (i:Int))).run Tryz.prog X=.ok (.slice A' m' c') X):=hid (fun i hi=>by
  rcases(show i=0∨i=1 by omega)with rfl | rfl
  ·exact⟨A,m,c,a,HA.out,fun q hq=>by rw[show cnt m k 0+q=q by simp[cnt],List.getElem?_append_left (by rw[HNA.out];exact hq)],by simp[cnt],fun X=>by kernel_rfl⟩
  ·exact⟨B,k,d,b,HB.out,fun q hq=>by rw[show cnt m k 1+q=m+q by simp[cnt],List.getElem?_append_right (by rw[HNA.out];omega),HNA.out];congr 1;omega,by simp[cnt],fun X=>by kernel_rfl⟩)
 clear hA hB hY hJ
 refine callsIn_of_wp Tryz.func195 rfl hf ?_ hro
 simp only[Tryz.ntmps195,List.size_toArray,List.length_cons,List.length_nil,Nat.reduceAdd,Nat.reduceSub,Array.replicate_succ,Array.replicate_zero,List.push_toArray,List.append_toArray,List.nil_append,List.cons_append]
 gi_wp2
 gi_loopw [12] (fun i wr=>∃ q:Nat,q≤2∧i=.int .i64 (q:Int)∧Hid (J ((a ++ b).attach.take (cnt m k q)) wr)∧Hid (But No w wr)∧Hid (Below w.heap.size W wr)∧Hid (W.heap.size≤wr.heap.size)) (fun i _=>2-(intOf i).toNat)
 case atStart=>exact⟨0,by omega,rfl,h0,hW,Below.refl _ _,Nat.le_refl _⟩
 case round =>
  obtain⟨i,hi,rfl,HJS,HBR,HBW,HSZ⟩:=hrel
  by_cases hi2:i<2
  ·have hi3:(i:Int)<2:=by omega
   have hi0:(0:Int)≤(i:Int):=Int.natCast_nonneg i
   have b2:decide ((i:Int)<2)=true:=by simp;omega
   obtain⟨A',m',c',l',hL',hcat,hcn,hrun⟩:=HCH.out i hi2
   have HL:=hid hL'
   have HN:=hid hL'.len
   have HCAT:=hid hcat
   have HCN:=hid hcn
   have hmax:=hL'.max
   have HLE:Hid (cnt m k i+m'≤m+k):=hid (by rw[hcn];rcases(show i=0∨i=1 by omega)with rfl | rfl <;> simp[cnt])
   obtain⟨p,hp⟩:∃ p,cnt m k i=p:=⟨_,rfl⟩
   rw[hp] at HJS HCAT HCN HLE
   clear hL' hcat hcn hp
   gi_wp2
   gi_loopw [17] (fun j w3=>∃ q:Nat,q≤m'∧j=.int .i64 (q:Int)∧Hid (J ((a ++ b).attach.take (p+q)) w3)∧Hid (But No w w3)∧Hid (Below w.heap.size W w3)∧Hid (W.heap.size≤w3.heap.size)) (fun j _=>m'-(intOf j).toNat)
   case atStart=>exact⟨0,by omega,rfl,HJS.out,HBR.out,HBW.out,HSZ.out⟩
   case round =>
    obtain⟨q,hq,rfl,HJS,HBR,HBW,HSZ⟩:=hrel
    by_cases hqm:q<m'
    ·have hqm2:(q:Int)<(m':Int):=by omega
     have hq0:(0:Int)≤(q:Int):=Int.natCast_nonneg q
     have b3:decide ((q:Int)<(m':Int))=true:=by simp;omega
     have hkl:p+q<(a ++ b).length:=by rw[HLEN.out];have:=HLE.out;omega
     have hx:l'[q]? = some (a ++ b)[p+q]:=by rw[←HCAT.out q hqm];exact List.getElem?_eq_getElem hkl
     obtain⟨bk,off,rfl,_,e0,e1,e2⟩:=(HL.out.no HBR.out).at1 hx
     obtain⟨xx,hxx⟩:∃ xx : {x:Ld // x ∈ a ++ b},xx=⟨(a ++ b)[p+q],List.getElem_mem hkl⟩:=⟨_,rfl⟩
     have HAT:Hid ((a ++ b).attach.take (p+(q+1))=(a ++ b).attach.take (p+q) ++ [xx]):=hid (by rw[hxx];exact attach_take_snoc hkl)
     have hxv:(a ++ b)[p+q]=xx.1:=by rw[hxx]
     rw[hxv] at e0 e1 e2
     clear hxx hxv hx hkl
     have hb1:But No wr (wr.alloc (.cells #[.int .i64 xx.1.w,.int .i64 xx.1.p,.int .i64 xx.1.j] 211)):=(But.refl No wr).alloc _
     obtain⟨fn,tmps,assign,body,hy,hR⟩:=HY.out ((a ++ b).attach.take (p+q)) xx (wr.alloc (.cells #[.int .i64 xx.1.w,.int .i64 xx.1.p,.int .i64 xx.1.j] 211)) (HJ.out _ _ _ none HJS.out (World.grownBy_alloc _ _ none) (fun r e=>by cases e)) (by rw[List.length_take,List.length_attach,HLEN.out];have:=HLE.out;omega)
     unfold ldV at hy
     have HR:=hid hR
     have HB1:=hid (HBR.out.trans hb1)
     have HW1:=hid (HBW.out.trans (below_but hb1 (by have:=HBR.out.size;exact this)))
     have HS1:Hid (W.heap.size≤(wr.alloc (.cells #[.int .i64 xx.1.w,.int .i64 xx.1.p,.int .i64 xx.1.j] 211)).heap.size):=hid (Nat.le_trans HSZ.out hb1.size)
     clear hR hb1
     gi_wp2
     refine HR.out.mono ?_
     rintro e W3 (⟨rfl,hJ3,hk3⟩ | ⟨rfl,hJx3⟩)
     ·have HJ3:Hid (J ((a ++ b).attach.take (p+(q+1))) W3):=hid (by rw[HAT.out];exact hJ3)
      have HB3:Hid (But No w W3):=hid (but_below ((below_but HB1.out (Nat.le_refl _)).trans hk3))
      have HW3:=hid (HW1.out.trans hk3)
      have HS3:=hid (Nat.le_trans HS1.out hk3.size)
      clear hJ3 hk3
      gi_wp2
      go_roundw
      case rel=>exact⟨q+1,by omega,by go_num,HJ3.out,HB3.out,HW3.out,HS3.out⟩
      case measure=>simp[intOf];omega
     ·gi_wp2
      refine bodyPost_ret (results_none rfl _ _ _) rfl ?_
      exact⟨⟨_,rfl⟩,.inr ⟨(a ++ b).attach.take (p+(q+1)),List.take_prefix _ _,by rw[HAT.out];exact hJx3⟩⟩
    ·have hqn:q=m':=by omega
     have b3:decide ((q:Int)<(m':Int))=false:=by simp;omega
     have HJE:Hid (J ((a ++ b).attach.take (cnt m k (i+1))) wr):=hid (by rw[←HCN.out,←hqn];exact HJS.out)
     clear hqn
     gi_wp2
     go_roundw
     case rel=>exact⟨i+1,by omega,by go_num,HJE.out,HBR.out,HBW.out,HSZ.out⟩
     case measure=>simp[intOf];omega
  ·have hi9:i=2:=by omega
   have b2:decide ((i:Int)<2)=false:=by simp;omega
   have htk:(a ++ b).attach.take (cnt m k i)=(a ++ b).attach:=by rw[hi9];exact List.take_of_length_le (by rw[List.length_attach,HLEN.out];simp[cnt])
   rw[htk] at HJS
   clear htk hi9
   gi_wp2
   go_end0
   exact⟨⟨_,rfl⟩,.inl ⟨_,rfl,HJS.out⟩⟩
theorem loads_stops (F:Fence) (n:Nat) (hf:F.fn 195) (hro:F.round=none) (hn:1≤n) (Bs:Nat) (A:Option Addr) (m c:Nat) (a:List Ld) (B:Option Addr) (k d:Nat) (b:List Ld) (w W0:World) (hA:RLd w A m a) (hB:RLd w B k b) (hW0:But No w W0) (h3:W0.cell? ⟨Bs,3,none⟩=some (.slice A m c)) (h4:W0.cell? ⟨Bs,4,none⟩=some (.slice B k d)) :
  SeqStopsK F n Tryz.prog 195 #[.pointer (some ⟨Bs,0,none⟩)] (fun x : {x:Ld // x ∈ a ++ b}=>#[ldV x.1]) (Below w.heap.size) (fun ys=>ys=(a ++ b).attach) (fun pre=>pre <+: (a ++ b).attach) (a ++ b).length W0:=fun lp J Jx W hW hJ _ hY h0=>by
 have hb:But No W0 W:=but_below hW
 exact loads1_in F n hf hro hn lp Bs A m c a B k d b w hA hB J Jx W (hW0.trans hb) hJ hY (cell_keep h3 hb) (cell_keep h4 hb) h0
def jobV (own bl rl:Int) (A:Option Addr) (m c:Nat) (B:Option Addr) (k d:Nat):Value:=.agg #[.int .i64 own,.int .i64 bl,.int .i64 rl,.slice A m c,.slice B k d]
theorem jloads_any (own bl rl:Int) (A:Option Addr) (m c:Nat) (B:Option Addr) (k d:Nat) (w:World):Calls Tryz.prog 181 #[jobV own bl rl A m c B k d] w fun e w'=>e=.returned (.func (.func 195) #[] #[.pointer (some ⟨w.heap.size,0,none⟩)])∧w'=w.alloc (.cells #[.int .i64 own,.int .i64 bl,.int .i64 rl,.slice A m c,.slice B k d] 236):=by
 have hmf:∀ (fn:Fn) (first cap:Array Value) (w:World),(Instr.makeFunc fn first cap).run Tryz.prog w=.ok (.func fn first cap) w:=fun _ _ _ _=>rfl
 unfold jobV
 go_enter Tryz.func181,Tryz.ntmps181
 go_wp2
 go_ret
 exact⟨rfl,rfl⟩
end Go.Proofs.YtikcigjbhohboaaGreat.rsp
end
section
namespace Go.Proofs.YtikcigjbhohboaaGreat.rsp
open Go.Lib (hid)
open Go.ChangeShapes Go.WideShapes Go.ChangeAt Go.RowKit Go.Deep Go.Shelf
attribute [local go_sem] Oper.semAt_some
theorem blk_turn {W W':World} {row:Option Nat} {b:Nat} {cur:Array Value} {e:TypeId} (h:Blk W b cur e) (hg:W.grownBy W' row) (hr:∀ r,row=some r→∃ o:Obj,W.heap[r]? = some o∧o.isCells=false):Blk W' b cur e:=by
 refine(hg.block b h.lt (fun e'=>?_)).trans h
 obtain⟨o,ho,hc⟩:=hr b e'.symm
 rw[show W.heap[b]? = _ from h] at ho;cases ho;cases hc
structure IR (w:World) (r:Bool) (W:World):Prop where
 b1:Blk W (w.heap.size+1) #[.bool r] 4
 but:Below w.heap.size w W
theorem IR.no {w W W':World} {r:Bool} (h:IR w r W) (hb:But No W W'):IR w r W' :=
 ⟨h.b1.but hb (fun f=>f),h.but.trans (below_but hb h.but.size)⟩
theorem IR.turn {w W W':World} {row:Option Nat} {B:Nat} {r:Bool} (h:IR w r W) (hB:w.heap.size≤B) (hg:W.grownBy W' row) (hr:∀ r,row=some r→B≤r∧∃ o:Obj,W.heap[r]? = some o∧o.isCells=false):IR w r W' :=
 ⟨blk_turn h.b1 hg (fun k e=>(hr k e).2),h.but.grown hg h.but.size (fun k e=>Nat.le_trans hB (hr k e).1)⟩
theorem IR.res {w W:World} {r:Bool} (h:IR w r W) (a:Bool):IR w a (W.setCell ⟨w.heap.size+1,0,none⟩ (.bool a)) :=
 ⟨h.b1.set 0 _,h.but.setCell (p:=⟨w.heap.size+1,0,none⟩) (by show w.heap.size≤w.heap.size+1;omega) _⟩
theorem IR.start (w:World) (cs cs':Array Value):IR w false (((w.alloc (.cells cs 236)).alloc (.cells #[.bool false] 4)).alloc (.cells cs' 236)) :=
 ⟨(blk2 w _ _ _).alloc _,below_but ((((But.refl No w).alloc _).alloc _).alloc _) (Nat.le_refl _)⟩
theorem okAll_app {a b:List Ld}:(∀ x ∈ a ++ b,okD x=true)→(∀ x ∈ a,okD x=true)∧∀ x ∈ b,okD x=true:=fun h=>⟨fun x hx=>h x (by simp[hx]),fun x hx=>h x (by simp[hx])⟩
set_option maxRecDepth 100000 in
set_option maxHeartbeats 4000000 in
theorem jright_any (own bl rl:Int) (A:Option Addr) (m c:Nat) (a:List Ld) (B:Option Addr) (k d:Nat) (b:List Ld) (w:World) (hA:RLd w A m a) (hB:RLd w B k b) :
  Calls Tryz.prog 158 #[jobV own bl rl A m c B k d] w fun e w'=>e=.returned (.bool (right own bl rl a b))∧But No w w':=by
 have HR:Hid (∀ g,right own bl rl a b=g→right own bl rl a b=g):=hid (fun _ h=>h)
 have HNA:=hid hA.len
 have HNB:=hid hB.len
 have HA:=hid hA
 have HB:=hid hB
 have hmA:=hA.max
 have hmB:=hB.max
 have C0:Hid (∀ W,Calls Tryz.prog 159 #[.int .i64 0,.int .i64 own] W fun e w'=>e=.returned (.bool (inT 0 own))∧w'=W):=hid (fun W=>inside_any 0 own W)
 have C1:Hid (∀ W,Calls Tryz.prog 159 #[.int .i64 0,.int .i64 bl] W fun e w'=>e=.returned (.bool (inT 0 bl))∧w'=W):=hid (fun W=>inside_any 0 bl W)
 have C2:Hid (∀ W,Calls Tryz.prog 159 #[.int .i64 0,.int .i64 rl] W fun e w'=>e=.returned (.bool (inT 0 rl))∧w'=W):=hid (fun W=>inside_any 0 rl W)
 have hc1:=(blk2 w (.cells #[.int .i64 own,.int .i64 bl,.int .i64 rl,.slice A m c,.slice B k d] 236) #[.bool false] 4).cell (o:=0) rfl
 have hbut:But No w ((w.alloc (.cells #[.int .i64 own,.int .i64 bl,.int .i64 rl,.slice A m c,.slice B k d] 236)).alloc (.cells #[.bool false] 4)):=((But.refl No w).alloc _).alloc _
 have CL:=hid (fun W=>jloads_any own bl rl A m c B k d W)
 unfold jobV at CL ⊢
 clear hA hB
 cases g0:inT 0 own with
 | false =>
  have HE:Hid (right own bl rl a b=false):=hid (by unfold right;rw[g0];simp)
  rw[g0] at C0;clear g0
  rw[HE.out]
  go_enter Tryz.func158,Tryz.ntmps158
  go_wp2_with (go_at_call 159;first | ((with_reducible refine(C0.out _).mono ?_);rintro e w1 ⟨rfl,rfl⟩) | ((with_reducible refine(C1.out _).mono ?_);rintro e w1 ⟨rfl,rfl⟩) | ((with_reducible refine(C2.out _).mono ?_);rintro e w1 ⟨rfl,rfl⟩))
  refine bodyPost_ret (v:=.bool false) (by simp[results,Tryz.results158,go_sem,hc1]) rfl ?_
  exact⟨rfl,hbut⟩
 | true =>
  cases g1:inT 0 bl with
  | false =>
   have HE:Hid (right own bl rl a b=false):=hid (by unfold right;rw[g1];simp)
   rw[g0] at C0;rw[g1] at C1;clear g0 g1
   rw[HE.out]
   go_enter Tryz.func158,Tryz.ntmps158
   go_wp2_with (go_at_call 159;first | ((with_reducible refine(C0.out _).mono ?_);rintro e w1 ⟨rfl,rfl⟩) | ((with_reducible refine(C1.out _).mono ?_);rintro e w1 ⟨rfl,rfl⟩) | ((with_reducible refine(C2.out _).mono ?_);rintro e w1 ⟨rfl,rfl⟩))
   refine bodyPost_ret (v:=.bool false) (by simp[results,Tryz.results158,go_sem,hc1]) rfl ?_
   exact⟨rfl,hbut⟩
  | true =>
   cases g2:inT 0 rl with
   | false =>
    have HE:Hid (right own bl rl a b=false):=hid (by unfold right;rw[g2];simp)
    rw[g0] at C0;rw[g1] at C1;rw[g2] at C2;clear g0 g1 g2
    rw[HE.out]
    go_enter Tryz.func158,Tryz.ntmps158
    go_wp2_with (go_at_call 159;first | ((with_reducible refine(C0.out _).mono ?_);rintro e w1 ⟨rfl,rfl⟩) | ((with_reducible refine(C1.out _).mono ?_);rintro e w1 ⟨rfl,rfl⟩) | ((with_reducible refine(C2.out _).mono ?_);rintro e w1 ⟨rfl,rfl⟩))
    refine bodyPost_ret (v:=.bool false) (by simp[results,Tryz.results158,go_sem,hc1]) rfl ?_
    exact⟨rfl,hbut⟩
   | true =>
    by_cases hm:72<m
    ·have HE:Hid (right own bl rl a b=false):=hid (by unfold right okLs;rw[HNA.out,show decide (m≤72)=false by simp;omega];simp)
     have q1:decide ((72:Int)<(m:Int))=true:=by simp;omega
     rw[g0] at C0;rw[g1] at C1;rw[g2] at C2;clear g0 g1 g2
     rw[HE.out]
     go_enter Tryz.func158,Tryz.ntmps158
     go_wp2_with (go_at_call 159;first | ((with_reducible refine(C0.out _).mono ?_);rintro e w1 ⟨rfl,rfl⟩) | ((with_reducible refine(C1.out _).mono ?_);rintro e w1 ⟨rfl,rfl⟩) | ((with_reducible refine(C2.out _).mono ?_);rintro e w1 ⟨rfl,rfl⟩))
     refine bodyPost_ret (v:=.bool false) (by simp[results,Tryz.results158,go_sem,hc1]) rfl ?_
     exact⟨rfl,hbut⟩
    ·by_cases hk:72<k
     ·have HE:Hid (right own bl rl a b=false):=hid (by unfold right okLs;rw[HNB.out,show decide (k≤72)=false by simp;omega];simp)
      have q1:decide ((72:Int)<(m:Int))=false:=by simp;omega
      have q2:decide ((72:Int)<(k:Int))=true:=by simp;omega
      rw[g0] at C0;rw[g1] at C1;rw[g2] at C2;clear g0 g1 g2
      rw[HE.out]
      go_enter Tryz.func158,Tryz.ntmps158
      go_wp2_with (go_at_call 159;first | ((with_reducible refine(C0.out _).mono ?_);rintro e w1 ⟨rfl,rfl⟩) | ((with_reducible refine(C1.out _).mono ?_);rintro e w1 ⟨rfl,rfl⟩) | ((with_reducible refine(C2.out _).mono ?_);rintro e w1 ⟨rfl,rfl⟩))
      refine bodyPost_ret (v:=.bool false) (by simp[results,Tryz.results158,go_sem,hc1]) rfl ?_
      exact⟨rfl,hbut⟩
     ·have q1:decide ((72:Int)<(m:Int))=false:=by simp;omega
      have q2:decide ((72:Int)<(k:Int))=false:=by simp;omega
      have HI:=hid (IR.start w #[.int .i64 own,.int .i64 bl,.int .i64 rl,.slice A m c,.slice B k d] #[.int .i64 own,.int .i64 bl,.int .i64 rl,.slice A m c,.slice B k d])
      have HJB:=hid (Blk.new ((w.alloc (.cells #[.int .i64 own,.int .i64 bl,.int .i64 rl,.slice A m c,.slice B k d] 236)).alloc (.cells #[.bool false] 4)) #[.int .i64 own,.int .i64 bl,.int .i64 rl,.slice A m c,.slice B k d] 236)
      have hsz:w.heap.size+3=(((w.alloc (.cells #[.int .i64 own,.int .i64 bl,.int .i64 rl,.slice A m c,.slice B k d] 236)).alloc (.cells #[.bool false] 4)).alloc (.cells #[.int .i64 own,.int .i64 bl,.int .i64 rl,.slice A m c,.slice B k d] 236)).heap.size:=by simp
      have HTRUE:Hid ((∀ x ∈ a ++ b,okD x=true)→right own bl rl a b=true):=hid (fun h=>by
       obtain⟨h1,h2⟩:=okAll_app h
       exact right_iff.2 ⟨okLs_iff.2 ⟨by rw[HNA.out];omega,h1⟩,okLs_iff.2 ⟨by rw[HNB.out];omega,h2⟩,inT_true.1 g0,inT_true.1 g1,inT_true.1 g2⟩)
      have HFALSE:Hid (∀ x ∈ a ++ b,okD x=false→right own bl rl a b=false):=hid (fun x hx h=>by
       cases e:right own bl rl a b with
       | false=>rfl
       | true =>
        have h1:=(okLs_iff.1 (right_iff.1 e).1).2
        have h2:=(okLs_iff.1 (right_iff.1 e).2.1).2
        rcases List.mem_append.1 hx with g | g
        ·rw[h1 x g] at h;cases h
        ·rw[h2 x g] at h;cases h)
      obtain⟨V,hV⟩:∃ V,right own bl rl a b=V:=⟨_,rfl⟩
      rw[hV] at HTRUE HFALSE ⊢
      rw[g0] at C0
      rw[g1] at C1
      rw[g2] at C2
      clear g0 g1 g2 hV hm hk hc1 hbut
      refine(callsIn_wide (n:=8)).1 ?_
      refine callsIn_of_wp_marks Tryz.func158 rfl trivial ?_ rfl
      simp only[Tryz.ntmps158,List.size_toArray,List.length_cons,List.length_nil,Nat.reduceAdd,Nat.reduceSub,Array.replicate_succ,Array.replicate_zero,List.push_toArray,List.append_toArray,List.nil_append,List.cons_append]
      gi_wp2_with (first | (refine⟨trivial,?_⟩;gi_at_call 159;first | ((with_reducible refine(callsIn_wide.2 (C0.out _)).mono ?_);rintro e w1 ⟨rfl,rfl⟩) | ((with_reducible refine(callsIn_wide.2 (C1.out _)).mono ?_);rintro e w1 ⟨rfl,rfl⟩) | ((with_reducible refine(callsIn_wide.2 (C2.out _)).mono ?_);rintro e w1 ⟨rfl,rfl⟩)) | (refine⟨trivial,?_⟩;gi_at_call 181;refine(callsIn_wide.2 (CL.out _)).mono ?_;rintro e w1 ⟨rfl,rfl⟩))
      rw[show ((w.alloc (.cells #[.int .i64 own,.int .i64 bl,.int .i64 rl,.slice A m c,.slice B k d] 236)).alloc (.cells #[.bool false] 4)).heap.size=w.heap.size+1+1 by simp] at HJB
      generalize ((w.alloc (.cells #[.int .i64 own,.int .i64 bl,.int .i64 rl,.slice A m c,.slice B k d] 236)).alloc (.cells #[.bool false] 4)).alloc (.cells #[.int .i64 own,.int .i64 bl,.int .i64 rl,.slice A m c,.slice B k d] 236)=W0 at HI HJB hsz ⊢
      have h3:=HJB.out.cell (o:=3) rfl
      have h4:=HJB.out.cell (o:=4) rfl
      have H34:=hid (And.intro h3 h4)
      clear h3 h4
      refine wpIn_rangeFunc_ownH rfl (by omega) (gf:=195) (lb:=#[.pointer (some ⟨w.heap.size+1+1,0,none⟩)]) rfl trivial (enters_of Tryz.func195 (by kernel_rfl) rfl)
       (loads_stops Fence.wide (8-1) trivial rfl (by omega) (w.heap.size+1+1) A m c a B k d b w W0 HA.out HB.out (but_below HI.out.but) H34.out.1 H34.out.2) belowK_t (belowK_b (by omega)) (Below.refl _ _) (fun _=>rfl)
       (fun pre W=>IR w false W∧(∀ x ∈ pre,okD x.1=true)∧W0.heap.size≤W.heap.size)
       (fun c pre W=>c=.ret∧IR w false W∧V=false)
       (fun s X Y row hs hg hr=>⟨hs.1.turn (by omega) hg hr,hs.2.1,Nat.le_trans hs.2.2 hg.size⟩)
       (fun c s X Y row hs hg hr=>⟨hs.1,hs.2.1.turn (by omega) hg hr,hs.2.2⟩)
       ⟨HI.out,by simp,Nat.le_refl _⟩
       (fun x a' W=>∃ Bx,W0.heap.size≤Bx∧Blk W Bx #[.int .i64 x.1.w,.int .i64 x.1.p,.int .i64 x.1.j] 211∧a' = { tmps:=#[.agg #[.int .i64 own,.int .i64 bl,.int .i64 rl,.slice A m c,.slice B k d],.pointer (some ⟨w.heap.size,0,none⟩),.pointer (some ⟨w.heap.size+1,0,none⟩),.pointer (some ⟨Bx,0,none⟩),.pointer (some ⟨w.heap.size,0,none⟩),.int .i64 own,.bool true,.bool false,.bool false,.pointer (some ⟨w.heap.size,1,none⟩),.int .i64 bl,.bool true,.bool false,.bool false,.bool false,.pointer (some ⟨w.heap.size,2,none⟩),.int .i64 rl,.bool true,.bool false,.bool false,.pointer (some ⟨w.heap.size,3,none⟩),.slice A m c,.int .i64 (m:Int),.bool false,.bool false,.pointer (some ⟨w.heap.size,4,none⟩),.slice B k d,.int .i64 (k:Int),.bool false,.bool false,.agg #[.int .i64 own,.int .i64 bl,.int .i64 rl,.slice A m c,.slice B k d],.func (.func 195) #[] #[.pointer (some ⟨w.heap.size+1+1,0,none⟩)],.agg #[.int .i64 x.1.w,.int .i64 x.1.p,.int .i64 x.1.j],undef,undef,undef],defers:=[] })
       (fun x a' _ X Y row hs hg hr=>by obtain⟨Bx,h1,h2,h3⟩:=hs;exact⟨Bx,h1,blk_turn h2 hg (fun r e=>(hr r e).2),h3⟩)
       ?assign ?body ?done ?stop
      case assign =>
       rintro lp pre x W K ⟨hi,hp,hpz⟩ hK
       unfold ldV
       gi_wp2
       have hb:But No W (W.alloc (.cells #[.int .i64 x.1.w,.int .i64 x.1.p,.int .i64 x.1.j] 211)):=(But.refl No W).alloc _
       exact hK _ _ ((keeps_but hb).from _) (below_but hb hi.but.size) ⟨hi.no hb,hp,Nat.le_trans hpz hb.size⟩ ⟨W.heap.size,hpz,Blk.new W _ _,rfl⟩
      case body =>
       rintro lp pre x a' W hl ⟨r,hr⟩ ⟨hi,hp,hpz⟩ ⟨Bx,hBx,hX,rfl⟩ hlt
       have CF:=hid (ldright_any x.1 W)
       have hx0:=hX.cell (o:=0) rfl
       have hx1:=hX.cell (o:=1) rfl
       have hx2:=hX.cell (o:=2) rfl
       have HX:=hid x.2
       unfold ldV at CF
       clear hr hlt hl hX
       have h1':1≤8-1-1:=by omega
       cases hy:okD x.1 with
       | false =>
        have HVF:=hid (HFALSE.out x.1 HX.out hy)
        rw[hy] at CF
        clear hy
        gi_wp2_with (refine⟨trivial,?_⟩;gi_at_call 182;refine(CallsIn.inRound lp (callsIn_wide.2 CF.out)).mono ?_;rintro e w1 ⟨rfl,hb1⟩;have hi1:=hi.no hb1;have c3:=hi1.b1.cell (o:=0) rfl;have g3:=hi1.b1.frozen 0;have HI1:=hid hi1;have HB1:=hid hb1;clear hi1 hb1)
        refine⟨((keeps_but HB1.out).trans (KeepsOthers.setCell _ _ _)).from _,rfl,HI1.out.res false,HVF.out⟩
       | true =>
        have HY:=hid hy
        rw[hy] at CF
        clear hy
        gi_wp2_with (refine⟨trivial,?_⟩;gi_at_call 182;refine(CallsIn.inRound lp (callsIn_wide.2 CF.out)).mono ?_;rintro e w1 ⟨rfl,hb1⟩;have HI1:=hid (hi.no hb1);have HB1:=hid hb1;clear hb1)
        refine⟨(keeps_but HB1.out).from _,below_but HB1.out hi.but.size,HI1.out,?_,Nat.le_trans hpz HB1.out.size⟩
        intro y hy
        rcases List.mem_append.1 hy with g | g
        ·exact hp y g
        ·rw[List.mem_singleton.1 g];exact HY.out
      case done =>
       rintro D ys W hD rfl ⟨hi,hp,hpz⟩ hK
       have HV:Hid (V=true):=hid (HTRUE.out (fun x hx=>hp ⟨x,hx⟩ (List.mem_attach _ _)))
       obtain rfl:=HV.out
       have c3:=hi.b1.cell (o:=0) rfl
       have g3:=hi.b1.frozen 0
       have hi2:=hi.res true
       have hK2:=(KeepsOthers.setCell W ⟨w.heap.size+1,0,none⟩ (.bool true)).same D _ hK rfl
       have hi3:=hi2.turn (B:=W0.heap.size) (by omega) (grownBy_putObj' _ D (.deferred none)) (fun r e=>by cases e;exact⟨hD,_,hK2,rfl⟩)
       have r6:=hi3.b1.cell (o:=0) rfl
       gi_wp2
       refine⟨by simp,.inl ⟨_,_,rfl,run_takeDeferred hK2,?_⟩⟩
       exact⟨.bool true,by simp[results,Tryz.results158,go_sem,r6],rfl,but_below hi3.but⟩
      case stop =>
       rintro D c' pre W hD hp ⟨rfl,hi,rfl⟩ hK
       have hi3:=hi.turn (B:=W0.heap.size) (by omega) (grownBy_putObj' _ D (.deferred none)) (fun r e=>by cases e;exact⟨hD,_,hK,rfl⟩)
       have r6:=hi3.b1.cell (o:=0) rfl
       gi_wp2
       refine⟨by simp,.inl ⟨_,_,rfl,run_takeDeferred hK,?_⟩⟩
       exact⟨.bool false,by simp[results,Tryz.results158,go_sem,r6],rfl,but_below hi3.but⟩
end Go.Proofs.YtikcigjbhohboaaGreat.rsp
end
