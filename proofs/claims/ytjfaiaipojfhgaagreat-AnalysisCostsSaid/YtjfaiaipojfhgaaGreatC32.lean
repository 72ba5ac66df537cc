/- Part 32 of a proof: PaT. -/
import Derived.Laws.CopyOwn
import Derived.Test.YtjfaiaipojfhgaaGreatC31
section
namespace Go.Proofs.YtjfaiaipojfhgaaGreat.pln
open Go.Lib (hid)
open Go.ChangeShapes Go.WideShapes Go.ChangeAt Go.RowKit Go.Deep val
set_option maxRecDepth 100000 in
set_option maxHeartbeats 4000000 in
theorem mul64_1 {n:Nat} (hn:n≤24) (w:World):Calls Tryz.prog 90 #[.int .u64 1,.int .u64 (n:Int)] w fun e w'=>e=.returned (.tuple #[.int .u64 0,.int .u64 (n:Int)])∧w'=w:=by
 have h:n=0∨n=1∨n=2∨n=3∨n=4∨n=5∨n=6∨n=7∨n=8∨n=9∨n=10∨n=11∨n=12∨n=13∨n=14∨n=15∨n=16∨n=17∨n=18∨n=19∨n=20∨n=21∨n=22∨n=23∨n=24:=by omega
 clear hn
 rcases h with rfl | rfl | rfl | rfl | rfl | rfl | rfl | rfl | rfl | rfl | rfl | rfl | rfl | rfl | rfl | rfl | rfl | rfl | rfl | rfl | rfl | rfl | rfl | rfl | rfl
 all_goals
  go_enter Tryz.func90,Tryz.ntmps90
  go_wp2
  go_ret2
  exact⟨rfl,rfl⟩
set_option maxRecDepth 100000 in
set_option maxHeartbeats 4000000 in
theorem mul_1 {n:Nat} (hn:n≤24) (w:World):Calls Tryz.prog 62 #[.int .u64 1,.int .u64 (n:Int)] w fun e w'=>e=.returned (.tuple #[.int .u64 0,.int .u64 (n:Int)])∧w'=w:=by
 have CM:Hid (∀ W,Calls Tryz.prog 90 #[.int .u64 1,.int .u64 (n:Int)] W fun e w'=>e=.returned (.tuple #[.int .u64 0,.int .u64 (n:Int)])∧w'=W):=hid (fun W=>mul64_1 hn W)
 have hn0:(0:Int)≤(n:Int):=Int.natCast_nonneg n
 have hn1:(n:Int)≤24:=by omega
 go_enter Tryz.func62,Tryz.ntmps62
 go_wp2_with (go_at_call 90;(with_reducible refine(CM.out _).mono ?_);rintro e w1 ⟨rfl,rfl⟩)
 go_ret2
 exact⟨rfl,rfl⟩
theorem _root_.Go.Proofs.YtjfaiaipojfhgaaGreat.But.setRow {S:Nat→Prop} {a b:World} (h:But S a b) {q:Nat} (hq:S q) (cs:Array Value):But S a (b.setRow q cs) :=
 h.trans ⟨rfl,rfl,rfl,by simp[World.setRow],fun k _ hs=>setRow_other b q k cs (fun e=>hs (e▸hq))⟩
theorem fill_row {n q m:Nat} (x y:Value) (hf:q+m≤n):(((List.range n).map (fun j=>if j<q then x else y)).take q ++ List.replicate m x ++ ((List.range n).map (fun j=>if j<q then x else y)).drop (q+m))=(List.range n).map (fun j=>if j<q+m then x else y):=by
 apply List.ext_getElem?
 intro k
 simp only[List.getElem?_append,List.length_append,List.length_take,List.length_map,List.length_range,List.length_replicate,List.getElem?_take,List.getElem?_drop,List.getElem?_map]
 have e1:min q n=q:=by omega
 rw[e1]
 by_cases hk:k<n
 ·by_cases k1:k<q
  ·rw[if_pos (by omega),if_pos k1,if_pos k1,List.getElem?_range hk]
   simp[k1,show k<q+m by omega]
  ·by_cases k2:k<q+m
   ·rw[if_pos k2,if_neg k1,List.getElem?_range hk,List.getElem?_replicate,if_pos (by omega)]
    simp[k2]
   ·rw[if_neg k2,show q+m+(k-(q+m))=k by omega,List.getElem?_range hk]
    simp[k1,k2]
 ·rw[if_neg (by omega),List.getElem?_eq_none (l:=List.range n) (by simp;omega),List.getElem?_eq_none (l:=List.range n) (by simp;omega)]
  rfl
theorem step_copy_fill {P:Program} {ops:Array Oper} {o:Oper} {a:Act} {w:World} {K:Act→World→Prop} {Q:Exit→Act→World→Prop} {E:Prop} (hgd:o.guard=none) (d s:Operand) (dT sT:TypeId)
  (ho:o.op=.call { callee:=.builtin .copy,args:=#[d,s],argTypes:=#[dT,sT] }) (elem:TypeId) (hu:P.underlying dT=some (.slice elem)) (hsz:(P.info? elem).map (·.size)=some 1)
  (b q dLen dCap sLen sCap:Nat) (hd:a.eval d=.slice (some ⟨b,q,none⟩) dLen dCap) (hs:a.eval s=.slice (some ⟨b,0,none⟩) sLen sCap)
  (n:Nat) (x y:Value) (hx:x.oneCell'=true) (hv:Vals w b 3 n (fun j=>if j<q then x else y)) (m:Nat) (hm:Nat.min sLen dLen=m) (hq:m≤q) (hfit:q+m≤n)
  (h:∀ w',Hid (Vals w' b 3 n (fun j=>if j<q+m then x else y))→Hid (But (Just b) w w')→K (a.put o.dst (goInt m)) w') :
  if Region.wanted o (yielded ops a.tmps)=true then Oper.wp P o a w K Q else E:=by
 have hw:Region.wanted o (yielded ops a.tmps)=true:=by simp[Region.wanted,hgd]
 rw[if_pos hw]
 have hrun:=run_copy_row (P:=P) w dT sT o.type elem b q dLen dCap ⟨b,0,none⟩ sLen sCap ((List.range n).map (fun j=>if j<q then x else y)).toArray 3 (List.replicate m x) hu hsz hv (by rw[List.length_replicate,hm]) (fun j v hj=>by
  have hjm:j<m:=by have:=(List.getElem?_eq_some_iff.1 hj).1;simpa using this
  rw[List.getElem?_replicate,if_pos hjm] at hj
  cases hj
  have:=hv.cell (k:=j) (by omega)
  rw[if_pos (by omega)] at this
  have e:(⟨b,0,none⟩:Addr).add j=⟨b,j,none⟩:=by unfold Addr.add;split <;> simp_all
  rw[e];exact this) (by simpa using hfit) (fun v hv=>by rw[List.eq_of_mem_replicate hv];exact hx)
 unfold Oper.wp
 rw[List.length_replicate] at hrun
 simp[execOp,ho,resolve,invoke,builtin,hd,hs,hrun,Result.andThen]
 refine h _ ?_ ((But.refl _ w).setRow (just b) _)
 have:=setRow_heap w b ((List.range n).map (fun j=>if j<q then x else y)).toArray (((List.range n).map (fun j=>if j<q then x else y)).toArray.toList.take q ++ List.replicate m x ++ ((List.range n).map (fun j=>if j<q then x else y)).toArray.toList.drop (q+m)).toArray 3 (0,0) hv
 show Blk _ _ _ _
 unfold Blk
 rw[←fill_row x y hfit]
 simpa using this
theorem wpList_copy_first {P:Program} {w:World} {ops:Array Oper} {rest:List Oper} {o:Oper} {a:Act} {Q:Exit→Act→World→Prop} (hgd:o.guard=none) (d s:Operand) (dT sT:TypeId)
  (ho:o.op=.call { callee:=.builtin .copy,args:=#[d,s],argTypes:=#[dT,sT] }) (elem:TypeId) (hu:P.underlying dT=some (.slice elem)) (hsz:(P.info? elem).map (·.size)=some 1)
  (b ax n:Nat) (hd:a.eval d=.slice (some ⟨b,0,none⟩) n n) (hs:a.eval s=.slice (some ⟨ax,0,none⟩) 1 1) (x y:Value) (hx:x.oneCell'=true) (hv:Vals w b 3 n (fun _=>y)) (hn:1≤n) (hax:w.cell? ⟨ax,0,none⟩=some x)
  (h:∀ w',Hid (Vals w' b 3 n (fun j=>if j<1 then x else y))→Hid (But (Just b) w w')→wpList P ops Q rest (a.put o.dst (goInt 1)) w'):wpList P ops Q (o :: rest) a w:=by
 refine wpList_copy_own hgd d s dT sT ho elem hu hsz b 0 n n ⟨ax,0,none⟩ 1 1 hd hs ((List.range n).map (fun _=>y)).toArray 3 hv [x] (by show 1=min 1 n;omega) (fun j v hj=>?_) (by simp;omega) (by simpa using hx) ?_
 ·have hj0:j=0:=by have:=(List.getElem?_eq_some_iff.1 hj).1;simp at this;exact this
  subst hj0
  simp at hj;subst hj
  have e:(⟨ax,0,none⟩:Addr).add 0=⟨ax,0,none⟩:=by unfold Addr.add;split <;> simp_all
  rw[e];exact hax
 ·refine h _ ?_ ((But.refl _ w).setRow (just b) _)
  have hf:=fill_row (n:=n) (q:=0) (m:=1) x y (by omega)
  simp only[Nat.not_lt_zero,if_false,Nat.zero_add] at hf
  have:=setRow_heap w b ((List.range n).map (fun _=>y)).toArray ((((List.range n).map (fun _=>y)).toArray.toList.take 0 ++ ([x] ++ ((List.range n).map (fun _=>y)).toArray.toList.drop (0 + [x].length))).toArray) 3 (0,0) hv
  show Blk _ _ _ _
  unfold Blk
  rw[←hf]
  simpa using this
set_option maxRecDepth 100000 in
set_option maxHeartbeats 4000000 in
theorem repeat_any {n:Nat} (h1:1≤n) (hn:n≤24) (w:World) (ax:Nat) (hx:w.cell? ⟨ax,0,none⟩=some (.int .i64 (-1))) :
  Calls Tryz.prog 45 #[.slice (some ⟨ax,0,none⟩) 1 1,.int .i64 (n:Int)] w fun e w'=>∃ b,e=.returned (.slice (some ⟨b,0,none⟩) n n)∧CE w w' b n (fun _=>-1):=by
 have CM:Hid (∀ W,Calls Tryz.prog 62 #[.int .u64 1,.int .u64 (n:Int)] W fun e w'=>e=.returned (.tuple #[.int .u64 0,.int .u64 (n:Int)])∧w'=W):=hid (fun W=>mul_1 hn W)
 obtain⟨i3,hi0,hz0,hz1,hz2⟩:=info_parts info3
 have I3:Hid (Tryz.prog.info? 3=some i3∧i3.zero=some (.int .i64 0)∧i3.size=1∧i3.bytes=8):=⟨hi0,hz0,hz1,hz2⟩
 clear hi0 hz0 hz1 hz2
 have hn0:(0:Int)≤(n:Int):=Int.natCast_nonneg n
 have hn1:(n:Int)≤24:=by omega
 have hn2:(1:Int)≤(n:Int):=by omega
 go_enter Tryz.func45,Tryz.ntmps45
 go_upto_region 7 with(first
  | (go_at_call 62;(with_reducible refine(CM.out _).mono ?_);rintro e w1 ⟨rfl,rfl⟩)
  | (at_make;refine wpList_make_full _ rfl _ _ 39 rfl 0 3 i3 _ 1 Tryz.underlying39 I3.out.1 I3.out.2.1 I3.out.2.2.1 .i64 .i64 _ _ n rfl rfl rfl rfl (by rw[I3.out.2.2.2];omega) (by unfold maxLen;omega) (Nat.zero_le _) ?_;intro w2 hown hgrow;have hb2:=(But.refl No w1).grown hgrow (fun k e=>by cases e);have HV2:Hid (Vals w2 w1.heap.size 3 n (fun _=>.int .i64 0)):=hid (vals_made1 rfl hown);have HB2:=hid hb2;have hax:=cell_keep hx hb2;clear hown hgrow hb2))
 obtain⟨b,hb⟩:∃ b,w1.heap.size=b:=⟨_,rfl⟩
 have HBN:Hid (w1.heap.size≤b):=by show _≤_;omega
 rw[hb] at HV2 ⊢
 have hsz3:(Tryz.prog.info? 3).map (·.size)=some 1:=by rw[I3.out.1];simp[I3.out.2.2.1]
 have HSZ:=hid hsz3
 clear hsz3 hb
 have HN:=hid h1
 clear h1
 go_upto_region 8 with(with_reducible refine wpList_copy_first (o:=⟨some 33,_,_,_,_,_⟩) rfl (.tmp 31) (.tmp 32) 39 39 rfl 3 Tryz.underlying39 HSZ.out b ax n rfl rfl (.int .i64 (-1)) (.int .i64 0) rfl HV2.out HN.out hax ?_;intro w3 hv3 hb3)
 have H3:Hid (But No w1 w3):=hid (HB2.out.andThen' hb3.out (fun k _ e=>by cases e;exact HBN.out))
 clear hb3 hax hx HV2 HB2 I3
 have hd1:decide ((n:Int)<0)=false:=by simp
 have hd2:decide ((9223372036854775807:Int)<(n:Int))=false:=by simp;omega
 simp only[hd1,hd2]
 clear hd1 hd2
 go_loopw [8] (fun i wr=>∃ q:Nat,i=.int .i64 (q:Int)∧1≤q∧q≤n∧Hid (Vals wr b 3 n (fun j=>if j<q then .int .i64 (-1) else .int .i64 0))∧Hid (But No w1 wr)) (fun i _=>n-(intOf i).toNat)
 case atStart=>exact⟨1,rfl,Nat.le_refl _,HN.out,hv3,H3⟩
 case round =>
  obtain⟨q,rfl,hq1,hqn,HV,HB⟩:=hrel
  have hq0:(0:Int)≤(q:Int):=Int.natCast_nonneg q
  by_cases hlt:q<n
  ·have b1:decide ((q:Int)<(n:Int))=true:=by simp;omega
   have b2:(q:Int)≤(n:Int):=by omega
   have b3:¬n=q:=by omega
   have HVD:Hid (Vals wr.drew b 3 n (fun j=>if j<q then .int .i64 (-1) else .int .i64 0)):=HV
   obtain⟨m,hm⟩:∃ m,Nat.min q (n-q)=m:=⟨_,rfl⟩
   obtain⟨z,hz⟩:∃ z,z=q+m:=⟨_,rfl⟩
   have hmle:m≤q∧q+m≤n∧1≤m:=by have:m=min q (n-q):=hm.symm;omega
   have hw:IntKind.i64.wrap ((q:Int)+(m:Int))=(z:Int):=by rw[IntKind.wrap_i64];omega
   have HM:=hid (And.intro hm (And.intro hmle hz))
   clear hm hmle hz
   go_wp2_with fail
   go_region_law (refine step_copy_fill rfl (.tmp 41) (.tmp 44) 39 39 rfl 3 Tryz.underlying39 HSZ.out b q (n-q) (n-q) q n (by simp[Act.eval,Act.put]) (by simp[Act.eval,Act.put]) n (.int .i64 (-1)) (.int .i64 0) rfl HVD.out m HM.out.1 HM.out.2.1.1 HM.out.2.1.2.1 ?_;intro w4 hv4 hb4)
   have H4:Hid (But No w1 w4):=hid (HB.out.drew.andThen' hb4.out (fun k _ e=>by cases e;exact HBN.out))
   have HV4:Hid (Vals w4 b 3 n (fun j=>if j<z then .int .i64 (-1) else .int .i64 0)):=hid (by rw[HM.out.2.2];exact hv4.out)
   clear hv4 hb4 HV HB HVD
   go_simp
   go_roundw
   case rel=>exact⟨_,_,_,_,_,_,_,_,_,_,_,_,_,_,⟨z,rfl,by have:=HM.out;omega,by have:=HM.out;omega,HV4,H4⟩,rfl⟩
   case measure=>have hzz:=HM.out;simp[intOf];omega
  ·have b1:decide ((q:Int)<(n:Int))=false:=by simp;omega
   have HV9:Hid (Vals wr b 3 n (fun _=>.int .i64 (-1))):=hid (HV.out.congr (fun j hj=>by rw[if_pos (by omega)]))
   clear hv3
   go_wp2
   go_ret
   exact⟨b,rfl,HV9.out,HBN.out,HB.out⟩
end Go.Proofs.YtjfaiaipojfhgaaGreat.pln
end
