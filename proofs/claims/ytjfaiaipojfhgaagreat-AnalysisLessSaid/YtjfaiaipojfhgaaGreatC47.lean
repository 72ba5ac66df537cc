/- Part 47 of a proof: DeC7 DeC8 DeC. -/
import Derived.Test.YtjfaiaipojfhgaaGreatC46
section
namespace Go.Proofs.YtjfaiaipojfhgaaGreat.dem
open Go.Lib (hid)
open Go.ChangeShapes Go.WideShapes Go.ChangeAt Go.RowKit Go.Deep
def fdS (f:Int) (x:Wk):Int:=if x.top=true then f else if f≤x.d then f else x.d
def fdN (l:List Wk):Nat→Int
 | 0=>1099511627777
 | i+1=>fdS (fdN l i) (l.getD i wk0)
theorem fd_is {l:List Wk} (hok:∀ x ∈ l,okW x=true):∀ i,i≤l.length→(lsN l i=0∧fdN l i=1099511627777)∨(1≤lsN l i∧lsN l i≤1099511627776∧fdN l i=lsN l i)
 | 0,_=>.inl ⟨rfl,rfl⟩
 | i+1,hi=>by
  have hx:l[i]? = some l[i]:=List.getElem?_eq_getElem (by omega)
  obtain⟨_,_,d0,d9⟩:=okW_iff.1 (hok _ (List.mem_of_getElem? hx))
  have ih:=fd_is hok i (by omega)
  rw[lsN,fdN,getD_some hx]
  unfold fdS
  generalize lsN l i=a at ih ⊢
  generalize fdN l i=b at ih ⊢
  generalize l[i].d=d at d0 d9 ⊢
  cases ht:l[i].top with
  | true=>simp only[Bool.true_eq_false,false_and,↓reduceIte];exact ih
  | false =>
   simp only[Bool.false_eq_true,true_and,↓reduceIte]
   split <;> split <;> omega
set_option maxHeartbeats 1000000 in
theorem clo_first (f:Int) (x:Wk) (w:World):Calls Tryz.prog 122 #[.int .i64 f,wkV x] w fun e w'=>e=.returned (.int .i64 (fdS f x))∧But No w w':=by
 obtain⟨x0,x1,x2,x3⟩:=x
 unfold wkV
 cases x3 with
 | true =>
  have HE:Hid (fdS f ⟨x0,x1,x2,true⟩=f):=hid (by unfold fdS;rw[if_pos rfl])
  rw[HE.out]
  go_enter Tryz.func122,Tryz.ntmps122
  go_wp2
  go_ret
  exact⟨rfl,(But.refl No w).alloc _⟩
 | false =>
  by_cases h:f≤x2
  ·have HE:Hid (fdS f ⟨x0,x1,x2,false⟩=f):=hid (by unfold fdS;rw[if_neg (by simp),if_pos h])
   rw[HE.out]
   go_enter Tryz.func122,Tryz.ntmps122
   go_wp2
   go_ret
   exact⟨rfl,(But.refl No w).alloc _⟩
  ·have HE:Hid (fdS f ⟨x0,x1,x2,false⟩=x2):=hid (by unfold fdS;rw[if_neg (by simp),if_neg h])
   rw[HE.out]
   go_enter Tryz.func122,Tryz.ntmps122
   go_wp2
   go_ret
   exact⟨rfl,(But.refl No w).alloc _⟩
set_option maxRecDepth 100000 in
set_option maxHeartbeats 2000000 in
theorem foldI_any (A:Option Addr) (n c:Nat) (l:List Wk) (T:Nat→Int) (w:World) (h:RWk w A n l)
  (hF:∀ (i:Nat) (x:Wk) (W:World),l[i]? = some x→Calls Tryz.prog 122 #[.int .i64 (T i),wkV x] W fun e w'=>e=.returned (.int .i64 (T (i+1)))∧But No W w') :
  Calls Tryz.prog 121 #[.slice A n c,.int .i64 (T 0),.func (.func 122) #[] #[]] w fun e w'=>e=.returned (.int .i64 (T n))∧But No w w':=by
 have HN:=hid h.len
 have HL:=hid h
 have hmax:=h.max
 have HF:=hid hF
 clear h hF
 go_enter Tryz.func121,Tryz.ntmps121
 go_wp2_with fail
 go_loopw [1,11] (fun v i wr=>∃ q:Nat,v=.int .i64 (T q)∧i=.int .i64 (q:Int)∧q≤n∧Hid (But No w wr)) (fun _ i _=>n-(intOf i).toNat)
 case atStart=>exact⟨0,rfl,rfl,by omega,But.refl No w⟩
 case round =>
  obtain⟨q,rfl,rfl,hq,HBR⟩:=hrel
  by_cases hqn:q<n
  ·have hqn2:(q:Int)<(n:Int):=by omega
   have hq0:(0:Int)≤(q:Int):=Int.natCast_nonneg q
   obtain⟨x,hx⟩:∃ x,l[q]? = some x:=⟨_,List.getElem?_eq_getElem (by rw[HN.out];exact hqn)⟩
   obtain⟨b,off,rfl,_,e0,e1,e2,e3⟩:=(HL.out.no HBR.out).at1 hx
   have CF:Hid (∀ W,Calls Tryz.prog 122 #[.int .i64 (T q),wkV x] W fun e w'=>e=.returned (.int .i64 (T (q+1)))∧But No W w'):=hid (fun W=>HF.out q x W hx)
   clear hx
   obtain⟨x0,x1,x2,x3⟩:=x
   unfold wkV at CF
   dsimp only at e0 e1 e2 e3 CF
   generalize hT:T q=tq at CF ⊢
   clear hT
   go_wp2_with (go_at_call 122;(with_reducible refine(CF.out _).mono ?_);rintro e w1 ⟨rfl,hb1⟩;have HB1:=hid (HBR.out.trans (((But.refl No wr).alloc _).trans hb1));clear hb1)
   go_roundw
   case rel=>exact⟨q+1,rfl,by go_num,by omega,HB1.out⟩
   case measure=>simp[intOf];omega
  ·have HI:Hid (q=n):=hid (by omega)
   have b3:decide ((q:Int)<(n:Int))=false:=by simp;omega
   go_wp2
   go_ret
   exact⟨by rw[HI.out];rfl,HBR.out⟩
def fdV (l:List Wk):Int:=if least l=0 then 1099511627777 else least l
theorem fdV_is {l:List Wk} (hok:∀ x ∈ l,okW x=true):fdN l l.length=fdV l∧(least l=0∨1≤least l∧least l≤1099511627776):=by
 unfold fdV least
 rcases fd_is hok l.length (Nat.le_refl _)with⟨e1,e2⟩ | ⟨g1,g2,e2⟩
 ·rw[if_pos e1];exact⟨e2,.inl e1⟩
 ·rw[if_neg (by omega)];exact⟨e2,.inr ⟨g1,g2⟩⟩
theorem first_any (A:Option Addr) (n c:Nat) (l:List Wk) (bl rl:Int) (w:World) (h:RWk w A n l) (hok:∀ x ∈ l,okW x=true):Calls Tryz.prog 97 #[.agg #[.slice A n c,.int .i64 bl,.int .i64 rl]] w fun e w'=>e=.returned (.int .i64 (fdV l))∧But No w w':=by
 have CF:Hid (∀ W,But No w W→Calls Tryz.prog 121 #[.slice A n c,.int .i64 1099511627777,.func (.func 122) #[] #[]] W fun e w'=>e=.returned (.int .i64 (fdV l))∧But No W w'):=hid (fun W hb=>by
  have h9:=foldI_any A n c l (fdN l) W (h.no hb) (fun i x W' hx=>by rw[fdN,getD_some hx];exact clo_first _ x W')
  have e:fdN l n=fdV l:=by rw[←h.len];exact(fdV_is hok).1
  rw[e] at h9
  exact h9)
 clear h hok
 go_enter Tryz.func97,Tryz.ntmps97
 go_wp2_with (go_at_call 121;(with_reducible refine(CF.out _ ((But.refl No w).alloc _)).mono ?_);rintro e wC ⟨rfl,hbC⟩;have HBC:=hid (((But.refl No w).alloc _).trans hbC);clear hbC)
 go_ret
 exact⟨rfl,HBC.out⟩
theorem Ov.any {w:World} {v:Value} {zs:List Int} (h:Ov w v zs):∃ A n c,v=.slice A n c:=by
 obtain⟨A,c,e,_⟩:=Ov.slice h
 exact⟨A,_,c,e⟩
structure FS (w wr:World) (v u:Value) (zs ts:List Int):Prop where
 two:Two w wr v u zs ts
 box:Blk wr w.heap.size #[v,u] 190
 res:Blk wr (w.heap.size+1) #[.slice none 0 0,.slice none 0 0] 190
theorem FS.start (w:World):FS w ((w.alloc (.cells #[.slice none 0 0,.slice none 0 0] 190)).alloc (.cells #[.slice none 0 0,.slice none 0 0] 190)) (.slice none 0 0) (.slice none 0 0) [] []:=⟨(Two.start w).no (((But.refl No w).alloc _).alloc _),(Blk.new w _ _).alloc _,blk2 w _ _ _⟩
theorem FS.no {w wr w2:World} {v u:Value} {zs ts:List Int} (h:FS w wr v u zs ts) (hb:But No wr w2):FS w w2 v u zs ts:=⟨h.two.no hb,h.box.but hb (fun f=>f),h.res.but hb (fun f=>f)⟩
theorem FS.next {w wr w2:World} {v u v' u':Value} {zs ts zs' ts':List Int} (h:FS w wr v u zs ts) (hT:Two w w2 v' u' zs' ts') (hb:But (OQ v u) wr w2):Blk w2 w.heap.size #[v,u] 190∧FS w ((w2.setCell ⟨w.heap.size,0,none⟩ v').setCell ⟨w.heap.size,1,none⟩ u') v' u' zs' ts':=by
 have q:∀ {b:Nat} {cur:Array Value},Blk wr b cur 190→¬OQ v u b:=fun hk f=>f.elim (fun e=>own_ne h.two.o1 hk (by decide) e) (fun e=>own_ne h.two.o2 hk (by decide) e)
 have hx:=h.box.but hb (q h.box)
 have hy:=h.res.but hb (q h.res)
 exact⟨hx,(hT.set hx (by decide) (Nat.le_refl _) 0 _).set (hx.set 0 _) (by decide) (Nat.le_refl _) 1 _,(hx.set 0 _).set 1 _,(hy.other (a:=⟨w.heap.size,0,none⟩) (Nat.succ_ne_self _) _).other (a:=⟨w.heap.size,1,none⟩) (Nat.succ_ne_self _) _⟩
set_option maxRecDepth 100000 in
set_option maxHeartbeats 4000000 in
theorem foldS_any (A:Option Addr) (n c:Nat) (l:List Wk) (rl:Int) (bc:Nat) (w:World) (h:RWk w A n l) (hn:n≤72) (hc:w.cell? ⟨bc,2,none⟩=some (.int .i64 rl)) :
  Calls Tryz.prog 135 #[.slice A n c,.agg #[.slice none 0 0,.slice none 0 0],.func (.func 136) #[] #[.pointer (some ⟨bc,0,none⟩)]] w fun e w'=>∃ v u,e=.returned (.agg #[v,u])∧Two w w' v u (wz rl l) (pz l):=by
 have HN:=hid h.len
 have HL:=hid h
 have hmax:=h.max
 have H0:=hid (FS.start w)
 have HC:=hid hc
 clear h hc
 go_enter Tryz.func135,Tryz.ntmps135
 go_wp2_with fail
 go_loopw [11] (fun i wr=>∃ (q:Nat) (A1:Option Addr) (n1 c1:Nat) (A2:Option Addr) (n2 c2:Nat),i=.int .i64 (q:Int)∧q≤n∧Hid (FS w wr (.slice A1 n1 c1) (.slice A2 n2 c2) (wz rl (l.take q)) (pz (l.take q)))) (fun i _=>n-(intOf i).toNat)
 case atStart=>exact⟨0,none,0,0,none,0,0,rfl,by omega,H0.out⟩
 case round =>
  obtain⟨q,A1,n1,c1,A2,n2,c2,rfl,hq,HT⟩:=hrel
  clear H0
  by_cases hqn:q<n
  ·have hqn2:(q:Int)<(n:Int):=by omega
   have hq0:(0:Int)≤(q:Int):=Int.natCast_nonneg q
   obtain⟨x,hx⟩:∃ x,l[q]? = some x:=⟨_,List.getElem?_eq_getElem (by rw[HN.out];exact hqn)⟩
   obtain⟨b,off,rfl,_,e0,e1,e2,e3⟩:=(HL.out.no HT.out.two.but).at1 hx
   have WS:=hid (wz_snoc (rl:=rl) hx)
   have PS:=hid (pz_snoc hx)
   have hlt:(l.take q).length=q:=by rw[List.length_take];have:=HN.out;omega
   have HWL:=hid (show (wz rl (l.take q)).length≤1000 by rw[wz_len,hlt];omega)
   have HPL:=hid (show (pz (l.take q)).length≤1000 by rw[pz_len,hlt];omega)
   clear hx hlt
   obtain⟨x0,x1,x2,x3⟩:=x
   dsimp only at e0 e1 e2 e3 WS PS
   have hTa:=HT.out.no ((But.refl No wr).alloc (.cells #[.int .i64 x0,.int .i64 x1,.int .i64 x2,.bool x3] 129))
   have s0:=HT.out.box.cell (o:=0) rfl
   have s1:=HT.out.box.cell (o:=1) rfl
   have r0:=hTa.box.cell (o:=0) rfl
   have r1:=hTa.box.cell (o:=1) rfl
   have HTA:=hid hTa
   clear hTa
   have CF:Hid (Calls Tryz.prog 136 #[.agg #[.slice A1 n1 c1,.slice A2 n2 c2],.agg #[.int .i64 x0,.int .i64 x1,.int .i64 x2,.bool x3],.pointer (some ⟨bc,0,none⟩)] (wr.alloc (.cells #[.int .i64 x0,.int .i64 x1,.int .i64 x2,.bool x3] 129)) fun r w'=>∃ v' u',r=.returned (.agg #[v',u'])∧Two w w' v' u' (wz rl (l.take q) ++ [x0,rl]) (pz (l.take q) ++ [x1,x1])∧But (OQ (.slice A1 n1 c1) (.slice A2 n2 c2)) (wr.alloc (.cells #[.int .i64 x0,.int .i64 x1,.int .i64 x2,.bool x3] 129)) w'):=hid (clo_shares (.slice A1 n1 c1) (.slice A2 n2 c2) _ _ ⟨x0,x1,x2,x3⟩ bc rl w _ HTA.out.two HWL.out HPL.out HC.out)
   go_wp2_with (go_at_call 136;(with_reducible refine CF.out.mono ?_);rintro e w1 ⟨v',u',rfl,hT1,hb1⟩;obtain⟨A3,n3,c3,hv3⟩:=Ov.any hT1.o1;obtain⟨A4,n4,c4,hv4⟩:=Ov.any hT1.o2;subst hv3;subst hv4;obtain⟨hx1,hS1⟩:=HTA.out.next hT1 hb1;have g0:=hx1.frozen 0;have g1:=hx1.frozen 1;have t0:=hx1.cell (o:=0) rfl;have t1:=hx1.cell (o:=1) rfl;have HS1:=hid hS1;clear hS1 hT1 hb1 hx1)
   go_roundw
   case rel=>exact⟨q+1,A3,n3,c3,A4,n4,c4,by go_num,by omega,by rw[WS.out,PS.out];exact HS1.out⟩
   case measure=>simp[intOf];omega
  ·have HI:Hid (q=n):=hid (by omega)
   have b3:decide ((q:Int)<(n:Int))=false:=by simp;omega
   have htk:l.take q=l:=List.take_of_length_le (by rw[HN.out];have:=HI.out;omega)
   rw[htk] at HT
   have s0:=HT.out.box.cell (o:=0) rfl
   have s1:=HT.out.box.cell (o:=1) rfl
   have g0:=HT.out.res.frozen 0
   have g1:=HT.out.res.frozen 1
   have t0:=HT.out.res.cell (o:=0) rfl
   have t1:=HT.out.res.cell (o:=1) rfl
   have KF:=(HT.out.res.set 0 (.slice A1 n1 c1)).set 1 (.slice A2 n2 c2)
   have f0:=KF.cell (o:=0) rfl
   have f1:=KF.cell (o:=1) rfl
   clear KF htk
   go_wp2
   exact bodyPost_ret (v:=.agg #[.slice A1 n1 c1,.slice A2 n2 c2]) (by simp[results,Tryz.results135,go_sem,f0,f1]) rfl ⟨_,_,rfl,(HT.out.two.set HT.out.res (by decide) (Nat.le_succ _) 0 _).set (HT.out.res.set 0 _) (by decide) (Nat.le_succ _) 1 _⟩
end Go.Proofs.YtjfaiaipojfhgaaGreat.dem
end
section
namespace Go.Proofs.YtjfaiaipojfhgaaGreat.dem
open Go.Lib (hid)
open Go.ChangeShapes Go.WideShapes Go.ChangeAt Go.RowKit Go.Deep
theorem tot_com {l:List Wk} {bl rl t:Int} {n:Nat} (h:l.length=n):tot bl (cmt rl t) t l n=(comV l bl rl t,comE l bl rl t):=by
 subst h
 unfold tot
 by_cases ho:comO l bl rl t=true
 ·rw[(com_out ho).1,(com_out ho).2];exact if_pos ho
 ·have ho':comO l bl rl t=false:=by simpa using ho
  rw[(com_in ho').1,(com_in ho').2];exact if_neg ho
theorem tot_ask {l:List Wk} {bl rl t:Int} {n:Nat} (h:l.length=n) (hr:right l bl rl=true) (ht:1≤t):tot bl (trm rl t) t l n=(askV l bl rl t,askE l bl rl t):=by
 subst h
 unfold tot
 rcases ask_cases l bl rl t with⟨_,_,e⟩ | ⟨_,_,o,e,v⟩ | ⟨_,_,o,e,v⟩
 ·exact absurd ⟨hr,ht⟩ e
 ·rw[e,v];exact if_pos o
 ·rw[e,v];exact if_neg (by rw[show ov bl (trm rl t) t l l.length=false from o];simp)
theorem demand_any (A:Option Addr) (n c:Nat) (l:List Wk) (bl rl t:Int) (w:World) (h:RWk w A n l) (hr:right l bl rl=true) (ht:1≤t∧t≤9223372036854775807) :
  Calls Tryz.prog 125 #[.agg #[.slice A n c,.int .i64 bl,.int .i64 rl],.int .i64 t] w fun e w'=>e=.returned (.tuple #[.int .i64 (askV l bl rl t),.int .i64 (askE l bl rl t)])∧But No w w':=by
 have h9:=dem_any A n c l bl rl t w h hr ht
 rw[tot_ask h.len hr ht.1] at h9
 exact h9
theorem arriving_any (A:Option Addr) (n c:Nat) (l:List Wk) (bl rl t:Int) (w:World) (h:RWk w A n l) (hr:right l bl rl=true) (ht:1≤t∧t≤9223372036854775807) :
  Calls Tryz.prog 124 #[.agg #[.slice A n c,.int .i64 bl,.int .i64 rl],.int .i64 t] w fun e w'=>e=.returned (.tuple #[.int .i64 (comV l bl rl t),.int .i64 (comE l bl rl t)])∧But No w w':=by
 have h9:=com_any A n c l bl rl t w h hr ht
 rw[tot_com h.len] at h9
 exact h9
theorem box_keep {w W:World} {A:Option Addr} {n c:Nat} {bl rl:Int} (hb:But No (w.alloc (.cells #[.slice A n c,.int .i64 bl,.int .i64 rl] 159)) W):W.cell? ⟨w.heap.size,0,none⟩=some (.slice A n c)∧W.cell? ⟨w.heap.size,1,none⟩=some (.int .i64 bl)∧W.cell? ⟨w.heap.size,2,none⟩=some (.int .i64 rl):=by
 have h:=(Blk.new w #[.slice A n c,.int .i64 bl,.int .i64 rl] 159).but hb (fun f=>f)
 exact⟨h.cell rfl,h.cell rfl,h.cell rfl⟩
set_option maxRecDepth 100000 in
set_option maxHeartbeats 4000000 in
theorem great_any (A:Option Addr) (n c:Nat) (l:List Wk) (bl rl:Int) (w:World) (h:RWk w A n l) (hr:right l bl rl=true):Calls Tryz.prog 123 #[.agg #[.slice A n c,.int .i64 bl,.int .i64 rl]] w fun e w'=>e=.returned (.bool (decide (4294967296<ldS rl l)))∧But No w w':=by
 have HN:=hid h.len
 obtain⟨hn72,⟨hb0,hb9⟩,⟨hr0,hr9⟩,hok⟩:=right_iff.1 hr
 have hn72':n≤72:=by have:=HN.out;omega
 have hwl:(wz rl l).length=2*n:=by rw[wz_len,HN.out]
 have hpl:(pz l).length=2*n:=by rw[pz_len,HN.out]
 have hfw:∀ z ∈ wz rl l,inR z:=fun z hz=>by
  obtain⟨x,hx,hm⟩:=List.mem_flatMap.1 hz
  have:=okW_iff.1 (hok x hx)
  simp only[List.mem_cons,List.not_mem_nil,or_false] at hm
  unfold inR;rcases hm with rfl | rfl <;> omega
 have hfp:∀ z ∈ pz l,inR z:=fun z hz=>by
  obtain⟨x,hx,hm⟩:=List.mem_flatMap.1 hz
  have:=okW_iff.1 (hok x hx)
  simp only[List.mem_cons,List.not_mem_nil,or_false] at hm
  unfold inR;rcases hm with rfl | rfl <;> omega
 have CF:Hid (Calls Tryz.prog 135 #[.slice A n c,.agg #[.slice none 0 0,.slice none 0 0],.func (.func 136) #[] #[.pointer (some ⟨w.heap.size,0,none⟩)]] (w.alloc (.cells #[.slice A n c,.int .i64 bl,.int .i64 rl] 159)) fun e w'=>∃ v u,e=.returned (.agg #[v,u])∧Two (w.alloc (.cells #[.slice A n c,.int .i64 bl,.int .i64 rl] 159)) w' v u (wz rl l) (pz l)):=hid (foldS_any A n c l rl w.heap.size _ (h.no ((But.refl No w).alloc _)) hn72' (box_keep (But.refl No _)).2.2)
 have CLL:Hid (∀ w2 v u,Two (w.alloc (.cells #[.slice A n c,.int .i64 bl,.int .i64 rl] 159)) w2 v u (wz rl l) (pz l)→∃ A7 n7 c7 A8 n8 c8,v=.slice A7 n7 c7∧u=.slice A8 n8 c8∧But No w w2∧∀ W,But No w2 W→Calls Tryz.prog 137 #[.slice A7 n7 c7,.slice A8 n8 c8] W fun e w'=>e=.returned (.tuple #[.int .i64 (qar.ldV (wz rl l) (pz l)),.int .i64 (qar.ldE (wz rl l) (pz l))])∧But No W w'):=hid (fun w2 v u hT=>by
  obtain⟨A7,c7,hv7,hr7⟩:=Ov.rdv hT.o1 (by omega) hfw
  obtain⟨A8,c8,hv8,hr8⟩:=Ov.rdv hT.o2 (by omega) hfp
  exact⟨A7,_,c7,A8,_,c8,hv7,hv8,((But.refl No w).alloc _).trans hT.but,fun W hb=>(qar.load_any A7 A8 _ _ c7 c8 (wz rl l) (pz l) W (hr7.no hb) (hr8.no hb)).mono (fun e w' ⟨h1,h2⟩=>⟨h1,h2.butNo⟩)⟩)
 have HLD:=ld_is hr
 have hmf:∀ (fn:Fn) (first cap:Array Value) (w:World),(Instr.makeFunc fn first cap).run Tryz.prog w=.ok (.func fn first cap) w:=fun _ _ _ _=>rfl
 clear h hr hb0 hb9 hr0 hr9 hok hwl hpl hfw hfp hn72
 generalize qar.ldV (wz rl l) (pz l)=V at CLL HLD
 generalize qar.ldE (wz rl l) (pz l)=E at CLL HLD
 have HEQ:Hid (∀ b:Bool,(b=true ↔ E≠0∨4294967296<V)→decide (4294967296<ldS rl l)=b):=hid (fun b hb=>by
  rcases HLD with⟨e,hV,h0,h1⟩ | ⟨e,hV,h1⟩
  ·cases b with
   | true=>have:=hb.1 rfl;simp;omega
   | false =>
    simp;have:¬(E≠0∨4294967296<V):=fun h=>by have:=hb.2 h;cases this
    omega
  ·have:b=true:=hb.2 (.inl (by omega))
   rw[this];simp;omega)
 clear HLD
 by_cases hE:E=0
 ·subst hE
  by_cases hV:4294967296<V
  ·rw[HEQ.out true (by simp[hV])]
   have b4:decide (4294967296<V)=true:=by simp[hV]
   clear HEQ
   go_enter Tryz.func123,Tryz.ntmps123
   go_wp2_with (first | (go_at_call 135;(with_reducible refine CF.out.mono ?_);rintro e w2 ⟨v,u,rfl,hT⟩;obtain⟨A7,n7,c7,A8,n8,c8,rfl,rfl,hb2,CL⟩:=CLL.out _ _ _ hT;have HB2:=hid hb2;have HCL:=hid CL;clear hb2 CL hT) | (go_at_call 137;(with_reducible refine(HCL.out _ ((But.refl No _).alloc _)).mono ?_);rintro e w3 ⟨rfl,hb3⟩;have HB3:=hid ((HB2.out.alloc _).trans hb3);clear hb3))
   go_ret
   exact⟨rfl,HB3.out⟩
  ·rw[HEQ.out false (by simp[hV])]
   have b4:decide (4294967296<V)=false:=by simp[hV]
   clear HEQ
   go_enter Tryz.func123,Tryz.ntmps123
   go_wp2_with (first | (go_at_call 135;(with_reducible refine CF.out.mono ?_);rintro e w2 ⟨v,u,rfl,hT⟩;obtain⟨A7,n7,c7,A8,n8,c8,rfl,rfl,hb2,CL⟩:=CLL.out _ _ _ hT;have HB2:=hid hb2;have HCL:=hid CL;clear hb2 CL hT) | (go_at_call 137;(with_reducible refine(HCL.out _ ((But.refl No _).alloc _)).mono ?_);rintro e w3 ⟨rfl,hb3⟩;have HB3:=hid ((HB2.out.alloc _).trans hb3);clear hb3))
   go_ret
   exact⟨rfl,HB3.out⟩
 ·rw[HEQ.out true (by simp[hE])]
  have b4:(E != 0)=true:=by simp[hE]
  have b5:decide (E=0)=false:=by simp[hE]
  clear HEQ
  go_enter Tryz.func123,Tryz.ntmps123
  go_wp2_with (first | (go_at_call 135;(with_reducible refine CF.out.mono ?_);rintro e w2 ⟨v,u,rfl,hT⟩;obtain⟨A7,n7,c7,A8,n8,c8,rfl,rfl,hb2,CL⟩:=CLL.out _ _ _ hT;have HB2:=hid hb2;have HCL:=hid CL;clear hb2 CL hT) | (go_at_call 137;(with_reducible refine(HCL.out _ ((But.refl No _).alloc _)).mono ?_);rintro e w3 ⟨rfl,hb3⟩;have HB3:=hid ((HB2.out.alloc _).trans hb3);clear hb3))
  go_ret
  exact⟨rfl,HB3.out⟩
end Go.Proofs.YtjfaiaipojfhgaaGreat.dem
end
section
namespace Go.Proofs.YtjfaiaipojfhgaaGreat.dem
open Go.Lib (hid)
open Go.ChangeShapes Go.WideShapes Go.ChangeAt Go.RowKit Go.Deep
set_option maxRecDepth 100000 in
set_option maxHeartbeats 4000000 in
theorem period_any (A:Option Addr) (n c:Nat) (l:List Wk) (bl rl:Int) (w:World) (h:RWk w A n l) (hrt:right l bl rl=true):Calls Tryz.prog 98 #[.agg #[.slice A n c,.int .i64 bl,.int .i64 rl]] w fun e w'=>e=.returned (.tuple #[.int .i64 (busyP l bl rl).1,.int .i64 (busyP l bl rl).2])∧But No w w':=by
 have HL:=hid h
 have HRT:=hid hrt
 have CG:Hid (∀ W,But No w W→Calls Tryz.prog 123 #[.agg #[.slice A n c,.int .i64 bl,.int .i64 rl]] W fun e w'=>e=.returned (.bool (decide (4294967296<ldS rl l)))∧But No W w'):=hid (fun W hb=>great_any A n c l bl rl W (h.no hb) hrt)
 have HBA:Hid (But No w (w.alloc (.cells #[.slice A n c,.int .i64 bl,.int .i64 rl] 159))):=hid ((But.refl No w).alloc _)
 clear h hrt
 by_cases hg:4294967296<ldS rl l
 ·have HE:Hid (busyP l bl rl=(0,12)):=hid (by unfold busyP;rw[HRT.out,if_pos rfl,if_pos hg])
  rw[decide_eq_true hg] at CG
  rw[HE.out]
  clear hg
  go_enter Tryz.func98,Tryz.ntmps98
  go_wp2_with (go_at_call 123;(with_reducible refine(CG.out _ HBA.out).mono ?_);rintro e w1 ⟨rfl,hb1⟩;have HB1:=hid (HBA.out.trans hb1);clear hb1)
  go_ret2
  exact⟨rfl,HB1.out⟩
 ·have HE:Hid (busyP l bl rl=busyGo l bl rl 5000 1):=hid (by unfold busyP;rw[HRT.out,if_pos rfl,if_neg hg])
  rw[decide_eq_false hg] at CG
  have HBK:Hid (∀ W,But No (w.alloc (.cells #[.slice A n c,.int .i64 bl,.int .i64 rl] 159)) W→W.cell? ⟨w.heap.size,0,none⟩=some (.slice A n c)∧W.cell? ⟨w.heap.size,1,none⟩=some (.int .i64 bl)∧W.cell? ⟨w.heap.size,2,none⟩=some (.int .i64 rl)):=hid (fun W hb=>box_keep hb)
  clear hg
  go_enter Tryz.func98,Tryz.ntmps98
  go_upto_region 4 with(go_at_call 123;(with_reducible refine(CG.out _ HBA.out).mono ?_);rintro e w1 ⟨rfl,hb1⟩;have HB1:=hid hb1;clear hb1)
  go_wp2_with fail
  go_loopw [4,9] (fun m s wr=>∃ (mv:Int) (q:Nat),m=.int .i64 mv∧s=.int .i64 (q:Int)∧q≤5000∧1≤mv∧mv≤9223372036854775807∧Hid (busyGo l bl rl (5000-q) mv=busyP l bl rl)∧Hid (But No (w.alloc (.cells #[.slice A n c,.int .i64 bl,.int .i64 rl] 159)) wr)) (fun _ s _=>5000-(intOf s).toNat)
  case atStart=>exact⟨1,0,rfl,rfl,by omega,by omega,by omega,HE.out.symm,HB1.out⟩
  case round =>
   obtain⟨m,q,rfl,rfl,hq,hm1,hm2,HG,HBR⟩:=hrel
   by_cases hq5:q<5000
   ·have hq5':(q:Int)<5000:=by omega
    have CC:=hid (arriving_any A n c l bl rl m wr (HL.out.no (HBA.out.trans HBR.out)) HRT.out ⟨hm1,hm2⟩)
    obtain⟨k0,k1,k2⟩:=HBK.out _ HBR.out
    have HG':Hid ((if comO l bl rl m=true then (0,2) else if comS l bl rl m≤m then (m,0) else busyGo l bl rl (5000-(q+1)) (comS l bl rl m))=busyP l bl rl):=hid (by
     have h9:=HG.out
     rw[show 5000-q=(5000-(q+1))+1 by omega,busyGo] at h9
     exact h9)
    cases ho:comO l bl rl m with
    | true =>
     obtain⟨v1,v2⟩:=com_out ho
     rw[v1,v2] at CC
     rw[ho,if_pos rfl] at HG'
     clear ho v1 v2 HG
     go_wp2_with (go_at_call 124;(with_reducible refine CC.out.mono ?_);rintro e w5 ⟨rfl,hb5⟩;have HB5:=hid (HBR.out.trans hb5);clear hb5)
     go_ret2
     exact⟨retp (by rw[←HG'.out]) (by rw[←HG'.out]),HBA.out.trans HB5.out⟩
    | false =>
     obtain⟨v1,v2⟩:=com_in ho
     have hc2:comS l bl rl m≤9223372036854775807:=(ov_not ho).1
     rw[v1,v2] at CC
     rw[ho,if_neg (by simp)] at HG'
     clear ho v1 v2 HG
     generalize comS l bl rl m=cv at CC HG' hc2
     by_cases hc:cv≤m
     ·have b5:decide (cv≤m)=true:=by simp[hc]
      rw[if_pos hc] at HG'
      go_wp2_with (go_at_call 124;(with_reducible refine CC.out.mono ?_);rintro e w5 ⟨rfl,hb5⟩;have HB5:=hid (HBR.out.trans hb5);clear hb5)
      go_ret2
      exact⟨retp (by rw[←HG'.out]) (by rw[←HG'.out]),HBA.out.trans HB5.out⟩
     ·have b5:decide (cv≤m)=false:=by simp;omega
      rw[if_neg hc] at HG'
      go_wp2_with (go_at_call 124;(with_reducible refine CC.out.mono ?_);rintro e w5 ⟨rfl,hb5⟩;have HB5:=hid (HBR.out.trans hb5);clear hb5)
      go_roundw
      case rel=>exact⟨cv,q+1,rfl,by go_num,by omega,by omega,by omega,HG',HB5⟩
      case measure=>simp[intOf];omega
   ·have HE2:Hid (busyP l bl rl=(0,11)):=hid (by rw[←HG.out,show 5000-q=0 by omega];rfl)
    have b6:decide ((q:Int)<5000)=false:=by simp;omega
    clear HG
    go_wp2
    go_ret2
    exact⟨retp (by rw[HE2.out]) (by rw[HE2.out]),HBA.out.trans HBR.out⟩
set_option maxRecDepth 100000 in
set_option maxHeartbeats 4000000 in
theorem descend_any (A:Option Addr) (n c:Nat) (l:List Wk) (bl rl t L:Int) (w:World) (h:RWk w A n l) (hrt:right l bl rl=true) (ht0:0≤t) (ht9:t≤9223372036854775807) (hL1:1≤L):Calls Tryz.prog 99 #[.agg #[.slice A n c,.int .i64 bl,.int .i64 rl],.int .i64 t,.int .i64 L] w fun e w'=>e=.returned (.int .i64 (testGo l bl rl L 5000 t))∧But No w w':=by
 have HL:=hid h
 have HRT:=hid hrt
 have HBA:Hid (But No w (w.alloc (.cells #[.slice A n c,.int .i64 bl,.int .i64 rl] 159))):=hid ((But.refl No w).alloc _)
 have HBK:Hid (∀ W,But No (w.alloc (.cells #[.slice A n c,.int .i64 bl,.int .i64 rl] 159)) W→W.cell? ⟨w.heap.size,0,none⟩=some (.slice A n c)∧W.cell? ⟨w.heap.size,1,none⟩=some (.int .i64 bl)∧W.cell? ⟨w.heap.size,2,none⟩=some (.int .i64 rl)):=hid (fun W hb=>box_keep hb)
 obtain⟨R,hR⟩:∃ R,testGo l bl rl L 5000 t=R:=⟨_,rfl⟩
 have HR0:=hid hR
 rw[hR]
 clear h hrt hR
 go_enter Tryz.func99,Tryz.ntmps99
 go_wp2_with fail
 go_loopw [1,9] (fun m s wr=>∃ (mv:Int) (q:Nat),m=.int .i64 mv∧s=.int .i64 (q:Int)∧q≤5000∧0≤mv∧mv≤9223372036854775807∧Hid (testGo l bl rl L (5000-q) mv=R)∧Hid (But No (w.alloc (.cells #[.slice A n c,.int .i64 bl,.int .i64 rl] 159)) wr)) (fun _ s _=>5000-(intOf s).toNat)
 case atStart=>exact⟨t,0,rfl,rfl,by omega,by omega,by omega,HR0.out,But.refl No _⟩
 case round =>
  obtain⟨m,q,rfl,rfl,hq,hm1,hm2,HG,HBR⟩:=hrel
  by_cases hq5:q<5000
  ·have hq5':(q:Int)<5000:=by omega
   have HG':Hid ((if m<L then 0 else if askE l bl rl m≠0 then askE l bl rl m else if m<askV l bl rl m then 12 else if askV l bl rl m<m then testGo l bl rl L (5000-(q+1)) (askV l bl rl m) else testGo l bl rl L (5000-(q+1)) (m-1))=R):=hid (by
    have h9:=HG.out
    rw[show 5000-q=(5000-(q+1))+1 by omega,testGo] at h9
    exact h9)
   clear HG
   by_cases hml:m<L
   ·have b5:decide (m<L)=true:=by simp[hml]
    rw[if_pos hml] at HG'
    go_wp2
    go_ret
    exact⟨ret1 HG'.out,HBA.out.trans HBR.out⟩
   ·have b5:decide (m<L)=false:=by simp;omega
    rw[if_neg hml] at HG'
    have CAm:=hid (demand_any A n c l bl rl m wr (HL.out.no (HBA.out.trans HBR.out)) HRT.out ⟨by omega,hm2⟩)
    obtain⟨k0,k1,k2⟩:=HBK.out _ HBR.out
    have hav:askE l bl rl m=0→0≤askV l bl rl m∧askV l bl rl m≤9223372036854775807:=fun h=>ask_in h
    generalize askV l bl rl m=av at CAm HG' hav
    generalize askE l bl rl m=ae at CAm HG' hav
    by_cases hae:ae=0
    ·obtain⟨hav0,hav1⟩:=hav hae
     have b6:(ae != 0)=false:=by simp[hae]
     rw[if_neg (by simp[hae])] at HG'
     clear hav hae
     by_cases hgt:m<av
     ·have b7:decide (m<av)=true:=by simp[hgt]
      rw[if_pos hgt] at HG'
      go_wp2_with (go_at_call 125;(with_reducible refine CAm.out.mono ?_);rintro e w5 ⟨rfl,hb5⟩;have HB5:=hid (HBR.out.trans hb5);clear hb5)
      go_ret
      exact⟨ret1 HG'.out,HBA.out.trans HB5.out⟩
     ·have b7:decide (m<av)=false:=by simp;omega
      rw[if_neg hgt] at HG'
      by_cases hlt:av<m
      ·have b8:decide (av<m)=true:=by simp[hlt]
       rw[if_pos hlt] at HG'
       go_wp2_with (go_at_call 125;(with_reducible refine CAm.out.mono ?_);rintro e w5 ⟨rfl,hb5⟩;have HB5:=hid (HBR.out.trans hb5);clear hb5)
       go_roundw
       case rel=>exact⟨av,q+1,rfl,by go_num,by omega,by omega,by omega,HG',HB5⟩
       case measure=>simp[intOf];omega
      ·have b8:decide (av<m)=false:=by simp;omega
       rw[if_neg hlt] at HG'
       go_wp2_with (go_at_call 125;(with_reducible refine CAm.out.mono ?_);rintro e w5 ⟨rfl,hb5⟩;have HB5:=hid (HBR.out.trans hb5);clear hb5)
       go_roundw
       case rel=>exact⟨m-1,q+1,by go_num,by go_num,by omega,by omega,by omega,HG',HB5⟩
       case measure=>simp[intOf];omega
    ·have b6:(ae != 0)=true:=by simp[hae]
     rw[if_pos hae] at HG'
     clear hav hae
     go_wp2_with (go_at_call 125;(with_reducible refine CAm.out.mono ?_);rintro e w5 ⟨rfl,hb5⟩;have HB5:=hid (HBR.out.trans hb5);clear hb5)
     go_ret
     exact⟨ret1 HG'.out,HBA.out.trans HB5.out⟩
  ·have HE2:Hid (R=11):=hid (by rw[←HG.out,show 5000-q=0 by omega];rfl)
   have b6:decide ((q:Int)<5000)=false:=by simp;omega
   clear HG
   go_wp2
   go_ret
   exact⟨ret1 HE2.out.symm,HBA.out.trans HBR.out⟩
set_option maxRecDepth 100000 in
set_option maxHeartbeats 4000000 in
theorem test_any (A:Option Addr) (n c:Nat) (l:List Wk) (bl rl:Int) (w:World) (h:RWk w A n l) (_:inR bl) (_:inR rl):Calls Tryz.prog 71 #[.slice A n c,.int .i64 bl,.int .i64 rl] w fun e w'=>e=.returned (.int .i64 (testV l bl rl))∧But No w w':=by
 have HBA:Hid (But No w (w.alloc (.cells #[.slice A n c,.int .i64 bl,.int .i64 rl] 159))):=hid ((But.refl No w).alloc _)
 have HBK:Hid (∀ W,But No (w.alloc (.cells #[.slice A n c,.int .i64 bl,.int .i64 rl] 159)) W→W.cell? ⟨w.heap.size,0,none⟩=some (.slice A n c)∧W.cell? ⟨w.heap.size,1,none⟩=some (.int .i64 bl)∧W.cell? ⟨w.heap.size,2,none⟩=some (.int .i64 rl)):=hid (fun W hb=>box_keep hb)
 have CR:Hid (∀ W,But No w W→Calls Tryz.prog 96 #[.agg #[.slice A n c,.int .i64 bl,.int .i64 rl]] W fun e w'=>e=.returned (.bool (right l bl rl))∧But No W w'):=hid (fun W hb=>right_any A n c l bl rl W (h.no hb))
 cases hrt:right l bl rl with
 | false =>
  have HE:Hid (testV l bl rl=1):=hid (by unfold testV;rw[hrt,if_neg (by simp)])
  rw[HE.out]
  rw[hrt] at CR
  clear hrt h
  go_enter Tryz.func71,Tryz.ntmps71
  go_wp2_with (go_at_call 96;(with_reducible refine(CR.out _ HBA.out).mono ?_);rintro e w1 ⟨rfl,hb1⟩;have HB1:=hid hb1;clear hb1)
  go_ret
  exact⟨rfl,HBA.out.trans HB1.out⟩
 | true =>
  have hok:=(right_iff.1 hrt).2.2.2
  have hfl:=(fdV_is hok).2
  have CFI:Hid (∀ W,But No w W→Calls Tryz.prog 97 #[.agg #[.slice A n c,.int .i64 bl,.int .i64 rl]] W fun e w'=>e=.returned (.int .i64 (fdV l))∧But No W w'):=hid (fun W hb=>first_any A n c l bl rl W (h.no hb) hok)
  have CBZ:Hid (∀ W,But No w W→Calls Tryz.prog 98 #[.agg #[.slice A n c,.int .i64 bl,.int .i64 rl]] W fun e w'=>e=.returned (.tuple #[.int .i64 (busyP l bl rl).1,.int .i64 (busyP l bl rl).2])∧But No W w'):=hid (fun W hb=>period_any A n c l bl rl W (h.no hb) hrt)
  have CDE:Hid (∀ t L W,0≤t→t≤9223372036854775807→1≤L→But No w W→Calls Tryz.prog 99 #[.agg #[.slice A n c,.int .i64 bl,.int .i64 rl],.int .i64 t,.int .i64 L] W fun e w'=>e=.returned (.int .i64 (testGo l bl rl L 5000 t))∧But No W w'):=hid (fun t L W h1 h2 h3 hb=>descend_any A n c l bl rl t L W (h.no hb) hrt h1 h2 h3)
  have HRT:=hid hrt
  rw[hrt] at CR
  clear hrt h hok
  by_cases hl0:least l=0
  ·have HE:Hid (testV l bl rl=0):=hid (by unfold testV;rw[HRT.out,if_pos rfl,if_pos hl0])
   rw[HE.out]
   rw[show fdV l=1099511627777 by unfold fdV;rw[if_pos hl0]] at CFI
   clear hl0 hfl CBZ CDE
   go_enter Tryz.func71,Tryz.ntmps71
   go_wp2_with (first | (go_at_call 96;(with_reducible refine(CR.out _ HBA.out).mono ?_);rintro e w1 ⟨rfl,hb1⟩;obtain⟨k0,k1,k2⟩:=HBK.out _ hb1;have HB1:=hid hb1;clear hb1) | (go_at_call 97;(with_reducible refine(CFI.out _ (HBA.out.trans HB1.out)).mono ?_);rintro e w2 ⟨rfl,hb2⟩;have HB2:=hid (HB1.out.trans hb2);clear hb2))
   go_ret
   exact⟨rfl,HBA.out.trans HB2.out⟩
  ·have hl1:1≤least l∧least l≤1099511627776:=by omega
   have HE:Hid (testV l bl rl=if (busyP l bl rl).2≠0 then (busyP l bl rl).2 else testGo l bl rl (least l) 5000 (busyP l bl rl).1):=hid (by unfold testV;rw[HRT.out,if_pos rfl,if_neg hl0])
   rw[show fdV l=least l by unfold fdV;rw[if_neg hl0]] at CFI
   have HBL:=hid (fun h=>busyP_le (l:=l) (bl:=bl) (rl:=rl) h)
   generalize least l=L at hl1 HE CFI
   have CDL:Hid (∀ t W,0≤t→t≤9223372036854775807→But No w W→Calls Tryz.prog 99 #[.agg #[.slice A n c,.int .i64 bl,.int .i64 rl],.int .i64 t,.int .i64 L] W fun e w'=>e=.returned (.int .i64 (testGo l bl rl L 5000 t))∧But No W w'):=hid (fun t W h1 h2 hb=>CDE.out t L W h1 h2 hl1.1 hb)
   have q0:(L == 1099511627777)=false:=by simp;omega
   have q0':decide (L=1099511627777)=false:=by simp;omega
   clear hl0 hfl CDE
   obtain⟨V,hV⟩:∃ V,testV l bl rl=V:=⟨_,rfl⟩
   rw[hV] at HE ⊢
   clear hV
   generalize (busyP l bl rl).1=t0 at CBZ HE HBL
   generalize (busyP l bl rl).2=e0 at CBZ HE HBL
   by_cases he:e0=0
   ·have q2:(e0 != 0)=false:=by simp[he]
    obtain⟨ht1,ht2⟩:=HBL.out he
    rw[if_neg (by simp[he])] at HE
    have CD:=hid (fun W hb=>CDL.out t0 W (by omega) ht2 hb)
    rw[←HE.out] at CD
    clear he HBL CDL
    go_enter Tryz.func71,Tryz.ntmps71
    go_wp2_with (first | (go_at_call 96;(with_reducible refine(CR.out _ HBA.out).mono ?_);rintro e w1 ⟨rfl,hb1⟩;obtain⟨k0,k1,k2⟩:=HBK.out _ hb1;have HB1:=hid hb1;clear hb1) | (go_at_call 97;(with_reducible refine(CFI.out _ (HBA.out.trans HB1.out)).mono ?_);rintro e w2 ⟨rfl,hb2⟩;have HB2:=hid (HB1.out.trans hb2);obtain⟨k3,k4,k5⟩:=HBK.out _ HB2.out;clear hb2) | (go_at_call 98;(with_reducible refine(CBZ.out _ (HBA.out.trans HB2.out)).mono ?_);rintro e w3 ⟨rfl,hb3⟩;have HB3:=hid (HB2.out.trans hb3);obtain⟨k6,k7,k8⟩:=HBK.out _ HB3.out;clear hb3) | (go_at_call 99;(with_reducible refine(CD.out _ (HBA.out.trans HB3.out)).mono ?_);rintro e w4 ⟨rfl,hb4⟩;have HB4:=hid (HB3.out.trans hb4);clear hb4))
    go_ret
    exact⟨rfl,HBA.out.trans HB4.out⟩
   ·have q2:(e0 != 0)=true:=by simp[he]
    rw[if_pos he] at HE
    rw[HE.out]
    clear he HBL CDL
    go_enter Tryz.func71,Tryz.ntmps71
    go_wp2_with (first | (go_at_call 96;(with_reducible refine(CR.out _ HBA.out).mono ?_);rintro e w1 ⟨rfl,hb1⟩;obtain⟨k0,k1,k2⟩:=HBK.out _ hb1;have HB1:=hid hb1;clear hb1) | (go_at_call 97;(with_reducible refine(CFI.out _ (HBA.out.trans HB1.out)).mono ?_);rintro e w2 ⟨rfl,hb2⟩;have HB2:=hid (HB1.out.trans hb2);obtain⟨k3,k4,k5⟩:=HBK.out _ HB2.out;clear hb2) | (go_at_call 98;(with_reducible refine(CBZ.out _ (HBA.out.trans HB2.out)).mono ?_);rintro e w3 ⟨rfl,hb3⟩;have HB3:=hid (HB2.out.trans hb3);clear hb3))
    go_ret
    exact⟨rfl,HBA.out.trans HB3.out⟩
end Go.Proofs.YtjfaiaipojfhgaaGreat.dem
end
