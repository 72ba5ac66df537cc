/- Part 46 of a proof: DeC5 DeC6. -/
import Derived.Test.YtjfaiaipojfhgaaGreatC45
section
namespace Go.Proofs.YtjfaiaipojfhgaaGreat.dem
open Go.Lib (hid)
open Go.ChangeShapes Go.WideShapes Go.ChangeAt Go.RowKit Go.Deep
structure FT (w wr:World) (R:Int × Int):Prop where
 box:Blk wr w.heap.size #[.int .i64 R.1,.int .i64 R.2] 196
 res:Blk wr (w.heap.size+1) #[.int .i64 0,.int .i64 0] 196
 but:But No w wr
theorem FT.start (w:World) (R:Int × Int):FT w ((w.alloc (.cells #[.int .i64 R.1,.int .i64 R.2] 196)).alloc (.cells #[.int .i64 0,.int .i64 0] 196)) R:=⟨(Blk.new w _ _).alloc _,blk2 w _ _ _,((But.refl No w).alloc _).alloc _⟩
theorem FT.no {w wr w2:World} {R:Int × Int} (h:FT w wr R) (hb:But No wr w2):FT w w2 R:=⟨h.box.but hb (fun f=>f),h.res.but hb (fun f=>f),h.but.trans hb⟩
theorem FT.set {w wr:World} {R:Int × Int} (h:FT w wr R) (a b:Int):FT w ((wr.setCell ⟨w.heap.size,0,none⟩ (.int .i64 a)).setCell ⟨w.heap.size,1,none⟩ (.int .i64 b)) (a,b) :=
 ⟨(h.box.set 0 _).set 1 _,(h.res.other (a:=⟨w.heap.size,0,none⟩) (Nat.succ_ne_self _) _).other (a:=⟨w.heap.size,1,none⟩) (Nat.succ_ne_self _) _,(h.but.setNew (Nat.le_refl _) _).setNew (Nat.le_refl _) _⟩
set_option maxRecDepth 100000 in
set_option maxHeartbeats 4000000 in
theorem foldT_any (A:Option Addr) (n c:Nat) (l:List Wk) (T:Nat→Int × Int) (q1 q2 q3:Value) (w:World) (h:RWk w A n l)
  (hF:∀ (i:Nat) (x:Wk) (W:World),l[i]? = some x→But No w W→Calls Tryz.prog 156 #[.agg #[.int .i64 (T i).1,.int .i64 (T i).2],wkV x,q1,q2,q3] W fun e w'=>e=.returned (.agg #[.int .i64 (T (i+1)).1,.int .i64 (T (i+1)).2])∧But No W w') :
  Calls Tryz.prog 155 #[.slice A n c,.agg #[.int .i64 (T 0).1,.int .i64 (T 0).2],.func (.func 156) #[] #[q1,q2,q3]] w fun e w'=>e=.returned (.agg #[.int .i64 (T n).1,.int .i64 (T n).2])∧But No w w':=by
 have HN:=hid h.len
 have HL:=hid h
 have hmax:=h.max
 have HF:=hid hF
 have H0:=hid (FT.start w (T 0))
 clear h hF
 go_enter Tryz.func155,Tryz.ntmps155
 go_wp2_with fail
 go_loopw [11] (fun i wr=>∃ q:Nat,i=.int .i64 (q:Int)∧q≤n∧Hid (FT w wr (T q))) (fun i _=>n-(intOf i).toNat)
 case atStart=>exact⟨0,rfl,by omega,H0.out⟩
 case round =>
  obtain⟨q,rfl,hq,HT⟩:=hrel
  clear H0
  by_cases hqn:q<n
  ·have hqn2:(q:Int)<(n:Int):=by omega
   have hq0:(0:Int)≤(q:Int):=Int.natCast_nonneg q
   obtain⟨x,hx⟩:∃ x,l[q]? = some x:=⟨_,List.getElem?_eq_getElem (by rw[HN.out];exact hqn)⟩
   obtain⟨b,off,rfl,_,e0,e1,e2,e3⟩:=(HL.out.no HT.out.but).at1 hx
   have CF:Hid (∀ W,But No w W→Calls Tryz.prog 156 #[.agg #[.int .i64 (T q).1,.int .i64 (T q).2],wkV x,q1,q2,q3] W fun e w'=>e=.returned (.agg #[.int .i64 (T (q+1)).1,.int .i64 (T (q+1)).2])∧But No W w'):=hid (fun W hb=>HF.out q x W hx hb)
   clear hx
   obtain⟨x0,x1,x2,x3⟩:=x
   unfold wkV at CF
   dsimp only at e0 e1 e2 e3 CF
   obtain⟨y,hy⟩:∃ y,T (q+1)=y:=⟨_,rfl⟩
   rw[hy] at CF
   have HY:=hid hy
   obtain⟨z,hz⟩:∃ z,T q=z:=⟨_,rfl⟩
   rw[hz] at CF HT
   clear hy hz
   obtain⟨y0,y1⟩:=y
   obtain⟨z0,z1⟩:=z
   dsimp only at CF
   have hTa:=HT.out.no ((But.refl No wr).alloc (.cells #[.int .i64 x0,.int .i64 x1,.int .i64 x2,.bool x3] 129))
   have s0:=HT.out.box.cell (o:=0) rfl
   have s1:=HT.out.box.cell (o:=1) rfl
   have r0:=hTa.box.cell (o:=0) rfl
   have r1:=hTa.box.cell (o:=1) rfl
   have HTA:=hid hTa
   clear hTa
   dsimp only at s0 s1 r0 r1
   go_wp2_with (go_at_call 156;(with_reducible refine(CF.out _ HTA.out.but).mono ?_);rintro e w1 ⟨rfl,hb1⟩;have hT1:=HTA.out.no hb1;have g0:=hT1.box.frozen 0;have g1:=hT1.box.frozen 1;have t0:=hT1.box.cell (o:=0) rfl;have t1:=hT1.box.cell (o:=1) rfl;have HT1:=hid hT1;clear hT1 hb1)
   go_roundw
   case rel=>exact⟨q+1,by go_num,by omega,by rw[HY.out];exact HT1.out.set _ _⟩
   case measure=>simp[intOf];omega
  ·have HI:Hid (q=n):=hid (by omega)
   have b3:decide ((q:Int)<(n:Int))=false:=by simp;omega
   rw[HI.out] at HT
   obtain⟨z,hz⟩:∃ z,T n=z:=⟨_,rfl⟩
   rw[hz] at HT
   have HZ:=hid hz
   clear hz
   obtain⟨z0,z1⟩:=z
   have s0:=HT.out.box.cell (o:=0) rfl
   have s1:=HT.out.box.cell (o:=1) rfl
   have g0:=HT.out.res.frozen 0
   have g1:=HT.out.res.frozen 1
   have t0:=HT.out.res.cell (o:=0) rfl
   have t1:=HT.out.res.cell (o:=1) rfl
   dsimp only at s0 s1
   have KF:=(HT.out.res.set 0 (.int .i64 z0)).set 1 (.int .i64 z1)
   have f0:=KF.cell (o:=0) rfl
   have f1:=KF.cell (o:=1) rfl
   clear KF
   go_wp2
   exact bodyPost_ret (v:=.agg #[.int .i64 z0,.int .i64 z1]) (by simp[results,Tryz.results155,go_sem,f0,f1]) rfl ⟨by rw[HZ.out],(HT.out.but.setNew (Nat.le_succ _) _).setNew (Nat.le_succ _) _⟩
set_option maxRecDepth 100000 in
set_option maxHeartbeats 4000000 in
theorem sum_com (A:Option Addr) (n c:Nat) (l:List Wk) (bl rl t:Int) (bt:Nat) (w:World) (h:RWk w A n l) (hr:right l bl rl=true) (ht:1≤t∧t≤9223372036854775807) (hc:w.cell? ⟨bt,0,none⟩=some (.int .i64 t)) :
  Calls Tryz.prog 138 #[.agg #[.slice A n c,.int .i64 bl,.int .i64 rl],.int .i64 t,.func (.func 139) #[] #[.pointer (some ⟨bt,0,none⟩)]] w fun e w'=>e=.returned (.tuple #[.int .i64 (tot bl (cmt rl t) t l n).1,.int .i64 (tot bl (cmt rl t) t l n).2])∧But No w w':=by
 have hmax:=h.max
 have hl:=h.len
 obtain⟨_,⟨hb0,hb9⟩,⟨hr0,hr9⟩,hok⟩:=right_iff.1 hr
 have hf:∀ y ∈ l,0≤cmt rl t y:=fun y hy=>by have:=trm_bd (rl:=rl) ht.1 hr0 (hok y hy);omega
 have h3:Blk (((w.alloc (.cells #[.slice A n c,.int .i64 bl,.int .i64 rl] 159)).alloc (.cells #[.int .i64 t] 3)).alloc (.cells #[.func (.func 139) #[] #[.pointer (some ⟨bt,0,none⟩)]] 198)) w.heap.size #[.slice A n c,.int .i64 bl,.int .i64 rl] 159:=((Blk.new w _ _).alloc _).alloc _
 have h4:Blk (((w.alloc (.cells #[.slice A n c,.int .i64 bl,.int .i64 rl] 159)).alloc (.cells #[.int .i64 t] 3)).alloc (.cells #[.func (.func 139) #[] #[.pointer (some ⟨bt,0,none⟩)]] 198)) (w.heap.size+1) #[.int .i64 t] 3:=(blk2 w _ _ _).alloc _
 have h5:Blk (((w.alloc (.cells #[.slice A n c,.int .i64 bl,.int .i64 rl] 159)).alloc (.cells #[.int .i64 t] 3)).alloc (.cells #[.func (.func 139) #[] #[.pointer (some ⟨bt,0,none⟩)]] 198)) (w.heap.size+1+1) #[.func (.func 139) #[] #[.pointer (some ⟨bt,0,none⟩)]] 198:=by
  have:=blk2 (w.alloc (.cells #[.slice A n c,.int .i64 bl,.int .i64 rl] 159)) (.cells #[.int .i64 t] 3) #[.func (.func 139) #[] #[.pointer (some ⟨bt,0,none⟩)]] 198
  rw[size_alloc1] at this;exact this
 have hb:But No w (((w.alloc (.cells #[.slice A n c,.int .i64 bl,.int .i64 rl] 159)).alloc (.cells #[.int .i64 t] 3)).alloc (.cells #[.func (.func 139) #[] #[.pointer (some ⟨bt,0,none⟩)]] 198)):=(((But.refl No w).alloc _).alloc _).alloc _
 have HBW:=hid hb
 have CF:Hid (Calls Tryz.prog 155 #[.slice A n c,.agg #[.int .i64 bl,.int .i64 0],.func (.func 156) #[] #[.pointer (some ⟨w.heap.size+1+1,0,none⟩),.pointer (some ⟨w.heap.size,0,none⟩),.pointer (some ⟨w.heap.size+1,0,none⟩)]] (((w.alloc (.cells #[.slice A n c,.int .i64 bl,.int .i64 rl] 159)).alloc (.cells #[.int .i64 t] 3)).alloc (.cells #[.func (.func 139) #[] #[.pointer (some ⟨bt,0,none⟩)]] 198)) fun e w'=>e=.returned (.agg #[.int .i64 (tot bl (cmt rl t) t l n).1,.int .i64 (tot bl (cmt rl t) t l n).2])∧But No (((w.alloc (.cells #[.slice A n c,.int .i64 bl,.int .i64 rl] 159)).alloc (.cells #[.int .i64 t] 3)).alloc (.cells #[.func (.func 139) #[] #[.pointer (some ⟨bt,0,none⟩)]] 198)) w'):=hid (by
  have h9:=foldT_any A n c l (tot bl (cmt rl t) t l) (.pointer (some ⟨w.heap.size+1+1,0,none⟩)) (.pointer (some ⟨w.heap.size,0,none⟩)) (.pointer (some ⟨w.heap.size+1,0,none⟩)) _ (h.no hb) (fun i x W hx hbW=>by
   have hil:i<l.length:=(List.getElem?_eq_some_iff.1 hx).1
   have hT:(0≤(tot bl (cmt rl t) t l i).1∧(tot bl (cmt rl t) t l i).1≤9223372036854775807)∧((tot bl (cmt rl t) t l i).2=0∨(tot bl (cmt rl t) t l i).2=2):=by
    unfold tot
    cases ho:ov bl (cmt rl t) t l i with
    | true=>rw[if_pos rfl];exact⟨⟨Int.le_refl 0,by omega⟩,Or.inr rfl⟩
    | false=>rw[if_neg (by simp)];exact⟨⟨sN_pos hb0 hf (Nat.le_of_lt hil),(ov_not ho).1⟩,Or.inl rfl⟩
   have h8:=clo_sumcom (tot bl (cmt rl t) t l i).1 (tot bl (cmt rl t) t l i).2 x (w.heap.size+1+1) w.heap.size (w.heap.size+1) bt t rl W hT.1 hT.2 (hok x (List.mem_of_getElem? hx)) ht ⟨hr0,by omega⟩ (cell_keep (h5.cell rfl) hbW) (cell_keep (h3.cell rfl) hbW) (cell_keep (h4.cell rfl) hbW) (cell_keep hc (hb.trans hbW))
   rw[com_step hr ht.1 hx] at h8
   exact h8)
  have h0:tot bl (cmt rl t) t l 0=(bl,0):=by unfold tot;rw[if_neg (by rw[ov_zero (by omega)];simp)];rfl
  rw[h0] at h9
  exact h9)
 clear h hl hr ht hc hb0 hb9 hr0 hr9 hok hf h3 h4 h5 hb
 generalize tot bl (cmt rl t) t l n=R at CF ⊢
 obtain⟨R1,R2⟩:=R
 dsimp only at CF ⊢
 have hmf:∀ (fn:Fn) (first cap:Array Value) (w:World),(Instr.makeFunc fn first cap).run Tryz.prog w=.ok (.func fn first cap) w:=fun _ _ _ _=>rfl
 go_enter Tryz.func138,Tryz.ntmps138
 go_wp2_with (go_at_call 155;(with_reducible refine CF.out.mono ?_);rintro e w1 ⟨rfl,hb1⟩;have HB1:=hid (HBW.out.trans hb1);clear hb1)
 go_region
 all_goals (try go_wp2)
 all_goals go_ret2
 all_goals exact⟨rfl,by first | exact(HB1.out.alloc _).drew | exact HB1.out.drew.alloc _ | exact HB1.out.alloc _⟩
set_option maxRecDepth 100000 in
set_option maxHeartbeats 4000000 in
theorem com_any (A:Option Addr) (n c:Nat) (l:List Wk) (bl rl t:Int) (w:World) (h:RWk w A n l) (hr:right l bl rl=true) (ht:1≤t∧t≤9223372036854775807) :
  Calls Tryz.prog 124 #[.agg #[.slice A n c,.int .i64 bl,.int .i64 rl],.int .i64 t] w fun e w'=>e=.returned (.tuple #[.int .i64 (tot bl (cmt rl t) t l n).1,.int .i64 (tot bl (cmt rl t) t l n).2])∧But No w w':=by
 have hb:But No w ((w.alloc (.cells #[.slice A n c,.int .i64 bl,.int .i64 rl] 159)).alloc (.cells #[.int .i64 t] 3)):=((But.refl No w).alloc _).alloc _
 have HBW:=hid hb
 have CS:Hid (Calls Tryz.prog 138 #[.agg #[.slice A n c,.int .i64 bl,.int .i64 rl],.int .i64 t,.func (.func 139) #[] #[.pointer (some ⟨w.heap.size+1,0,none⟩)]] ((w.alloc (.cells #[.slice A n c,.int .i64 bl,.int .i64 rl] 159)).alloc (.cells #[.int .i64 t] 3)) fun e w'=>e=.returned (.tuple #[.int .i64 (tot bl (cmt rl t) t l n).1,.int .i64 (tot bl (cmt rl t) t l n).2])∧But No ((w.alloc (.cells #[.slice A n c,.int .i64 bl,.int .i64 rl] 159)).alloc (.cells #[.int .i64 t] 3)) w'):=hid (sum_com A n c l bl rl t (w.heap.size+1) _ (h.no hb) hr ht ((blk2 w _ _ _).cell rfl))
 clear h hr hb
 generalize tot bl (cmt rl t) t l n=R at CS ⊢
 obtain⟨R1,R2⟩:=R
 dsimp only at CS ⊢
 have hmf:∀ (fn:Fn) (first cap:Array Value) (w:World),(Instr.makeFunc fn first cap).run Tryz.prog w=.ok (.func fn first cap) w:=fun _ _ _ _=>rfl
 go_enter Tryz.func124,Tryz.ntmps124
 go_wp2_with (go_at_call 138;(with_reducible refine CS.out.mono ?_);rintro e w1 ⟨rfl,hb1⟩;have HB1:=hid (HBW.out.trans hb1);clear hb1)
 go_ret2
 exact⟨rfl,HB1.out⟩
set_option maxRecDepth 100000 in
set_option maxHeartbeats 4000000 in
theorem sum_dem (A:Option Addr) (n c:Nat) (l:List Wk) (bl rl t:Int) (bt:Nat) (w:World) (h:RWk w A n l) (hr:right l bl rl=true) (ht:1≤t∧t≤9223372036854775807) (hc:w.cell? ⟨bt,0,none⟩=some (.int .i64 t)) :
  Calls Tryz.prog 138 #[.agg #[.slice A n c,.int .i64 bl,.int .i64 rl],.int .i64 t,.func (.func 142) #[] #[.pointer (some ⟨bt,0,none⟩)]] w fun e w'=>e=.returned (.tuple #[.int .i64 (tot bl (trm rl t) t l n).1,.int .i64 (tot bl (trm rl t) t l n).2])∧But No w w':=by
 have hmax:=h.max
 have hl:=h.len
 obtain⟨_,⟨hb0,hb9⟩,⟨hr0,hr9⟩,hok⟩:=right_iff.1 hr
 have hf:∀ y ∈ l,0≤trm rl t y:=fun y hy=>by have:=trm_bd (rl:=rl) ht.1 hr0 (hok y hy);omega
 have h3:Blk (((w.alloc (.cells #[.slice A n c,.int .i64 bl,.int .i64 rl] 159)).alloc (.cells #[.int .i64 t] 3)).alloc (.cells #[.func (.func 142) #[] #[.pointer (some ⟨bt,0,none⟩)]] 198)) w.heap.size #[.slice A n c,.int .i64 bl,.int .i64 rl] 159:=((Blk.new w _ _).alloc _).alloc _
 have h4:Blk (((w.alloc (.cells #[.slice A n c,.int .i64 bl,.int .i64 rl] 159)).alloc (.cells #[.int .i64 t] 3)).alloc (.cells #[.func (.func 142) #[] #[.pointer (some ⟨bt,0,none⟩)]] 198)) (w.heap.size+1) #[.int .i64 t] 3:=(blk2 w _ _ _).alloc _
 have h5:Blk (((w.alloc (.cells #[.slice A n c,.int .i64 bl,.int .i64 rl] 159)).alloc (.cells #[.int .i64 t] 3)).alloc (.cells #[.func (.func 142) #[] #[.pointer (some ⟨bt,0,none⟩)]] 198)) (w.heap.size+1+1) #[.func (.func 142) #[] #[.pointer (some ⟨bt,0,none⟩)]] 198:=by
  have:=blk2 (w.alloc (.cells #[.slice A n c,.int .i64 bl,.int .i64 rl] 159)) (.cells #[.int .i64 t] 3) #[.func (.func 142) #[] #[.pointer (some ⟨bt,0,none⟩)]] 198
  rw[size_alloc1] at this;exact this
 have hb:But No w (((w.alloc (.cells #[.slice A n c,.int .i64 bl,.int .i64 rl] 159)).alloc (.cells #[.int .i64 t] 3)).alloc (.cells #[.func (.func 142) #[] #[.pointer (some ⟨bt,0,none⟩)]] 198)):=(((But.refl No w).alloc _).alloc _).alloc _
 have HBW:=hid hb
 have CF:Hid (Calls Tryz.prog 155 #[.slice A n c,.agg #[.int .i64 bl,.int .i64 0],.func (.func 156) #[] #[.pointer (some ⟨w.heap.size+1+1,0,none⟩),.pointer (some ⟨w.heap.size,0,none⟩),.pointer (some ⟨w.heap.size+1,0,none⟩)]] (((w.alloc (.cells #[.slice A n c,.int .i64 bl,.int .i64 rl] 159)).alloc (.cells #[.int .i64 t] 3)).alloc (.cells #[.func (.func 142) #[] #[.pointer (some ⟨bt,0,none⟩)]] 198)) fun e w'=>e=.returned (.agg #[.int .i64 (tot bl (trm rl t) t l n).1,.int .i64 (tot bl (trm rl t) t l n).2])∧But No (((w.alloc (.cells #[.slice A n c,.int .i64 bl,.int .i64 rl] 159)).alloc (.cells #[.int .i64 t] 3)).alloc (.cells #[.func (.func 142) #[] #[.pointer (some ⟨bt,0,none⟩)]] 198)) w'):=hid (by
  have h9:=foldT_any A n c l (tot bl (trm rl t) t l) (.pointer (some ⟨w.heap.size+1+1,0,none⟩)) (.pointer (some ⟨w.heap.size,0,none⟩)) (.pointer (some ⟨w.heap.size+1,0,none⟩)) _ (h.no hb) (fun i x W hx hbW=>by
   have hil:i<l.length:=(List.getElem?_eq_some_iff.1 hx).1
   have hT:(0≤(tot bl (trm rl t) t l i).1∧(tot bl (trm rl t) t l i).1≤9223372036854775807)∧((tot bl (trm rl t) t l i).2=0∨(tot bl (trm rl t) t l i).2=2):=by
    unfold tot
    cases ho:ov bl (trm rl t) t l i with
    | true=>rw[if_pos rfl];exact⟨⟨Int.le_refl 0,by omega⟩,Or.inr rfl⟩
    | false=>rw[if_neg (by simp)];exact⟨⟨sN_pos hb0 hf (Nat.le_of_lt hil),(ov_not ho).1⟩,Or.inl rfl⟩
   have h8:=clo_sumdem (tot bl (trm rl t) t l i).1 (tot bl (trm rl t) t l i).2 x (w.heap.size+1+1) w.heap.size (w.heap.size+1) bt t rl W hT.1 hT.2 (hok x (List.mem_of_getElem? hx)) ht ⟨hr0,by omega⟩ (cell_keep (h5.cell rfl) hbW) (cell_keep (h3.cell rfl) hbW) (cell_keep (h4.cell rfl) hbW) (cell_keep hc (hb.trans hbW))
   rw[dem_step hr ht.1 hx] at h8
   exact h8)
  have h0:tot bl (trm rl t) t l 0=(bl,0):=by unfold tot;rw[if_neg (by rw[ov_zero (by omega)];simp)];rfl
  rw[h0] at h9
  exact h9)
 clear h hl hr ht hc hb0 hb9 hr0 hr9 hok hf h3 h4 h5 hb
 generalize tot bl (trm rl t) t l n=R at CF ⊢
 obtain⟨R1,R2⟩:=R
 dsimp only at CF ⊢
 have hmf:∀ (fn:Fn) (first cap:Array Value) (w:World),(Instr.makeFunc fn first cap).run Tryz.prog w=.ok (.func fn first cap) w:=fun _ _ _ _=>rfl
 go_enter Tryz.func138,Tryz.ntmps138
 go_wp2_with (go_at_call 155;(with_reducible refine CF.out.mono ?_);rintro e w1 ⟨rfl,hb1⟩;have HB1:=hid (HBW.out.trans hb1);clear hb1)
 go_region
 all_goals (try go_wp2)
 all_goals go_ret2
 all_goals exact⟨rfl,by first | exact(HB1.out.alloc _).drew | exact HB1.out.drew.alloc _ | exact HB1.out.alloc _⟩
set_option maxRecDepth 100000 in
set_option maxHeartbeats 4000000 in
theorem dem_any (A:Option Addr) (n c:Nat) (l:List Wk) (bl rl t:Int) (w:World) (h:RWk w A n l) (hr:right l bl rl=true) (ht:1≤t∧t≤9223372036854775807) :
  Calls Tryz.prog 125 #[.agg #[.slice A n c,.int .i64 bl,.int .i64 rl],.int .i64 t] w fun e w'=>e=.returned (.tuple #[.int .i64 (tot bl (trm rl t) t l n).1,.int .i64 (tot bl (trm rl t) t l n).2])∧But No w w':=by
 have hb:But No w ((w.alloc (.cells #[.slice A n c,.int .i64 bl,.int .i64 rl] 159)).alloc (.cells #[.int .i64 t] 3)):=((But.refl No w).alloc _).alloc _
 have HBW:=hid hb
 have CS:Hid (Calls Tryz.prog 138 #[.agg #[.slice A n c,.int .i64 bl,.int .i64 rl],.int .i64 t,.func (.func 142) #[] #[.pointer (some ⟨w.heap.size+1,0,none⟩)]] ((w.alloc (.cells #[.slice A n c,.int .i64 bl,.int .i64 rl] 159)).alloc (.cells #[.int .i64 t] 3)) fun e w'=>e=.returned (.tuple #[.int .i64 (tot bl (trm rl t) t l n).1,.int .i64 (tot bl (trm rl t) t l n).2])∧But No ((w.alloc (.cells #[.slice A n c,.int .i64 bl,.int .i64 rl] 159)).alloc (.cells #[.int .i64 t] 3)) w'):=hid (sum_dem A n c l bl rl t (w.heap.size+1) _ (h.no hb) hr ht ((blk2 w _ _ _).cell rfl))
 clear h hr hb
 generalize tot bl (trm rl t) t l n=R at CS ⊢
 obtain⟨R1,R2⟩:=R
 dsimp only at CS ⊢
 have hmf:∀ (fn:Fn) (first cap:Array Value) (w:World),(Instr.makeFunc fn first cap).run Tryz.prog w=.ok (.func fn first cap) w:=fun _ _ _ _=>rfl
 go_enter Tryz.func125,Tryz.ntmps125
 go_wp2_with (go_at_call 138;(with_reducible refine CS.out.mono ?_);rintro e w1 ⟨rfl,hb1⟩;have HB1:=hid (HBW.out.trans hb1);clear hb1)
 go_ret2
 exact⟨rfl,HB1.out⟩
end Go.Proofs.YtjfaiaipojfhgaaGreat.dem
end
section
namespace Go.Proofs.YtjfaiaipojfhgaaGreat.dem
open Go.Lib (hid)
open Go.ChangeShapes Go.WideShapes Go.ChangeAt Go.RowKit Go.Deep
def OQ (v u:Value):Nat→Prop:=fun k=>v.ownBlock=some k∨u.ownBlock=some k
def SS (w:World) (v u:Value) (x0 x1 rl:Int) (bc b3:Nat) (w':World):Prop :=
 w'.cell? ⟨b3,0,none⟩=some v∧w'.cell? ⟨b3,1,none⟩=some u∧w'.cell? ⟨b3+1,0,none⟩=some (.int .i64 x0)∧w'.cell? ⟨b3+1,1,none⟩=some (.int .i64 x1)∧w'.cell? ⟨bc,2,none⟩=some (.int .i64 rl)∧But (OQ v u) w w'∧∃ y0 y1,Blk w' (b3+1+1) #[y0,y1] 190
theorem cell_but {Q:Nat→Prop} {w1 w2:World} {b o:Nat} {v:Value} (h:w1.cell? ⟨b,o,none⟩=some v) (hb:But Q w1 w2) (hq:¬Q b):w2.cell? ⟨b,o,none⟩=some v:=by
 rw[hb.cell (World.block_lt_of_cell? w1 _ h) hq];exact h
theorem SS.but {w:World} {Q:Nat→Prop} {v u:Value} {x0 x1 rl:Int} {bc b3:Nat} {w1 w2:World} (h:SS w v u x0 x1 rl bc b3 w1) (hb:But Q w1 w2) (hq:∀ k,Q k→k≠bc∧k<b3∧OQ v u k):SS w v u x0 x1 rl bc b3 w2:=by
 obtain⟨h0,h1,h2,h3,h4,h6,y0,y1,h5⟩:=h
 have q0:¬Q b3:=fun h=>by have:=hq _ h;omega
 have q1:¬Q (b3+1):=fun h=>by have:=hq _ h;omega
 have q2:¬Q (b3+1+1):=fun h=>by have:=hq _ h;omega
 exact⟨cell_but h0 hb q0,cell_but h1 hb q0,cell_but h2 hb q1,cell_but h3 hb q1,cell_but h4 hb (fun h=>(hq _ h).1 rfl),h6.trans (hb.mono (fun k _ h=>(hq k h).2.2)),y0,y1,h5.but hb q2⟩
theorem SS.set {w:World} {v u:Value} {x0 x1 rl:Int} {bc b3:Nat} {w1:World} (a b:Value) (h:SS w v u x0 x1 rl bc b3 w1) (hc:bc<b3) (hw:w.heap.size≤b3):SS w v u x0 x1 rl bc b3 ((w1.setCell ⟨b3+1+1,0,none⟩ a).setCell ⟨b3+1+1,1,none⟩ b):=by
 obtain⟨h0,h1,h2,h3,h4,h6,y0,y1,h5⟩:=h
 have k:∀ (c o:Nat) (z:Value),c≠b3+1+1→w1.cell? ⟨c,o,none⟩=some z→((w1.setCell ⟨b3+1+1,0,none⟩ a).setCell ⟨b3+1+1,1,none⟩ b).cell? ⟨c,o,none⟩=some z:=fun c o z hb h=>by
  rw[World.cell?_setCell_other _ _ _ _ (by intro h9;simp only[Addr.mk.injEq] at h9;omega),World.cell?_setCell_other _ _ _ _ (by intro h9;simp only[Addr.mk.injEq] at h9;omega)];exact h
 exact⟨k _ _ _ (by omega) h0,k _ _ _ (by omega) h1,k _ _ _ (by omega) h2,k _ _ _ (by omega) h3,k _ _ _ (by omega) h4,(h6.setNew (by show w.heap.size≤b3+1+1;omega) _).setNew (by show w.heap.size≤b3+1+1;omega) _,a,b,(h5.set 0 a).set 1 b⟩
theorem own_ne {w:World} {v:Value} {zs:List Int} {b:Nat} {cur:Array Value} {e:TypeId} (h:Ov w v zs) (hb:Blk w b cur e) (he:e≠3):v.ownBlock≠some b:=fun f=>by
 obtain⟨_,h2⟩:=h
 rcases h2 with⟨rfl,_⟩ | ⟨g,cap,cur',rfl,_,hh,_⟩
 ·simp[Value.ownBlock] at f
 ·have:g=b:=by simpa [Value.ownBlock] using f
  subst this
  unfold Blk at hb
  rw[hh] at hb
  simp only[Option.some.injEq,Obj.cells.injEq] at hb
  exact he hb.2.1.symm
theorem Two.set {w wr:World} {v u:Value} {zs ts:List Int} {b:Nat} {cur:Array Value} {e:TypeId} (h:Two w wr v u zs ts) (hb:Blk wr b cur e) (he:e≠3) (hw:w.heap.size≤b) (o:Nat) (z:Value):Two w (wr.setCell ⟨b,o,none⟩ z) v u zs ts :=
 ⟨h.but.setNew hw _,h.o1.but (S:=Just b) ((But.refl _ wr).setCell (just b) z) (fun k e1 e2=>own_ne h.o1 hb he (by rw[e1,e2])),h.o2.but (S:=Just b) ((But.refl _ wr).setCell (just b) z) (fun k e1 e2=>own_ne h.o2 hb he (by rw[e1,e2])),h.n1,h.n2,h.ap⟩
theorem blk_reads {w:World} {k:Nat} {p q:Int} (h:Blk w k #[.int .i64 p,.int .i64 q] 3):Reads w (k+1) 1 (some ⟨k,0,none⟩) 2 [.int .i64 p,.int .i64 q] :=
 ⟨rfl,fun _=>⟨⟨k,0,none⟩,rfl,by simp,World.news_of_block (cs:=#[.int .i64 p,.int .i64 q]) (t:=3) (fr:=(0,0)) h⟩⟩
theorem step_two {ops:Array Oper} {o:Oper} {a:Act} {w:World} {K:Act→World→Prop} {Q:Exit→Act→World→Prop} {E:Prop} (hgd:o.guard=none) (s x:Operand)
  (ho:o.op=.call { callee:=.builtin .append,args:=#[s,x],argTypes:=#[39,39] }) (w0:World) (v u:Value) (zs ts:List Int) (hs:a.eval s=v) (k:Nat) (p q:Int) (hx:a.eval x=.slice (some ⟨k,0,none⟩) 2 2)
  (hT:Two w0 w v u zs ts) (hB:Blk w k #[.int .i64 p,.int .i64 q] 3) (hz:zs.length≤1000)
  (h:∀ A' c' w',Hid (Two w0 w' (.slice A' (zs.length+2) c') u (zs ++ [p,q]) ts)→Hid (But (fun k=>v.ownBlock=some k) w w')→K (a.put o.dst (.slice A' (zs.length+2) c')) w') :
  if Region.wanted o (yielded ops a.tmps)=true then Oper.wp Tryz.prog o a w K Q else E:=by
 obtain⟨i3,hi0,hz0,hz1,hz2⟩:=info_parts info3
 refine step_append_sh hgd s x 39 ho 3 i3 _ 1 8 Tryz.underlying39 hi0 hz0 hz1 hz2 rfl (by omega) v zs.length (zs.map (Value.int .i64)) hs hT.o1 (k+1) (some ⟨k,0,none⟩) 2 2 [.int .i64 p,.int .i64 q] hx (blk_reads hB) (two_cell p q) (by unfold maxLen;omega) (by omega) (fun A' c' w' h1 h2 h3=>h A' c' w' (hid (hT.app (ns:=[p,q]) rfl h1.out h2.out h3.out)) (hid ((But.refl _ w).grown h2.out (fun k e=>.inl e))))
set_option maxRecDepth 100000 in
set_option maxHeartbeats 8000000 in
theorem clo_shares (v u:Value) (zs ts:List Int) (x:Wk) (bc:Nat) (rl:Int) (w0 w:World) (h:Two w0 w v u zs ts) (hz:zs.length≤1000) (ht:ts.length≤1000) (hc:w0.cell? ⟨bc,2,none⟩=some (.int .i64 rl)) :
  Calls Tryz.prog 136 #[.agg #[v,u],wkV x,.pointer (some ⟨bc,0,none⟩)] w fun r w'=>∃ v' u',r=.returned (.agg #[v',u'])∧Two w0 w' v' u' (zs ++ [x.w,rl]) (ts ++ [x.p,x.p])∧But (OQ v u) w w':=by
 obtain⟨x0,x1,x2,x3⟩:=x
 have hbc0:bc<w0.heap.size:=World.block_lt_of_cell? w0 _ hc
 have hbw:=h.but
 have hsz:=hbw.size
 have hbc:bc<w.heap.size:=by omega
 have hbA:But No w (((w.alloc (.cells #[v,u] 190)).alloc (.cells #[.int .i64 x0,.int .i64 x1,.int .i64 x2,.bool x3] 129)).alloc (.cells #[.slice none 0 0,.slice none 0 0] 190)):=(((But.refl No w).alloc _).alloc _).alloc _
 have h3:Blk (((w.alloc (.cells #[v,u] 190)).alloc (.cells #[.int .i64 x0,.int .i64 x1,.int .i64 x2,.bool x3] 129)).alloc (.cells #[.slice none 0 0,.slice none 0 0] 190)) w.heap.size #[v,u] 190:=((Blk.new w _ _).alloc _).alloc _
 have h4:Blk (((w.alloc (.cells #[v,u] 190)).alloc (.cells #[.int .i64 x0,.int .i64 x1,.int .i64 x2,.bool x3] 129)).alloc (.cells #[.slice none 0 0,.slice none 0 0] 190)) (w.heap.size+1) #[.int .i64 x0,.int .i64 x1,.int .i64 x2,.bool x3] 129:=(blk2 w _ _ _).alloc _
 have h5:Blk (((w.alloc (.cells #[v,u] 190)).alloc (.cells #[.int .i64 x0,.int .i64 x1,.int .i64 x2,.bool x3] 129)).alloc (.cells #[.slice none 0 0,.slice none 0 0] 190)) (w.heap.size+1+1) #[.slice none 0 0,.slice none 0 0] 190:=by
  have:=blk2 (w.alloc (.cells #[v,u] 190)) (.cells #[.int .i64 x0,.int .i64 x1,.int .i64 x2,.bool x3] 129) #[.slice none 0 0,.slice none 0 0] 190
  rw[size_alloc1] at this;exact this
 have HS:Hid (SS w v u x0 x1 rl bc w.heap.size (((w.alloc (.cells #[v,u] 190)).alloc (.cells #[.int .i64 x0,.int .i64 x1,.int .i64 x2,.bool x3] 129)).alloc (.cells #[.slice none 0 0,.slice none 0 0] 190))):=hid ⟨h3.cell rfl,h3.cell rfl,h4.cell rfl,h4.cell rfl,cell_keep hc (hbw.trans hbA),hbA.no,_,_,h5⟩
 have HTA:Hid (Two w0 (((w.alloc (.cells #[v,u] 190)).alloc (.cells #[.int .i64 x0,.int .i64 x1,.int .i64 x2,.bool x3] 129)).alloc (.cells #[.slice none 0 0,.slice none 0 0] 190)) v u zs ts):=hid (h.no hbA)
 have HQ1:Hid (∀ k,v.ownBlock=some k→k≠bc∧k<w.heap.size∧OQ v u k):=hid (fun k e=>⟨by have:=h.n1 k e;omega,own_lt h.o1 e,Or.inl e⟩)
 have HQ2:Hid (∀ k,u.ownBlock=some k→k≠bc∧k<w.heap.size∧OQ v u k):=hid (fun k e=>⟨by have:=h.n2 k e;omega,own_lt h.o2 e,Or.inr e⟩)
 have HW:Hid (w0.heap.size≤w.heap.size):=hid hsz
 have HBC:=hid hbc
 have hsW:w.heap.size+3=(((w.alloc (.cells #[v,u] 190)).alloc (.cells #[.int .i64 x0,.int .i64 x1,.int .i64 x2,.bool x3] 129)).alloc (.cells #[.slice none 0 0,.slice none 0 0] 190)).heap.size:=by simp
 have HZ:=hid hz
 have HZT:=hid ht
 obtain⟨i3,hi0,hz0,hz1,hz2⟩:=info_parts info3
 have I3:Hid (Tryz.prog.info? 3=some i3∧i3.zero=some (.int .i64 0)∧i3.size=1∧i3.bytes=8):=⟨hi0,hz0,hz1,hz2⟩
 unfold wkV
 dsimp only
 clear h hz ht hc hbc0 hbw hsz hbc hbA h3 h4 h5 hi0 hz0 hz1 hz2
 go_enter Tryz.func136,Tryz.ntmps136
 go_upto_region 1 with fail
 generalize (((w.alloc (.cells #[v,u] 190)).alloc (.cells #[.int .i64 x0,.int .i64 x1,.int .i64 x2,.bool x3] 129)).alloc (.cells #[.slice none 0 0,.slice none 0 0] 190))=W0 at HS HTA hsW ⊢
 go_region_held3 (fun w'=>w'.cell? ⟨w.heap.size,0,none⟩=some v∧w'.cell? ⟨w.heap.size,1,none⟩=some u∧w'.cell? ⟨w.heap.size+1,0,none⟩=some (.int .i64 x0)∧w'.cell? ⟨w.heap.size+1,1,none⟩=some (.int .i64 x1)∧w'.cell? ⟨bc,2,none⟩=some (.int .i64 rl)∧But (OQ v u) w w'∧∃ y0 y1,Blk w' (w.heap.size+1+1) #[y0,y1] 190)
  (first | assumption | exact SS.but HS.out (But.refl No W0).drew (fun _ f=>False.elim f) | exact SS.set _ _ (by assumption) HBC.out (Nat.le_refl _) | exact SS.but (by assumption) HGF.out HQF.out | exact SS.but (by assumption) HG3.out HQ1.out | exact SS.but (by assumption) HG3.out HQ2.out | exact SS.but (by assumption) ((But.refl No _).alloc _) (fun _ f=>False.elim f))
  (first | (refine step_two rfl _ _ rfl w0 v u zs ts (by simp[Act.eval]) W0.drew.heap.size x0 rl (by simp[Act.eval]) (HTA.out.no (((But.refl No W0).drew).alloc _)) (Blk.new W0.drew _ _) HZ.out ?_;intro A3 c3 w3 HT3 HG3) | (refine step_two rfl _ _ rfl w0 v u zs ts (by simp[Act.eval]) W0.drew.heap.size x0 rl (by simp[Act.eval]) (HTA.out.no ((((But.refl No W0).drew).alloc _).alloc _)) ((Blk.new W0.drew _ _).alloc _) HZ.out ?_;intro A3 c3 w3 HT3 HG3) | (refine step_two rfl _ _ rfl w0 v u zs ts (by simp[Act.eval]) (W0.drew.alloc (.cells #[.int .i64 x1,.int .i64 x1] 3)).heap.size x0 rl (by simp[Act.eval]) (HTA.out.no ((((But.refl No W0).drew).alloc _).alloc _)) (Blk.new (W0.drew.alloc (.cells #[.int .i64 x1,.int .i64 x1] 3)) _ _) HZ.out ?_;intro A3 c3 w3 HT3 HG3) | (refine step_two rfl _ _ rfl w0 u (.slice A3 (zs.length+2) c3) ts (zs ++ [x0,rl]) (by simp[Act.eval]) w3.heap.size x1 x1 (by simp[Act.eval]) (HT3.out.no ((But.refl No w3).alloc _)).swap (Blk.new w3 _ _) HZT.out ?_;intro A5 c5 wF HTF0 HGF;have HTF:=hid HTF0.out.swap;have HQF:=hid HQ2.out;obtain⟨y0,y1,kB⟩:=(SS.but (by assumption) HGF.out HQF.out).2.2.2.2.2.2;have z0:=kB.frozen 0;have z1:=kB.frozen 1;have v0:=kB.cell (o:=0) rfl;have v1:=kB.cell (o:=1) rfl) | (refine step_two rfl _ _ rfl w0 u (.slice A3 (zs.length+2) c3) ts (zs ++ [x0,rl]) (by simp[Act.eval]) (W0.drew.alloc (.cells #[.int .i64 x0,.int .i64 rl] 3)).heap.size x1 x1 (by simp[Act.eval]) (HT3.out).swap ((Blk.new (W0.drew.alloc (.cells #[.int .i64 x0,.int .i64 rl] 3)) _ _).but HG3.out (fun e=>by have:=(HQ1.out _ e).2.1;simp at this;omega)) HZT.out ?_;intro A5 c5 wF HTF0 HGF;have HTF:=hid HTF0.out.swap;have HQF:=hid HQ2.out;obtain⟨y0,y1,kB⟩:=(SS.but (by assumption) HGF.out HQF.out).2.2.2.2.2.2;have z0:=kB.frozen 0;have z1:=kB.frozen 1;have v0:=kB.cell (o:=0) rfl;have v1:=kB.cell (o:=1) rfl) | (refine step_two rfl _ _ rfl w0 u (.slice A3 (zs.length+2) c3) ts (zs ++ [x0,rl]) (by simp[Act.eval]) W0.drew.heap.size x1 x1 (by simp[Act.eval]) (HT3.out).swap (((Blk.new W0.drew _ _).alloc _).but HG3.out (fun e=>by have:=(HQ1.out _ e).2.1;simp at this;omega)) HZT.out ?_;intro A5 c5 wF HTF0 HGF;have HTF:=hid HTF0.out.swap;have HQF:=hid HQ2.out;obtain⟨y0,y1,kB⟩:=(SS.but (by assumption) HGF.out HQF.out).2.2.2.2.2.2;have z0:=kB.frozen 0;have z1:=kB.frozen 1;have v0:=kB.cell (o:=0) rfl;have v1:=kB.cell (o:=1) rfl))
 all_goals
  rename_i hHeld
  have KF:=(kB.set 0 (.slice A3 (zs.length+2) c3)).set 1 (.slice A5 (ts.length+2) c5)
  have f0:=KF.cell (o:=0) rfl
  have f1:=KF.cell (o:=1) rfl
  clear KF
  have HW0:Hid (w0.heap.size≤w.heap.size+1+1):=hid (by have h1:=HTA.out.but.size;have h2:=HW.out;omega)
  go_wp2
  exact bodyPost_ret (v:=.agg #[.slice A3 (zs.length+2) c3,.slice A5 (ts.length+2) c5]) (by simp[results,Tryz.results136,go_sem,f0,f1]) rfl ⟨_,_,rfl,(HTF.out.set kB (by decide) HW0.out 0 _).set (kB.set 0 _) (by decide) HW0.out 1 _,hHeld.2.2.2.2.2.1⟩
end Go.Proofs.YtjfaiaipojfhgaaGreat.dem
end
