/- Part 33 of a proof: DeC4 DeC5. -/
import Derived.Test.YtlecikdjoekknaaGreatM32
set_option maxRecDepth 100000
set_option maxHeartbeats 16000000
set_option linter.unusedVariables false
set_option linter.unusedSimpArgs false
section
namespace Go.Proofs.YtlecikdjoekknaaGreat.dem
open Go.Lib (hid)
open Go.ChangeShapes Go.WideShapes Go.ChangeAt Go.RowKit Go.Deep
theorem plP_ok {s e a k m:Int} (hs:0<=s/\s<=9223372036854775807) (he:e=0\/e=2) (ha:0<=a) (hk:0<=k) (hm:0<=m):(0<=(plP s e a k m).1/\(plP s e a k m).1<=9223372036854775807)/\((plP s e a k m).2=0\/(plP s e a k m).2=2):=by
 have hf:0<=(k+m)*a:=Int.mul_nonneg (by omega) ha
 unfold plP
 split
 ·exact⟨hs,he⟩
 ·split
  ·exact⟨⟨Int.le_refl 0,by omega⟩,Or.inr rfl⟩
  ·rename_i h;exact⟨by omega,Or.inl rfl⟩
theorem adC_ok {n:Int} {x:Wk} {s e:Int} (hs:0<=s/\s<=9223372036854775807) (he:e=0\/e=2) (hx:okW x=true) (hn:1<=n):(0<=(adC n x s e).1/\(adC n x s e).1<=9223372036854775807)/\((adC n x s e).2=0\/(adC n x s e).2=2):=by
 obtain⟨⟨w0,w9⟩,⟨p0,p9⟩,d0,d9⟩:=okW_iff.1 hx
 have hu:=up_bd hn p0
 exact plP_ok hs he w0 (by omega) (by omega)
theorem adD_ok {n:Int} {x:Wk} {s e:Int} (hs:0<=s/\s<=9223372036854775807) (he:e=0\/e=2) (hx:okW x=true) (hn:1<=n):(0<=(adD n x s e).1/\(adD n x s e).1<=9223372036854775807)/\((adD n x s e).2=0\/(adD n x s e).2=2):=by
 obtain⟨⟨w0,w9⟩,⟨p0,p9⟩,d0,d9⟩:=okW_iff.1 hx
 have hu:=up_bd hn p0
 unfold adD
 split
 ·exact plP_ok hs he w0 (by omega) (by omega)
 ·split
  ·rename_i hd;exact plP_ok hs he w0 (div_up d0 hd p0).1 (by omega)
  ·exact⟨hs,he⟩
theorem ov_succ {bl:Int} {f:Wk->Int} {t:Int} {l:List Wk} {i:Nat} {x:Wk} (hx:l[i]? = some x) (hov:ov bl f t l i=false):ov bl f t l (i+1)=true ↔ 9223372036854775807<sN bl f l i+f x\/9223372036854775807<up t x.p+2:=by
 constructor
 ·intro e
  rcases ov_iff.1 e with e | ⟨j,y,hj,hy,e⟩
  ·rw[sN_succ hx] at e;exact .inl e
  ·by_cases ej:j=i
   ·subst ej;rw[hx] at hy;cases hy;exact .inr e
   ·have:=(ov_not hov).2 j y (by omega) hy;omega
 ·rintro(h | h)
  ·exact ov_iff.2 (.inl (by rw[sN_succ hx];exact h))
  ·exact ov_iff.2 (.inr ⟨i,x,by omega,hx,h⟩)
def tot (bl:Int) (f:Wk->Int) (t:Int) (l:List Wk) (i:Nat):Int × Int:=if ov bl f t l i=true then (0,2) else (sN bl f l i,0)
theorem tot_step {bl rl t:Int} {f g:Wk->Int} {l:List Wk} {i:Nat} {x:Wk} {ad:Int->Int->Int × Int} (hx:l[i]? = some x) (hf:∀ y ∈ l,0<=f y) (hfg:f x=g x+(up t x.p+2)*rl) (_:0<=g x) (hr:0<=(up t x.p+2)*rl)
  (had0:ad 0 2=(0,2)) (had:∀ s,0<=s->s<=9223372036854775807->ad s 0=(s+g x,0)/\s+g x<=9223372036854775807\/ad s 0=(0,2)/\(9223372036854775807<s+g x\/9223372036854775807<up t x.p+2)) (hb:0<=bl) :
  plP (ad (tot bl f t l i).1 (tot bl f t l i).2).1 (ad (tot bl f t l i).1 (tot bl f t l i).2).2 rl (up t x.p) 2=tot bl f t l (i+1):=by
 have hil:i<l.length:=(List.getElem?_eq_some_iff.1 hx).1
 cases ho:ov bl f t l i with
 | true =>
  have h1:tot bl f t l i=(0,2):=by unfold tot;rw[if_pos ho]
  have h2:tot bl f t l (i+1)=(0,2):=by unfold tot;rw[if_pos (ov_mono hf (Nat.le_succ i) (by omega) ho)]
  rw[h1,h2,had0]
  unfold plP;rw[if_pos (by simp)]
 | false =>
  have h1:tot bl f t l i=(sN bl f l i,0):=by unfold tot;rw[if_neg (by rw[ho];simp)]
  have hS:=sN_pos (bl:=bl) hb hf (Nat.le_of_lt hil)
  have hsu:=ov_succ hx ho
  rw[hfg] at hsu
  rw[h1]
  dsimp only
  rcases had _ hS (ov_not ho).1 with⟨e,hle⟩ | ⟨e,hgt⟩
  ·rw[e]
   dsimp only
   unfold plP
   rw[if_neg (by simp)]
   by_cases h3:9223372036854775807<up t x.p+2\/9223372036854775807<sN bl f l i+g x+(up t x.p+2)*rl
   ·rw[if_pos h3]
    unfold tot;rw[if_pos (hsu.2 (by omega))]
   ·rw[if_neg h3]
    have h4:¬ov bl f t l (i+1)=true:=λ h=>by have:=hsu.1 h;omega
    unfold tot;rw[if_neg h4,sN_succ hx,hfg]
    rw[Int.add_assoc]
  ·rw[e]
   dsimp only
   unfold plP
   rw[if_pos (by simp)]
   unfold tot;rw[if_pos (hsu.2 (by omega))]
theorem plP_had {g a k:Int} (_:0<=k) (u:Int) (hku:k<=u) (hg:g=(k+1)*a):∀ s,0<=s->s<=9223372036854775807->plP s 0 a k 1=(s+g,0)/\s+g<=9223372036854775807\/plP s 0 a k 1=(0,2)/\(9223372036854775807<s+g\/9223372036854775807<u+2):=λ s _ _=>by
 unfold plP
 rw[if_neg (by simp),<-hg]
 by_cases h:9223372036854775807<k+1\/9223372036854775807<s+g
 ·rw[if_pos h];exact .inr ⟨rfl,by omega⟩
 ·rw[if_neg h];exact .inl ⟨rfl,by omega⟩
theorem com_step {l:List Wk} {bl rl n:Int} {i:Nat} {x:Wk} (h:right l bl rl=true) (hn:1<=n) (hx:l[i]? = some x) :
  plP (adC n x (tot bl (cmt rl n) n l i).1 (tot bl (cmt rl n) n l i).2).1 (adC n x (tot bl (cmt rl n) n l i).1 (tot bl (cmt rl n) n l i).2).2 rl (up n x.p) 2=tot bl (cmt rl n) n l (i+1):=by
 obtain⟨_,⟨hb0,_⟩,⟨hr0,_⟩,hok⟩:=right_iff.1 h
 have hxo:=hok x (List.mem_of_getElem? hx)
 obtain⟨⟨w0,w9⟩,⟨p0,p9⟩,d0,d9⟩:=okW_iff.1 hxo
 have hu:=up_bd hn p0
 have hf:∀ y ∈ l,0<=cmt rl n y:=λ y hy=>by have:=trm_bd (rl:=rl) hn hr0 (hok y hy);omega
 exact tot_step (g:=λ y=>(up n y.p+1)*y.w) hx hf rfl (Int.mul_nonneg (by omega) w0) (Int.mul_nonneg (by omega) hr0) (by unfold adC plP;rw[if_pos (by simp)]) (plP_had (by omega) _ (Int.le_refl _) rfl) hb0
theorem dem_step {l:List Wk} {bl rl n:Int} {i:Nat} {x:Wk} (h:right l bl rl=true) (hn:1<=n) (hx:l[i]? = some x) :
  plP (adD n x (tot bl (trm rl n) n l i).1 (tot bl (trm rl n) n l i).2).1 (adD n x (tot bl (trm rl n) n l i).1 (tot bl (trm rl n) n l i).2).2 rl (up n x.p) 2=tot bl (trm rl n) n l (i+1):=by
 obtain⟨_,⟨hb0,_⟩,⟨hr0,_⟩,hok⟩:=right_iff.1 h
 have hxo:=hok x (List.mem_of_getElem? hx)
 obtain⟨⟨w0,w9⟩,⟨p0,p9⟩,d0,d9⟩:=okW_iff.1 hxo
 have hu:=up_bd hn p0
 have hf:∀ y ∈ l,0<=trm rl n y:=λ y hy=>(trm_bd hn hr0 (hok y hy)).1
 have hg:=fst_bd hn hxo
 refine tot_step (g:=fst n) hx hf rfl hg.1 (Int.mul_nonneg (by omega) hr0) ?_ ?_ hb0
 ·unfold adD plP
  split
  ·rw[if_pos (by simp)]
  ·split
   ·rw[if_pos (by simp)]
   ·rfl
 ·by_cases ht:x.top=true
  ·have e:∀ s e,adD n x s e=plP s e x.w (up n x.p) 1:=λ s e=>by unfold adD;rw[if_pos ht]
   intro s hs hs9
   rw[e]
   exact plP_had (by omega) _ (Int.le_refl _) (by unfold fst;rw[if_pos ht]) s hs hs9
  ·by_cases hd:x.d<=n
   ·have e:∀ s e,adD n x s e=plP s e x.w ((n-x.d)/x.p) 1:=λ s e=>by unfold adD;rw[if_neg ht,if_pos hd]
    intro s hs hs9
    rw[e]
    have:=div_up d0 hd p0
    exact plP_had this.1 _ this.2 (by unfold fst;rw[if_neg ht,if_pos hd]) s hs hs9
   ·have e:∀ s e,adD n x s e=(s,e):=λ s e=>by unfold adD;rw[if_neg ht,if_neg hd]
    intro s hs hs9
    rw[e,show fst n x=0 by unfold fst;rw[if_neg ht,if_neg hd]]
    exact .inl ⟨by rw[Int.add_zero],by omega⟩
theorem clo_comA (s e:Int) (x:Wk) (bn:Nat) (n:Int) (w:World) (hs:0<=s/\s<=9223372036854775807) (he:e=0\/e=2) (hx:okW x=true) (hn:1<=n/\n<=9223372036854775807) (hc:w.cell? ⟨bn,0,none⟩=some (.int .i64 n)) :
  Calls Tryz.prog 177 #[.agg #[.int .i64 s,.int .i64 e],wkV x,.pointer (some ⟨bn,0,none⟩)] w λ r w'=>r=.returned (.agg #[.int .i64 (adC n x s e).1,.int .i64 (adC n x s e).2])/\But No w w':=clo_com s e x bn n w hs he hx hn hc
def SX (g:Value) (ba bc:Nat) (rl:Int) (w:World) (b3:Nat) (s e x0 x1 x2:Int) (x3:Bool) (bn:Nat) (n:Int) (w':World):Prop :=
 w'.cell? ⟨ba,0,none⟩=some g/\w'.cell? ⟨bc,2,none⟩=some (.int .i64 rl)/\SB w b3 s e x0 x1 x2 x3 bn n w'
theorem SX.but {g:Value} {ba bc:Nat} {rl:Int} {w w1 w2:World} {b3 bn:Nat} {s e x0 x1 x2 n:Int} {x3:Bool} (h:SX g ba bc rl w b3 s e x0 x1 x2 x3 bn n w1) (hb:But No w1 w2):SX g ba bc rl w b3 s e x0 x1 x2 x3 bn n w2:=⟨cell_keep h.1 hb,cell_keep h.2.1 hb,h.2.2.but hb⟩
theorem SX.set {g:Value} {ba bc:Nat} {rl:Int} {w w1:World} {bn:Nat} {s e x0 x1 x2 n:Int} {x3:Bool} (v u:Value) (h:SX g ba bc rl w w.heap.size s e x0 x1 x2 x3 bn n w1) (hn:bn<w.heap.size) (ha:ba<w.heap.size) (hc:bc<w.heap.size):SX g ba bc rl w w.heap.size s e x0 x1 x2 x3 bn n ((w1.setCell ⟨w.heap.size+1+1,0,none⟩ v).setCell ⟨w.heap.size+1+1,1,none⟩ u):=by
 have k:∀ (b o:Nat) (z:Value),b≠w.heap.size+1+1->w1.cell? ⟨b,o,none⟩=some z->((w1.setCell ⟨w.heap.size+1+1,0,none⟩ v).setCell ⟨w.heap.size+1+1,1,none⟩ u).cell? ⟨b,o,none⟩=some z:=λ b o z hb h=>by
  rw[World.cell?_setCell_other _ _ _ _ (by intro h9;simp only[Addr.mk.injEq] at h9;omega),World.cell?_setCell_other _ _ _ _ (by intro h9;simp only[Addr.mk.injEq] at h9;omega)];exact h
 exact⟨k _ _ _ (by omega) h.1,k _ _ _ (by omega) h.2.1,h.2.2.set v u hn⟩
theorem clo_sumcom (s e:Int) (x:Wk) (ba bc bn bt:Nat) (n rl:Int) (w:World) (hs:0<=s/\s<=9223372036854775807) (he:e=0\/e=2) (hx:okW x=true) (hn:1<=n/\n<=9223372036854775807) (hrl:0<=rl/\rl<=9223372036854775807)
  (hca:w.cell? ⟨ba,0,none⟩=some (.func (.func 177) #[] #[.pointer (some ⟨bt,0,none⟩)])) (hcc:w.cell? ⟨bc,2,none⟩=some (.int .i64 rl)) (hcn:w.cell? ⟨bn,0,none⟩=some (.int .i64 n)) (hct:w.cell? ⟨bt,0,none⟩=some (.int .i64 n)) :
  Calls Tryz.prog 188 #[.agg #[.int .i64 s,.int .i64 e],wkV x,.pointer (some ⟨ba,0,none⟩),.pointer (some ⟨bc,0,none⟩),.pointer (some ⟨bn,0,none⟩)] w λ r w'=>r=.returned (.agg #[.int .i64 (plP (adC n x s e).1 (adC n x s e).2 rl (up n x.p) 2).1,.int .i64 (plP (adC n x s e).1 (adC n x s e).2 rl (up n x.p) 2).2])/\But No w w':=by
 have CG:=λ (W:World) (hb:But No w W)=>clo_comA s e x bt n W hs he hx hn (cell_keep hct hb)
 have hAD:=adC_ok hs he hx hn.1
 obtain⟨x0,x1,x2,x3⟩:=x
 obtain⟨⟨w0,w9⟩,⟨p0,p9⟩,d0,d9⟩:=okW_iff.1 hx
 dsimp only at w0 w9 p0 p9 d0 d9 ⊢
 have hu:=up_bd hn.1 p0
 have CU:Hid (∀ W,Calls Tryz.prog 179 #[.int .i64 n,.int .i64 x1] W λ e w'=>e=.returned (.int .i64 (up n x1))/\w'=W):=hid (λ W=>arr_any n x1 hn.1 hn.2 p0 (by omega) W)
 unfold wkV at CG ⊢
 dsimp only at CG ⊢
 generalize adC n ⟨x0,x1,x2,x3⟩ s e=AD at CG hAD ⊢
 obtain⟨a1,a2⟩:=AD
 dsimp only at CG hAD ⊢
 have CP:Hid (∀ W,Calls Tryz.prog 178 #[.agg #[.int .i64 a1,.int .i64 a2],.int .i64 rl,.int .i64 (up n x1),.int .i64 2] W λ r w'=>r=.returned (.agg #[.int .i64 (plP a1 a2 rl (up n x1) 2).1,.int .i64 (plP a1 a2 rl (up n x1) 2).2])/\But No W w'):=hid (λ W=>plus_any a1 a2 rl (up n x1) 2 hAD.1 hAD.2 hrl (by omega) (by omega) W)
 have hbn:=World.block_lt_of_cell? w _ hcn
 have hba:=World.block_lt_of_cell? w _ hca
 have hbc:=World.block_lt_of_cell? w _ hcc
 have HBN:Hid (bn<w.heap.size):=hid hbn
 have HBA:Hid (ba<w.heap.size):=hid hba
 have HBC:Hid (bc<w.heap.size):=hid hbc
 have HS0:=SB.start w s e x0 x1 x2 x3 bn n hcn
 have HS:Hid (SX (.func (.func 177) #[] #[.pointer (some ⟨bt,0,none⟩)]) ba bc rl w w.heap.size s e x0 x1 x2 x3 bn n (((w.alloc (.cells #[.int .i64 s,.int .i64 e] 232)).alloc (.cells #[.int .i64 x0,.int .i64 x1,.int .i64 x2,.bool x3] 161)).alloc (.cells #[.int .i64 0,.int .i64 0] 232))):=hid ⟨cell_keep hca HS0.2.2.2.2.2.2.2.2,cell_keep hcc HS0.2.2.2.2.2.2.2.2,HS0⟩
 have HCG:Hid (∀ W,W.cell? ⟨ba,0,none⟩=some (.func (.func 177) #[] #[.pointer (some ⟨bt,0,none⟩)])/\W.cell? ⟨bc,2,none⟩=some (.int .i64 rl)/\W.cell? ⟨w.heap.size,0,none⟩=some (.int .i64 s)/\W.cell? ⟨w.heap.size,1,none⟩=some (.int .i64 e)/\W.cell? ⟨w.heap.size+1,0,none⟩=some (.int .i64 x0)/\W.cell? ⟨w.heap.size+1,1,none⟩=some (.int .i64 x1)/\W.cell? ⟨w.heap.size+1,2,none⟩=some (.int .i64 x2)/\W.cell? ⟨w.heap.size+1,3,none⟩=some (.bool x3)/\W.cell? ⟨bn,0,none⟩=some (.int .i64 n)/\(∃ y0 y1,Blk W (w.heap.size+1+1) #[y0,y1] 232)/\But No w W->Calls Tryz.prog 177 #[.agg #[.int .i64 s,.int .i64 e],.agg #[.int .i64 x0,.int .i64 x1,.int .i64 x2,.bool x3],.pointer (some ⟨bt,0,none⟩)] W λ r w'=>r=.returned (.agg #[.int .i64 a1,.int .i64 a2])/\But No W w'):=hid (λ W h=>CG W h.2.2.2.2.2.2.2.2.2.2)
 clear hs he hx w0 w9 p0 p9 d0 d9 hn hu hrl hAD CG HS0 hca hcc hcn hct hbn hba hbc
 generalize up n x1=u at CU CP ⊢
 generalize plP a1 a2 rl u 2=R at CP ⊢
 obtain⟨R1,R2⟩:=R
 dsimp only at CP ⊢
 have KB:Hid (∀ w1 w2,SX (.func (.func 177) #[] #[.pointer (some ⟨bt,0,none⟩)]) ba bc rl w w.heap.size s e x0 x1 x2 x3 bn n w1->But No w1 w2->∃ y0 y1,Blk w2 (w.heap.size+1+1) #[y0,y1] 232):=hid (λ w1 w2 h hb=>(h.but hb).2.2.2.2.2.2.2.2.2.1)
 go_enter Tryz.func188,Tryz.ntmps188
 go_upto_region 1 with fail
 generalize ((w.alloc (.cells #[.int .i64 s,.int .i64 e] 232)).alloc (.cells #[.int .i64 x0,.int .i64 x1,.int .i64 x2,.bool x3] 161)).alloc (.cells #[.int .i64 0,.int .i64 0] 232)=W0 at HS ⊢
 go_region_held3 (λ w'=>w'.cell? ⟨ba,0,none⟩=some (.func (.func 177) #[] #[.pointer (some ⟨bt,0,none⟩)])/\w'.cell? ⟨bc,2,none⟩=some (.int .i64 rl)/\w'.cell? ⟨w.heap.size,0,none⟩=some (.int .i64 s)/\w'.cell? ⟨w.heap.size,1,none⟩=some (.int .i64 e)/\w'.cell? ⟨w.heap.size+1,0,none⟩=some (.int .i64 x0)/\w'.cell? ⟨w.heap.size+1,1,none⟩=some (.int .i64 x1)/\w'.cell? ⟨w.heap.size+1,2,none⟩=some (.int .i64 x2)/\w'.cell? ⟨w.heap.size+1,3,none⟩=some (.bool x3)/\w'.cell? ⟨bn,0,none⟩=some (.int .i64 n)/\(∃ y0 y1,Blk w' (w.heap.size+1+1) #[y0,y1] 232)/\But No w w')
  (first | assumption | exact SX.but HS.out (But.refl No _).drew | exact SX.set _ _ (by assumption) HBN.out HBA.out HBC.out | exact SX.but (by assumption) (by assumption))
  (first | (go_at_call 177;((with_reducible refine(HCG.out _ (by assumption)).mono ?_);rintro e wG ⟨rfl,hbG⟩)) | (go_at_call 179;((with_reducible refine(CU.out _).mono ?_);rintro e wC ⟨rfl,rfl⟩)) | (go_at_call 178;((with_reducible refine(CP.out _).mono ?_);rintro e wP ⟨rfl,hbP⟩;obtain⟨y0,y1,kB⟩:=KB.out _ _ (by assumption) hbP;have z0:=kB.frozen 0;have z1:=kB.frozen 1;have v0:=kB.cell (o:=0) rfl;have v1:=kB.cell (o:=1) rfl)))
 rename_i hHeld
 have KF:=(kB.set 0 (.int .i64 R1)).set 1 (.int .i64 R2)
 have f0:=KF.cell (o:=0) rfl
 have f1:=KF.cell (o:=1) rfl
 go_wp2
 exact bodyPost_ret (v:=.agg #[.int .i64 R1,.int .i64 R2]) (by simp[results,Tryz.results188,go_sem,f0,f1]) rfl ⟨rfl,hHeld.2.2.2.2.2.2.2.2.2.2⟩
theorem clo_sumdem (s e:Int) (x:Wk) (ba bc bn bt:Nat) (n rl:Int) (w:World) (hs:0<=s/\s<=9223372036854775807) (he:e=0\/e=2) (hx:okW x=true) (hn:1<=n/\n<=9223372036854775807) (hrl:0<=rl/\rl<=9223372036854775807)
  (hca:w.cell? ⟨ba,0,none⟩=some (.func (.func 180) #[] #[.pointer (some ⟨bt,0,none⟩)])) (hcc:w.cell? ⟨bc,2,none⟩=some (.int .i64 rl)) (hcn:w.cell? ⟨bn,0,none⟩=some (.int .i64 n)) (hct:w.cell? ⟨bt,0,none⟩=some (.int .i64 n)) :
  Calls Tryz.prog 188 #[.agg #[.int .i64 s,.int .i64 e],wkV x,.pointer (some ⟨ba,0,none⟩),.pointer (some ⟨bc,0,none⟩),.pointer (some ⟨bn,0,none⟩)] w λ r w'=>r=.returned (.agg #[.int .i64 (plP (adD n x s e).1 (adD n x s e).2 rl (up n x.p) 2).1,.int .i64 (plP (adD n x s e).1 (adD n x s e).2 rl (up n x.p) 2).2])/\But No w w':=by
 have CG:=λ (W:World) (hb:But No w W)=>clo_dem s e x bt n W hs he hx hn (cell_keep hct hb)
 have hAD:=adD_ok hs he hx hn.1
 obtain⟨x0,x1,x2,x3⟩:=x
 obtain⟨⟨w0,w9⟩,⟨p0,p9⟩,d0,d9⟩:=okW_iff.1 hx
 dsimp only at w0 w9 p0 p9 d0 d9 ⊢
 have hu:=up_bd hn.1 p0
 have CU:Hid (∀ W,Calls Tryz.prog 179 #[.int .i64 n,.int .i64 x1] W λ e w'=>e=.returned (.int .i64 (up n x1))/\w'=W):=hid (λ W=>arr_any n x1 hn.1 hn.2 p0 (by omega) W)
 unfold wkV at CG ⊢
 dsimp only at CG ⊢
 generalize adD n ⟨x0,x1,x2,x3⟩ s e=AD at CG hAD ⊢
 obtain⟨a1,a2⟩:=AD
 dsimp only at CG hAD ⊢
 have CP:Hid (∀ W,Calls Tryz.prog 178 #[.agg #[.int .i64 a1,.int .i64 a2],.int .i64 rl,.int .i64 (up n x1),.int .i64 2] W λ r w'=>r=.returned (.agg #[.int .i64 (plP a1 a2 rl (up n x1) 2).1,.int .i64 (plP a1 a2 rl (up n x1) 2).2])/\But No W w'):=hid (λ W=>plus_any a1 a2 rl (up n x1) 2 hAD.1 hAD.2 hrl (by omega) (by omega) W)
 have hbn:=World.block_lt_of_cell? w _ hcn
 have hba:=World.block_lt_of_cell? w _ hca
 have hbc:=World.block_lt_of_cell? w _ hcc
 have HBN:Hid (bn<w.heap.size):=hid hbn
 have HBA:Hid (ba<w.heap.size):=hid hba
 have HBC:Hid (bc<w.heap.size):=hid hbc
 have HS0:=SB.start w s e x0 x1 x2 x3 bn n hcn
 have HS:Hid (SX (.func (.func 180) #[] #[.pointer (some ⟨bt,0,none⟩)]) ba bc rl w w.heap.size s e x0 x1 x2 x3 bn n (((w.alloc (.cells #[.int .i64 s,.int .i64 e] 232)).alloc (.cells #[.int .i64 x0,.int .i64 x1,.int .i64 x2,.bool x3] 161)).alloc (.cells #[.int .i64 0,.int .i64 0] 232))):=hid ⟨cell_keep hca HS0.2.2.2.2.2.2.2.2,cell_keep hcc HS0.2.2.2.2.2.2.2.2,HS0⟩
 have HCG:Hid (∀ W,W.cell? ⟨ba,0,none⟩=some (.func (.func 180) #[] #[.pointer (some ⟨bt,0,none⟩)])/\W.cell? ⟨bc,2,none⟩=some (.int .i64 rl)/\W.cell? ⟨w.heap.size,0,none⟩=some (.int .i64 s)/\W.cell? ⟨w.heap.size,1,none⟩=some (.int .i64 e)/\W.cell? ⟨w.heap.size+1,0,none⟩=some (.int .i64 x0)/\W.cell? ⟨w.heap.size+1,1,none⟩=some (.int .i64 x1)/\W.cell? ⟨w.heap.size+1,2,none⟩=some (.int .i64 x2)/\W.cell? ⟨w.heap.size+1,3,none⟩=some (.bool x3)/\W.cell? ⟨bn,0,none⟩=some (.int .i64 n)/\(∃ y0 y1,Blk W (w.heap.size+1+1) #[y0,y1] 232)/\But No w W->Calls Tryz.prog 180 #[.agg #[.int .i64 s,.int .i64 e],.agg #[.int .i64 x0,.int .i64 x1,.int .i64 x2,.bool x3],.pointer (some ⟨bt,0,none⟩)] W λ r w'=>r=.returned (.agg #[.int .i64 a1,.int .i64 a2])/\But No W w'):=hid (λ W h=>CG W h.2.2.2.2.2.2.2.2.2.2)
 clear hs he hx w0 w9 p0 p9 d0 d9 hn hu hrl hAD CG HS0 hca hcc hcn hct hbn hba hbc
 generalize up n x1=u at CU CP ⊢
 generalize plP a1 a2 rl u 2=R at CP ⊢
 obtain⟨R1,R2⟩:=R
 dsimp only at CP ⊢
 have KB:Hid (∀ w1 w2,SX (.func (.func 180) #[] #[.pointer (some ⟨bt,0,none⟩)]) ba bc rl w w.heap.size s e x0 x1 x2 x3 bn n w1->But No w1 w2->∃ y0 y1,Blk w2 (w.heap.size+1+1) #[y0,y1] 232):=hid (λ w1 w2 h hb=>(h.but hb).2.2.2.2.2.2.2.2.2.1)
 go_enter Tryz.func188,Tryz.ntmps188
 go_upto_region 1 with fail
 generalize ((w.alloc (.cells #[.int .i64 s,.int .i64 e] 232)).alloc (.cells #[.int .i64 x0,.int .i64 x1,.int .i64 x2,.bool x3] 161)).alloc (.cells #[.int .i64 0,.int .i64 0] 232)=W0 at HS ⊢
 go_region_held3 (λ w'=>w'.cell? ⟨ba,0,none⟩=some (.func (.func 180) #[] #[.pointer (some ⟨bt,0,none⟩)])/\w'.cell? ⟨bc,2,none⟩=some (.int .i64 rl)/\w'.cell? ⟨w.heap.size,0,none⟩=some (.int .i64 s)/\w'.cell? ⟨w.heap.size,1,none⟩=some (.int .i64 e)/\w'.cell? ⟨w.heap.size+1,0,none⟩=some (.int .i64 x0)/\w'.cell? ⟨w.heap.size+1,1,none⟩=some (.int .i64 x1)/\w'.cell? ⟨w.heap.size+1,2,none⟩=some (.int .i64 x2)/\w'.cell? ⟨w.heap.size+1,3,none⟩=some (.bool x3)/\w'.cell? ⟨bn,0,none⟩=some (.int .i64 n)/\(∃ y0 y1,Blk w' (w.heap.size+1+1) #[y0,y1] 232)/\But No w w')
  (first | assumption | exact SX.but HS.out (But.refl No _).drew | exact SX.set _ _ (by assumption) HBN.out HBA.out HBC.out | exact SX.but (by assumption) (by assumption))
  (first | (go_at_call 180;((with_reducible refine(HCG.out _ (by assumption)).mono ?_);rintro e wG ⟨rfl,hbG⟩)) | (go_at_call 179;((with_reducible refine(CU.out _).mono ?_);rintro e wC ⟨rfl,rfl⟩)) | (go_at_call 178;((with_reducible refine(CP.out _).mono ?_);rintro e wP ⟨rfl,hbP⟩;obtain⟨y0,y1,kB⟩:=KB.out _ _ (by assumption) hbP;have z0:=kB.frozen 0;have z1:=kB.frozen 1;have v0:=kB.cell (o:=0) rfl;have v1:=kB.cell (o:=1) rfl)))
 rename_i hHeld
 have KF:=(kB.set 0 (.int .i64 R1)).set 1 (.int .i64 R2)
 have f0:=KF.cell (o:=0) rfl
 have f1:=KF.cell (o:=1) rfl
 go_wp2
 exact bodyPost_ret (v:=.agg #[.int .i64 R1,.int .i64 R2]) (by simp[results,Tryz.results188,go_sem,f0,f1]) rfl ⟨rfl,hHeld.2.2.2.2.2.2.2.2.2.2⟩
structure FT (w wr:World) (R:Int × Int):Prop where
 box:Blk wr w.heap.size #[.int .i64 R.1,.int .i64 R.2] 232
 res:Blk wr (w.heap.size+1) #[.int .i64 0,.int .i64 0] 232
 but:But No w wr
theorem FT.start (w:World) (R:Int × Int):FT w ((w.alloc (.cells #[.int .i64 R.1,.int .i64 R.2] 232)).alloc (.cells #[.int .i64 0,.int .i64 0] 232)) R:=⟨(Blk.new w _ _).alloc _,blk2 w _ _ _,((But.refl No w).alloc _).alloc _⟩
theorem FT.no {w wr w2:World} {R:Int × Int} (h:FT w wr R) (hb:But No wr w2):FT w w2 R:=⟨h.box.but hb (λ f=>f),h.res.but hb (λ f=>f),h.but.trans hb⟩
theorem FT.set {w wr:World} {R:Int × Int} (h:FT w wr R) (a b:Int):FT w ((wr.setCell ⟨w.heap.size,0,none⟩ (.int .i64 a)).setCell ⟨w.heap.size,1,none⟩ (.int .i64 b)) (a,b) :=
 ⟨(h.box.set 0 _).set 1 _,(h.res.other (a:=⟨w.heap.size,0,none⟩) (Nat.succ_ne_self _) _).other (a:=⟨w.heap.size,1,none⟩) (Nat.succ_ne_self _) _,(h.but.setNew (Nat.le_refl _) _).setNew (Nat.le_refl _) _⟩
theorem foldT_any (A:Option Addr) (n c:Nat) (l:List Wk) (T:Nat->Int × Int) (q1 q2 q3:Value) (w:World) (h:RWk w A n l)
  (hF:∀ (i:Nat) (x:Wk) (W:World),l[i]? = some x->But No w W->Calls Tryz.prog 188 #[.agg #[.int .i64 (T i).1,.int .i64 (T i).2],wkV x,q1,q2,q3] W λ e w'=>e=.returned (.agg #[.int .i64 (T (i+1)).1,.int .i64 (T (i+1)).2])/\But No W w') :
  Calls Tryz.prog 187 #[.slice A n c,.agg #[.int .i64 (T 0).1,.int .i64 (T 0).2],.func (.func 188) #[] #[q1,q2,q3]] w λ e w'=>e=.returned (.agg #[.int .i64 (T n).1,.int .i64 (T n).2])/\But No w w':=by
 have HN:=hid h.len
 have HL:=hid h
 have hmax:=h.max
 have HF:=hid hF
 have H0:=hid (FT.start w (T 0))
 clear h hF
 go_enter Tryz.func187,Tryz.ntmps187
 go_wp2_with fail
 go_loopw [11] (λ i wr=>∃ q:Nat,i=.int .i64 (q:Int)/\q<=n/\Hid (FT w wr (T q))) (λ i _=>n-(intOf i).toNat)
 case atStart=>exact⟨0,rfl,by omega,H0.out⟩
 case round =>
  obtain⟨q,rfl,hq,HT⟩:=hrel
  clear H0
  by_cases hqn:q<n
  ·have hqn2:(q:Int)<(n:Int):=by omega
   have hq0:(0:Int)<=(q:Int):=Int.natCast_nonneg q
   obtain⟨x,hx⟩:∃ x,l[q]? = some x:=⟨_,List.getElem?_eq_getElem (by rw[HN.out];exact hqn)⟩
   obtain⟨b,off,rfl,_,e0,e1,e2,e3⟩:=(HL.out.no HT.out.but).at1 hx
   have CF:Hid (∀ W,But No w W->Calls Tryz.prog 188 #[.agg #[.int .i64 (T q).1,.int .i64 (T q).2],wkV x,q1,q2,q3] W λ e w'=>e=.returned (.agg #[.int .i64 (T (q+1)).1,.int .i64 (T (q+1)).2])/\But No W w'):=hid (λ W hb=>HF.out q x W hx hb)
   clear hx
   obtain⟨x0,x1,x2,x3⟩:=x
   unfold wkV at CF
   dsimp only at e0 e1 e2 e3 CF
   obtain⟨y,hy⟩:∃ y,T (q+1)=y:=⟨_,rfl⟩
   rw[hy] at CF
   have HY:=hid hy
   obtain⟨z,hz⟩:∃ z,T q=z:=⟨_,rfl⟩
   rw[hz] at CF HT
   clear hy hz
   obtain⟨y0,y1⟩:=y
   obtain⟨z0,z1⟩:=z
   dsimp only at CF
   have hTa:=HT.out.no ((But.refl No wr).alloc (.cells #[.int .i64 x0,.int .i64 x1,.int .i64 x2,.bool x3] 161))
   have s0:=HT.out.box.cell (o:=0) rfl
   have s1:=HT.out.box.cell (o:=1) rfl
   have r0:=hTa.box.cell (o:=0) rfl
   have r1:=hTa.box.cell (o:=1) rfl
   have HTA:=hid hTa
   clear hTa
   dsimp only at s0 s1 r0 r1
   go_wp2_with (go_at_call 188;(with_reducible refine(CF.out _ HTA.out.but).mono ?_);rintro e w1 ⟨rfl,hb1⟩;have hT1:=HTA.out.no hb1;have g0:=hT1.box.frozen 0;have g1:=hT1.box.frozen 1;have t0:=hT1.box.cell (o:=0) rfl;have t1:=hT1.box.cell (o:=1) rfl;have HT1:=hid hT1;clear hT1 hb1)
   go_roundw
   case rel=>exact⟨q+1,by go_num,by omega,by rw[HY.out];exact HT1.out.set _ _⟩
   case measure=>simp[intOf];omega
  ·have HI:Hid (q=n):=hid (by omega)
   have b3:decide ((q:Int)<(n:Int))=false:=by simp;omega
   rw[HI.out] at HT
   obtain⟨z,hz⟩:∃ z,T n=z:=⟨_,rfl⟩
   rw[hz] at HT
   have HZ:=hid hz
   clear hz
   obtain⟨z0,z1⟩:=z
   have s0:=HT.out.box.cell (o:=0) rfl
   have s1:=HT.out.box.cell (o:=1) rfl
   have g0:=HT.out.res.frozen 0
   have g1:=HT.out.res.frozen 1
   have t0:=HT.out.res.cell (o:=0) rfl
   have t1:=HT.out.res.cell (o:=1) rfl
   dsimp only at s0 s1
   have KF:=(HT.out.res.set 0 (.int .i64 z0)).set 1 (.int .i64 z1)
   have f0:=KF.cell (o:=0) rfl
   have f1:=KF.cell (o:=1) rfl
   clear KF
   go_wp2
   exact bodyPost_ret (v:=.agg #[.int .i64 z0,.int .i64 z1]) (by simp[results,Tryz.results187,go_sem,f0,f1]) rfl ⟨by rw[HZ.out],(HT.out.but.setNew (Nat.le_succ _) _).setNew (Nat.le_succ _) _⟩
theorem sum_com (A:Option Addr) (n c:Nat) (l:List Wk) (bl rl t:Int) (bt:Nat) (w:World) (h:RWk w A n l) (hr:right l bl rl=true) (ht:1<=t/\t<=9223372036854775807) (hc:w.cell? ⟨bt,0,none⟩=some (.int .i64 t)) :
  Calls Tryz.prog 176 #[.agg #[.slice A n c,.int .i64 bl,.int .i64 rl],.int .i64 t,.func (.func 177) #[] #[.pointer (some ⟨bt,0,none⟩)]] w λ e w'=>e=.returned (.tuple #[.int .i64 (tot bl (cmt rl t) t l n).1,.int .i64 (tot bl (cmt rl t) t l n).2])/\But No w w':=by
 have hmax:=h.max
 have hl:=h.len
 obtain⟨_,⟨hb0,hb9⟩,⟨hr0,hr9⟩,hok⟩:=right_iff.1 hr
 have hf:∀ y ∈ l,0<=cmt rl t y:=λ y hy=>by have:=trm_bd (rl:=rl) ht.1 hr0 (hok y hy);omega
 have h3:Blk (((w.alloc (.cells #[.slice A n c,.int .i64 bl,.int .i64 rl] 187)).alloc (.cells #[.int .i64 t] 3)).alloc (.cells #[.func (.func 177) #[] #[.pointer (some ⟨bt,0,none⟩)]] 234)) w.heap.size #[.slice A n c,.int .i64 bl,.int .i64 rl] 187:=((Blk.new w _ _).alloc _).alloc _
 have h4:Blk (((w.alloc (.cells #[.slice A n c,.int .i64 bl,.int .i64 rl] 187)).alloc (.cells #[.int .i64 t] 3)).alloc (.cells #[.func (.func 177) #[] #[.pointer (some ⟨bt,0,none⟩)]] 234)) (w.heap.size+1) #[.int .i64 t] 3:=(blk2 w _ _ _).alloc _
 have h5:Blk (((w.alloc (.cells #[.slice A n c,.int .i64 bl,.int .i64 rl] 187)).alloc (.cells #[.int .i64 t] 3)).alloc (.cells #[.func (.func 177) #[] #[.pointer (some ⟨bt,0,none⟩)]] 234)) (w.heap.size+1+1) #[.func (.func 177) #[] #[.pointer (some ⟨bt,0,none⟩)]] 234:=by
  have:=blk2 (w.alloc (.cells #[.slice A n c,.int .i64 bl,.int .i64 rl] 187)) (.cells #[.int .i64 t] 3) #[.func (.func 177) #[] #[.pointer (some ⟨bt,0,none⟩)]] 234
  rw[size_alloc1] at this;exact this
 have hb:But No w (((w.alloc (.cells #[.slice A n c,.int .i64 bl,.int .i64 rl] 187)).alloc (.cells #[.int .i64 t] 3)).alloc (.cells #[.func (.func 177) #[] #[.pointer (some ⟨bt,0,none⟩)]] 234)):=(((But.refl No w).alloc _).alloc _).alloc _
 have HBW:=hid hb
 have CF:Hid (Calls Tryz.prog 187 #[.slice A n c,.agg #[.int .i64 bl,.int .i64 0],.func (.func 188) #[] #[.pointer (some ⟨w.heap.size+1+1,0,none⟩),.pointer (some ⟨w.heap.size,0,none⟩),.pointer (some ⟨w.heap.size+1,0,none⟩)]] (((w.alloc (.cells #[.slice A n c,.int .i64 bl,.int .i64 rl] 187)).alloc (.cells #[.int .i64 t] 3)).alloc (.cells #[.func (.func 177) #[] #[.pointer (some ⟨bt,0,none⟩)]] 234)) λ e w'=>e=.returned (.agg #[.int .i64 (tot bl (cmt rl t) t l n).1,.int .i64 (tot bl (cmt rl t) t l n).2])/\But No (((w.alloc (.cells #[.slice A n c,.int .i64 bl,.int .i64 rl] 187)).alloc (.cells #[.int .i64 t] 3)).alloc (.cells #[.func (.func 177) #[] #[.pointer (some ⟨bt,0,none⟩)]] 234)) w'):=hid (by
  have h9:=foldT_any A n c l (tot bl (cmt rl t) t l) (.pointer (some ⟨w.heap.size+1+1,0,none⟩)) (.pointer (some ⟨w.heap.size,0,none⟩)) (.pointer (some ⟨w.heap.size+1,0,none⟩)) _ (h.no hb) (λ i x W hx hbW=>by
   have hil:i<l.length:=(List.getElem?_eq_some_iff.1 hx).1
   have hT:(0<=(tot bl (cmt rl t) t l i).1/\(tot bl (cmt rl t) t l i).1<=9223372036854775807)/\((tot bl (cmt rl t) t l i).2=0\/(tot bl (cmt rl t) t l i).2=2):=by
    unfold tot
    cases ho:ov bl (cmt rl t) t l i with
    | true=>rw[if_pos rfl];exact⟨⟨Int.le_refl 0,by omega⟩,Or.inr rfl⟩
    | false=>rw[if_neg (by simp)];exact⟨⟨sN_pos hb0 hf (Nat.le_of_lt hil),(ov_not ho).1⟩,Or.inl rfl⟩
   have h8:=clo_sumcom (tot bl (cmt rl t) t l i).1 (tot bl (cmt rl t) t l i).2 x (w.heap.size+1+1) w.heap.size (w.heap.size+1) bt t rl W hT.1 hT.2 (hok x (List.mem_of_getElem? hx)) ht ⟨hr0,by omega⟩ (cell_keep (h5.cell rfl) hbW) (cell_keep (h3.cell rfl) hbW) (cell_keep (h4.cell rfl) hbW) (cell_keep hc (hb.trans hbW))
   rw[com_step hr ht.1 hx] at h8
   exact h8)
  have h0:tot bl (cmt rl t) t l 0=(bl,0):=by unfold tot;rw[if_neg (by rw[ov_zero (by omega)];simp)];rfl
  rw[h0] at h9
  exact h9)
 clear h hl hr ht hc hb0 hb9 hr0 hr9 hok hf h3 h4 h5 hb
 generalize tot bl (cmt rl t) t l n=R at CF ⊢
 obtain⟨R1,R2⟩:=R
 dsimp only at CF ⊢
 have hmf:∀ (fn:Fn) (first cap:Array Value) (w:World),(Instr.makeFunc fn first cap).run Tryz.prog w=.ok (.func fn first cap) w:=λ _ _ _ _=>rfl
 go_enter Tryz.func176,Tryz.ntmps176
 go_wp2_with (go_at_call 187;(with_reducible refine CF.out.mono ?_);rintro e w1 ⟨rfl,hb1⟩;have HB1:=hid (HBW.out.trans hb1);clear hb1)
 go_region
 all_goals (try go_wp2)
 all_goals go_ret2
 all_goals exact⟨rfl,by first | exact(HB1.out.alloc _).drew | exact HB1.out.drew.alloc _ | exact HB1.out.alloc _⟩
theorem com_any (A:Option Addr) (n c:Nat) (l:List Wk) (bl rl t:Int) (w:World) (h:RWk w A n l) (hr:right l bl rl=true) (ht:1<=t/\t<=9223372036854775807) :
  Calls Tryz.prog 161 #[.agg #[.slice A n c,.int .i64 bl,.int .i64 rl],.int .i64 t] w λ e w'=>e=.returned (.tuple #[.int .i64 (tot bl (cmt rl t) t l n).1,.int .i64 (tot bl (cmt rl t) t l n).2])/\But No w w':=by
 have hb:But No w ((w.alloc (.cells #[.slice A n c,.int .i64 bl,.int .i64 rl] 187)).alloc (.cells #[.int .i64 t] 3)):=((But.refl No w).alloc _).alloc _
 have HBW:=hid hb
 have CS:Hid (Calls Tryz.prog 176 #[.agg #[.slice A n c,.int .i64 bl,.int .i64 rl],.int .i64 t,.func (.func 177) #[] #[.pointer (some ⟨w.heap.size+1,0,none⟩)]] ((w.alloc (.cells #[.slice A n c,.int .i64 bl,.int .i64 rl] 187)).alloc (.cells #[.int .i64 t] 3)) λ e w'=>e=.returned (.tuple #[.int .i64 (tot bl (cmt rl t) t l n).1,.int .i64 (tot bl (cmt rl t) t l n).2])/\But No ((w.alloc (.cells #[.slice A n c,.int .i64 bl,.int .i64 rl] 187)).alloc (.cells #[.int .i64 t] 3)) w'):=hid (sum_com A n c l bl rl t (w.heap.size+1) _ (h.no hb) hr ht ((blk2 w _ _ _).cell rfl))
 clear h hr hb
 generalize tot bl (cmt rl t) t l n=R at CS ⊢
 obtain⟨R1,R2⟩:=R
 dsimp only at CS ⊢
 have hmf:∀ (fn:Fn) (first cap:Array Value) (w:World),(Instr.makeFunc fn first cap).run Tryz.prog w=.ok (.func fn first cap) w:=λ _ _ _ _=>rfl
 go_enter Tryz.func161,Tryz.ntmps161
 go_wp2_with (go_at_call 176;(with_reducible refine CS.out.mono ?_);rintro e w1 ⟨rfl,hb1⟩;have HB1:=hid (HBW.out.trans hb1);clear hb1)
 go_ret2
 exact⟨rfl,HB1.out⟩
theorem sum_dem (A:Option Addr) (n c:Nat) (l:List Wk) (bl rl t:Int) (bt:Nat) (w:World) (h:RWk w A n l) (hr:right l bl rl=true) (ht:1<=t/\t<=9223372036854775807) (hc:w.cell? ⟨bt,0,none⟩=some (.int .i64 t)) :
  Calls Tryz.prog 176 #[.agg #[.slice A n c,.int .i64 bl,.int .i64 rl],.int .i64 t,.func (.func 180) #[] #[.pointer (some ⟨bt,0,none⟩)]] w λ e w'=>e=.returned (.tuple #[.int .i64 (tot bl (trm rl t) t l n).1,.int .i64 (tot bl (trm rl t) t l n).2])/\But No w w':=by
 have hmax:=h.max
 have hl:=h.len
 obtain⟨_,⟨hb0,hb9⟩,⟨hr0,hr9⟩,hok⟩:=right_iff.1 hr
 have hf:∀ y ∈ l,0<=trm rl t y:=λ y hy=>by have:=trm_bd (rl:=rl) ht.1 hr0 (hok y hy);omega
 have h3:Blk (((w.alloc (.cells #[.slice A n c,.int .i64 bl,.int .i64 rl] 187)).alloc (.cells #[.int .i64 t] 3)).alloc (.cells #[.func (.func 180) #[] #[.pointer (some ⟨bt,0,none⟩)]] 234)) w.heap.size #[.slice A n c,.int .i64 bl,.int .i64 rl] 187:=((Blk.new w _ _).alloc _).alloc _
 have h4:Blk (((w.alloc (.cells #[.slice A n c,.int .i64 bl,.int .i64 rl] 187)).alloc (.cells #[.int .i64 t] 3)).alloc (.cells #[.func (.func 180) #[] #[.pointer (some ⟨bt,0,none⟩)]] 234)) (w.heap.size+1) #[.int .i64 t] 3:=(blk2 w _ _ _).alloc _
 have h5:Blk (((w.alloc (.cells #[.slice A n c,.int .i64 bl,.int .i64 rl] 187)).alloc (.cells #[.int .i64 t] 3)).alloc (.cells #[.func (.func 180) #[] #[.pointer (some ⟨bt,0,none⟩)]] 234)) (w.heap.size+1+1) #[.func (.func 180) #[] #[.pointer (some ⟨bt,0,none⟩)]] 234:=by
  have:=blk2 (w.alloc (.cells #[.slice A n c,.int .i64 bl,.int .i64 rl] 187)) (.cells #[.int .i64 t] 3) #[.func (.func 180) #[] #[.pointer (some ⟨bt,0,none⟩)]] 234
  rw[size_alloc1] at this;exact this
 have hb:But No w (((w.alloc (.cells #[.slice A n c,.int .i64 bl,.int .i64 rl] 187)).alloc (.cells #[.int .i64 t] 3)).alloc (.cells #[.func (.func 180) #[] #[.pointer (some ⟨bt,0,none⟩)]] 234)):=(((But.refl No w).alloc _).alloc _).alloc _
 have HBW:=hid hb
 have CF:Hid (Calls Tryz.prog 187 #[.slice A n c,.agg #[.int .i64 bl,.int .i64 0],.func (.func 188) #[] #[.pointer (some ⟨w.heap.size+1+1,0,none⟩),.pointer (some ⟨w.heap.size,0,none⟩),.pointer (some ⟨w.heap.size+1,0,none⟩)]] (((w.alloc (.cells #[.slice A n c,.int .i64 bl,.int .i64 rl] 187)).alloc (.cells #[.int .i64 t] 3)).alloc (.cells #[.func (.func 180) #[] #[.pointer (some ⟨bt,0,none⟩)]] 234)) λ e w'=>e=.returned (.agg #[.int .i64 (tot bl (trm rl t) t l n).1,.int .i64 (tot bl (trm rl t) t l n).2])/\But No (((w.alloc (.cells #[.slice A n c,.int .i64 bl,.int .i64 rl] 187)).alloc (.cells #[.int .i64 t] 3)).alloc (.cells #[.func (.func 180) #[] #[.pointer (some ⟨bt,0,none⟩)]] 234)) w'):=hid (by
  have h9:=foldT_any A n c l (tot bl (trm rl t) t l) (.pointer (some ⟨w.heap.size+1+1,0,none⟩)) (.pointer (some ⟨w.heap.size,0,none⟩)) (.pointer (some ⟨w.heap.size+1,0,none⟩)) _ (h.no hb) (λ i x W hx hbW=>by
   have hil:i<l.length:=(List.getElem?_eq_some_iff.1 hx).1
   have hT:(0<=(tot bl (trm rl t) t l i).1/\(tot bl (trm rl t) t l i).1<=9223372036854775807)/\((tot bl (trm rl t) t l i).2=0\/(tot bl (trm rl t) t l i).2=2):=by
    unfold tot
    cases ho:ov bl (trm rl t) t l i with
    | true=>rw[if_pos rfl];exact⟨⟨Int.le_refl 0,by omega⟩,Or.inr rfl⟩
    | false=>rw[if_neg (by simp)];exact⟨⟨sN_pos hb0 hf (Nat.le_of_lt hil),(ov_not ho).1⟩,Or.inl rfl⟩
   have h8:=clo_sumdem (tot bl (trm rl t) t l i).1 (tot bl (trm rl t) t l i).2 x (w.heap.size+1+1) w.heap.size (w.heap.size+1) bt t rl W hT.1 hT.2 (hok x (List.mem_of_getElem? hx)) ht ⟨hr0,by omega⟩ (cell_keep (h5.cell rfl) hbW) (cell_keep (h3.cell rfl) hbW) (cell_keep (h4.cell rfl) hbW) (cell_keep hc (hb.trans hbW))
   rw[dem_step hr ht.1 hx] at h8
   exact h8)
  have h0:tot bl (trm rl t) t l 0=(bl,0):=by unfold tot;rw[if_neg (by rw[ov_zero (by omega)];simp)];rfl
  rw[h0] at h9
  exact h9)
 clear h hl hr ht hc hb0 hb9 hr0 hr9 hok hf h3 h4 h5 hb
 generalize tot bl (trm rl t) t l n=R at CF ⊢
 obtain⟨R1,R2⟩:=R
 dsimp only at CF ⊢
 have hmf:∀ (fn:Fn) (first cap:Array Value) (w:World),(Instr.makeFunc fn first cap).run Tryz.prog w=.ok (.func fn first cap) w:=λ _ _ _ _=>rfl
 go_enter Tryz.func176,Tryz.ntmps176
 go_wp2_with (go_at_call 187;(with_reducible refine CF.out.mono ?_);rintro e w1 ⟨rfl,hb1⟩;have HB1:=hid (HBW.out.trans hb1);clear hb1)
 go_region
 all_goals (try go_wp2)
 all_goals go_ret2
 all_goals exact⟨rfl,by first | exact(HB1.out.alloc _).drew | exact HB1.out.drew.alloc _ | exact HB1.out.alloc _⟩
theorem dem_any (A:Option Addr) (n c:Nat) (l:List Wk) (bl rl t:Int) (w:World) (h:RWk w A n l) (hr:right l bl rl=true) (ht:1<=t/\t<=9223372036854775807) :
  Calls Tryz.prog 162 #[.agg #[.slice A n c,.int .i64 bl,.int .i64 rl],.int .i64 t] w λ e w'=>e=.returned (.tuple #[.int .i64 (tot bl (trm rl t) t l n).1,.int .i64 (tot bl (trm rl t) t l n).2])/\But No w w':=by
 have hb:But No w ((w.alloc (.cells #[.slice A n c,.int .i64 bl,.int .i64 rl] 187)).alloc (.cells #[.int .i64 t] 3)):=((But.refl No w).alloc _).alloc _
 have HBW:=hid hb
 have CS:Hid (Calls Tryz.prog 176 #[.agg #[.slice A n c,.int .i64 bl,.int .i64 rl],.int .i64 t,.func (.func 180) #[] #[.pointer (some ⟨w.heap.size+1,0,none⟩)]] ((w.alloc (.cells #[.slice A n c,.int .i64 bl,.int .i64 rl] 187)).alloc (.cells #[.int .i64 t] 3)) λ e w'=>e=.returned (.tuple #[.int .i64 (tot bl (trm rl t) t l n).1,.int .i64 (tot bl (trm rl t) t l n).2])/\But No ((w.alloc (.cells #[.slice A n c,.int .i64 bl,.int .i64 rl] 187)).alloc (.cells #[.int .i64 t] 3)) w'):=hid (sum_dem A n c l bl rl t (w.heap.size+1) _ (h.no hb) hr ht ((blk2 w _ _ _).cell rfl))
 clear h hr hb
 generalize tot bl (trm rl t) t l n=R at CS ⊢
 obtain⟨R1,R2⟩:=R
 dsimp only at CS ⊢
 have hmf:∀ (fn:Fn) (first cap:Array Value) (w:World),(Instr.makeFunc fn first cap).run Tryz.prog w=.ok (.func fn first cap) w:=λ _ _ _ _=>rfl
 go_enter Tryz.func162,Tryz.ntmps162
 go_wp2_with (go_at_call 176;(with_reducible refine CS.out.mono ?_);rintro e w1 ⟨rfl,hb1⟩;have HB1:=hid (HBW.out.trans hb1);clear hb1)
 go_ret2
 exact⟨rfl,HB1.out⟩
end Go.Proofs.YtlecikdjoekknaaGreat.dem
end
