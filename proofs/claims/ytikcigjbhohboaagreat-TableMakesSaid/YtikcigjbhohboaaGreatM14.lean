/- Part 14 of a proof: ReC4 ReC5 ReC. -/
import Derived.Stop.RegionWithIn
import Derived.Test.YtikcigjbhohboaaGreatM13
section
namespace Go.Proofs.YtikcigjbhohboaaGreat.rsp
open Go.Lib (hid)
open Go.ChangeShapes Go.WideShapes Go.ChangeAt Go.RowKit Go.Deep Go.Shelf
attribute [local go_sem] Oper.semAt_some
def rqA (t:Int) (a:List Ld):List (Int × Int):=a.map fun x=>(x.w,up (t+x.j) x.p)
def rqB (rl t:Int) (b:List Ld):List (Int × Int):=b.map fun x=>(rl,up (t+x.j) x.p+1)
def rqs (own bl rl t:Int) (a b:List Ld):List (Int × Int):=(own,1) :: (bl,1) :: (rqA t a ++ rqB rl t b)
theorem rqs_len (own bl rl t:Int) (a b:List Ld):(rqs own bl rl t a b).length=2+(a.length+b.length):=by
 unfold rqs rqA rqB;simp;omega
theorem rqs_a {own bl rl t:Int} {a b:List Ld} {q:Nat} {x:Ld} (h:a[q]? = some x):(rqs own bl rl t a b)[2+q]? = some (x.w,up (t+x.j) x.p):=by
 have hq:q<a.length:=(List.getElem?_eq_some_iff.1 h).1
 unfold rqs rqA rqB
 rw[show 2+q=q+1+1 by omega,List.getElem?_cons_succ,List.getElem?_cons_succ,List.getElem?_append_left (by simpa using hq),List.getElem?_map,h];rfl
theorem rqs_b {own bl rl t:Int} {a b:List Ld} {q:Nat} {x:Ld} (h:b[q]? = some x):(rqs own bl rl t a b)[2+(a.length+q)]? = some (rl,up (t+x.j) x.p+1):=by
 unfold rqs rqA rqB
 rw[show 2+(a.length+q)=a.length+q+1+1 by omega,List.getElem?_cons_succ,List.getElem?_cons_succ,List.getElem?_append_right (by simp),List.getElem?_map,List.length_map,show a.length+q-a.length=q by omega,h];rfl
theorem but_grown {W W':World} (h:But No W W'):W.grownBy W' none:=⟨h.os,h.tape,h.output,h.size,fun k hk _=>h.block k hk (fun f=>f)⟩
set_option maxRecDepth 100000 in
set_option maxHeartbeats 4000000 in
theorem req1_in (n:Nat) (hn:1≤n) (lp Bs Bn:Nat) (own bl rl t:Int) (A:Option Addr) (m c:Nat) (a:List Ld) (B:Option Addr) (k d:Nat) (b:List Ld) (w:World) (hA:RLd w A m a) (hB:RLd w B k b) (S:Nat→Prop) (hSA:0<m→∀ b off,A=some ⟨b,off,none⟩→¬S b) (hSB:0<k→∀ b off,B=some ⟨b,off,none⟩→¬S b) (hSs:¬S Bs) (hSn:¬S Bn)
  (hokA:∀ x ∈ a,okD x=true) (hokB:∀ x ∈ b,okD x=true) (t0:0≤t) (t1:t≤4611686018427387904)
  (J Jx:List {p:Int × Int // p ∈ rqs own bl rl t a b}→World→Prop) (W:World) (hW:But S w W)
  (hJ:AbidesFrom W.heap.size J)
  (hY:∀ pre (x : {p:Int × Int // p ∈ rqs own bl rl t a b}) W1,J pre W1→pre.length<(rqs own bl rl t a b).length→YieldAt Fence.wide (n-1) Tryz.prog lp #[.int .i64 x.1.1,.int .i64 x.1.2] W1 fun e W' =>
   (e=.returned (.bool true)∧J (pre ++ [x]) W'∧But S W1 W')∨(e=.returned (.bool false)∧Jx (pre ++ [x]) W'))
  (hBs:Blk w Bs #[.int .i64 own,.int .i64 bl,.int .i64 rl,.slice A m c,.slice B k d] 236) (hBn:Blk w Bn #[.int .i64 t] 3) (h0:J [] W) :
  CallsIn Fence.wide n Tryz.prog 196 #[.func (.yield lp) #[] #[],.pointer (some ⟨Bs,0,none⟩),.pointer (some ⟨Bn,0,none⟩)] W fun e W'=>(∃ v,e=.returned v) ∧
   ((∃ ys,ys=(rqs own bl rl t a b).attach∧J ys W')∨(∃ pre,pre <+: (rqs own bl rl t a b).attach∧Jx pre W')):=by
 have HNA:=hid hA.len
 have HNB:=hid hB.len
 have HA:=hid hA
 have HB:=hid hB
 have hmA:=hA.max
 have hmB:=hB.max
 have HOA:=hid hokA
 have HOB:=hid hokB
 have HLEN:Hid ((rqs own bl rl t a b).length=2+(m+k)):=hid (by rw[rqs_len,HNA.out,HNB.out])
 have HYR:Hid (∀ q x W0 W1,(rqs own bl rl t a b)[q]? = some x→J ((rqs own bl rl t a b).attach.take q) W0→But No W0 W1→YieldAt Fence.wide (n-1) Tryz.prog lp #[.int .i64 x.1,.int .i64 x.2] W1 fun e W' =>
   ∃ g:Bool,e=.returned (.bool g)∧((g=true∧J ((rqs own bl rl t a b).attach.take (q+1)) W'∧But S W1 W')∨(g=false∧∃ pre,pre <+: (rqs own bl rl t a b).attach∧Jx pre W'))):=hid (fun q x W0 W1 hx hj hb=>by
  obtain⟨hq,he⟩:=List.getElem?_eq_some_iff.1 hx
  have hs:=attach_take_snoc hq
  have:=hY ((rqs own bl rl t a b).attach.take q) ⟨(rqs own bl rl t a b)[q],List.getElem_mem hq⟩ W1 (hJ _ _ _ none hj (but_grown hb) (fun r e=>by cases e)) (by rw[List.length_take,List.length_attach];omega)
  rw[←hs] at this
  simp only[he] at this
  refine this.mono fun e W' h=>?_
  rcases h with h | ⟨h1,h2⟩
  ·exact⟨true,h.1,.inl ⟨rfl,h.2⟩⟩
  ·exact⟨false,h1,.inr ⟨rfl,_,List.take_prefix _ _,h2⟩⟩)
 have HY0:=hid (fun W0 W1 h1 h2=>HYR.out 0 (own,1) W0 W1 rfl h1 h2)
 have HY1:=hid (fun W0 W1 h1 h2=>HYR.out 1 (bl,1) W0 W1 rfl h1 h2)
 have HC:Hid (∀ X,But S w X→(X.cell? ⟨Bs,0,none⟩=some (.int .i64 own)∧X.cell? ⟨Bs,1,none⟩=some (.int .i64 bl)∧X.cell? ⟨Bs,2,none⟩=some (.int .i64 rl))∧(X.cell? ⟨Bs,3,none⟩=some (.slice A m c)∧X.cell? ⟨Bs,4,none⟩=some (.slice B k d))∧X.cell? ⟨Bn,0,none⟩=some (.int .i64 t)):=hid (fun X h =>
  ⟨⟨(hBs.but h hSs).cell (o:=0) rfl,(hBs.but h hSs).cell (o:=1) rfl,(hBs.but h hSs).cell (o:=2) rfl⟩,⟨(hBs.but h hSs).cell (o:=3) rfl,(hBs.but h hSs).cell (o:=4) rfl⟩,(hBn.but h hSn).cell (o:=0) rfl⟩)
 have HB0:=hid hW
 have HAS:Hid (∀ X,But S w X→RLd X A m a):=hid (fun X h=>hA.but h hSA)
 have HBS:Hid (∀ X,But S w X→RLd X B k b):=hid (fun X h=>hB.but h hSB)
 have H0:Hid (J ((rqs own bl rl t a b).attach.take 0) W):=hid (by simpa using h0)
 clear hA hB hY hJ hBs hBn hW h0 hokA hokB hSA hSB hSs hSn HA HB
 refine callsIn_of_wp Tryz.func196 rfl trivial ?_ rfl
 simp only[Tryz.ntmps196,List.size_toArray,List.length_cons,List.length_nil,Nat.reduceAdd,Nat.reduceSub,Array.replicate_succ,Array.replicate_zero,List.push_toArray,List.append_toArray,List.nil_append,List.cons_append]
 obtain⟨⟨e0,e1,e2⟩,⟨e3,e4⟩,e5⟩:=HC.out W HB0.out
 obtain⟨fn,tmps,assign,body,hy,hR⟩:=HY0.out W W H0.out (But.refl No W)
 dsimp only at hy
 have HR:=hid hR
 clear hR
 gi_wp2
 refine HR.out.mono ?_
 rintro e W1 ⟨g,rfl,⟨rfl,hj,hk⟩ | ⟨rfl,hx⟩⟩
 rotate_left
 ·gi_wp2
  refine⟨fun _ h=>(by cases h),?_⟩
  gi_wp2
  refine bodyPost_ret (results_none rfl _ _ _) rfl ?_
  exact⟨⟨_,rfl⟩,.inr hx⟩
 clear HR hy
 have HJ1:=hid hj
 have HB1:Hid (But S w W1):=hid (HB0.out.trans hk)
 clear e0 e1 e2 e3 e4 e5 hj hk
 obtain⟨⟨e0,e1,e2⟩,⟨e3,e4⟩,e5⟩:=HC.out W1 HB1.out
 obtain⟨fn,tmps,assign,body,hy,hR⟩:=HY1.out W1 W1 HJ1.out (But.refl No W1)
 try dsimp only at hy
 have HR:=hid hR
 clear hR
 gi_wp2
 refine HR.out.mono ?_
 rintro e W2 ⟨g,rfl,⟨rfl,hj,hk⟩ | ⟨rfl,hx⟩⟩
 rotate_left
 ·gi_wp2
  refine bodyPost_ret (results_none rfl _ _ _) rfl ?_
  exact⟨⟨_,rfl⟩,.inr hx⟩
 clear HR hy
 have HJ2:Hid (J ((rqs own bl rl t a b).attach.take (2+0)) W2):=hid hj
 have HB2:Hid (But S w W2):=hid (HB1.out.trans hk)
 clear e0 e1 e2 e3 e4 e5 hj hk
 obtain⟨⟨e0,e1,e2⟩,⟨e3,e4⟩,e5⟩:=HC.out W2 HB2.out
 gi_wp2
 gi_loopw [23] (fun j w3=>∃ q:Nat,q≤m∧j=.int .i64 (q:Int)∧Hid (J ((rqs own bl rl t a b).attach.take (2+q)) w3)∧Hid (But S w w3)) (fun j _=>m-(intOf j).toNat)
 case atStart=>exact⟨0,by omega,rfl,HJ2.out,HB2.out⟩
 case round =>
  obtain⟨q,hq,rfl,HJS,HBR⟩:=hrel
  clear e0 e1 e2 e3 e4 e5
  obtain⟨⟨e0,e1,e2⟩,⟨e3,e4⟩,e5⟩:=HC.out wr HBR.out
  by_cases hqm:q<m
  ·have hqm2:(q:Int)<(m:Int):=by omega
   have hq0:(0:Int)≤(q:Int):=Int.natCast_nonneg q
   have b3:decide ((q:Int)<(m:Int))=true:=by simp;omega
   obtain⟨x,hx⟩:∃ x,a[q]? = some x:=⟨_,List.getElem?_eq_getElem (by rw[HNA.out];exact hqm)⟩
   obtain⟨bk,off,rfl,_,c0,c1,c2⟩:=(HAS.out wr HBR.out).at1 hx
   have HX:=rqs_a (own:=own) (bl:=bl) (rl:=rl) (t:=t) (b:=b) hx
   have HX:=hid HX
   have hok:=HOA.out x (List.mem_of_getElem? hx)
   obtain⟨⟨hw0,hw1⟩,⟨hp0,hp1⟩,hj0,hj1⟩:=okD_iff.1 hok
   have CA:=hid (fun W=>arr_any x t hok t0 t1 W)
   have HRQ:=hid (fun W1 hb=>HYR.out (2+q) _ wr W1 HX.out HJS.out hb)
   clear hw0 hw1 hp0 hp1 hj0 hj1
   obtain⟨x0,x1,x2⟩:=x
   unfold ldV at CA
   dsimp only at c0 c1 c2 CA HRQ
   generalize up (t+x2) x1=u at CA HRQ
   clear hx hok HX
   have hbx:But No wr (wr.alloc (.cells #[.int .i64 x0,.int .i64 x1,.int .i64 x2] 211)):=(But.refl No wr).alloc _
   have f0:=(Blk.new wr #[.int .i64 x0,.int .i64 x1,.int .i64 x2] 211).cell (o:=0) rfl
   have f1:=(Blk.new wr #[.int .i64 x0,.int .i64 x1,.int .i64 x2] 211).cell (o:=1) rfl
   have f2:=(Blk.new wr #[.int .i64 x0,.int .i64 x1,.int .i64 x2] 211).cell (o:=2) rfl
   have f5:=cell_keep e5 hbx
   have HBX:=hid hbx
   clear hbx
   gi_wp2
   generalize wr.alloc (.cells #[.int .i64 x0,.int .i64 x1,.int .i64 x2] 211)=wx at HBX f0 f1 f2 f5  ⊢
   have HF0:=hid f0
   clear c0 c1 c2 e0 e1 e2 e3 e4 e5
   have hfol:Tryz.prog.follows .mixedOrders=true:=by kernel_rfl
   gi_region_with_o (first | (refine⟨trivial,?_⟩;gi_at_call 197;refine(callsIn_wide.2 (CA.out _)).mono ?_;rintro e wC ⟨rfl,hbC⟩;have HBC:Hid (But No wx wC):=hid (by first | exact hbC | exact(But.refl No wx).drew.trans hbC);clear hbC;have fC:=cell_keep HF0.out HBC.out;obtain⟨fn,tmps,assign,body,hy,hR⟩:=HRQ.out wC (HBX.out.trans HBC.out);have HR:=hid hR;clear hR) | (refine HR.out.mono ?_;rintro e W3 ⟨g,rfl,hg⟩;have HG:=hid hg;clear hg))
   all_goals (
    clear fC f0 f1 f2 f5  hy HR CA
    have HBC:=hid (HBR.out.trans (HBX.out.trans HBC.out).no)
    cases g with
    | true =>
     have HG2:Hid (J ((rqs own bl rl t a b).attach.take ((2+q)+1)) W3∧But S wC W3):=hid (by rcases HG.out with⟨_,h⟩ | ⟨h,_⟩;exact h;cases h)
     have HB3:Hid (But S w W3):=hid (HBC.out.trans HG2.out.2)
     clear HG
     gi_wp2
     go_roundw
     case rel=>exact⟨q+1,by omega,by go_num,HG2.out.1,HB3.out⟩
     case measure=>simp[intOf];omega
    | false =>
     have HG2:Hid (∃ pre,pre <+: (rqs own bl rl t a b).attach∧Jx pre W3):=hid (by rcases HG.out with⟨h,_⟩ | ⟨_,h⟩;cases h;exact h)
     clear HG
     gi_wp2
     refine bodyPost_ret (results_none rfl _ _ _) rfl ?_
     exact⟨⟨_,rfl⟩,.inr HG2.out⟩)
  ·have hqn:q=m:=by omega
   have b3:decide ((q:Int)<(m:Int))=false:=by simp;omega
   have HJ4:Hid (J ((rqs own bl rl t a b).attach.take (2+(m+0))) wr):=hid (by rw[←hqn];exact HJS.out)
   have HB4:=HBR
   clear hqn HJS HBR
   gi_wp2
   gi_loopw [39] (fun j w3=>∃ q:Nat,q≤k∧j=.int .i64 (q:Int)∧Hid (J ((rqs own bl rl t a b).attach.take (2+(m+q))) w3)∧Hid (But S w w3)) (fun j _=>k-(intOf j).toNat)
   case atStart=>exact⟨0,by omega,rfl,HJ4.out,HB4.out⟩
   case round =>
    obtain⟨q,hq,rfl,HJS,HBR⟩:=hrel
    clear e0 e1 e2 e3 e4 e5
    obtain⟨⟨e0,e1,e2⟩,⟨e3,e4⟩,e5⟩:=HC.out wr HBR.out
    by_cases hqm:q<k
    ·have hqm2:(q:Int)<(k:Int):=by omega
     have hq0:(0:Int)≤(q:Int):=Int.natCast_nonneg q
     have b3:decide ((q:Int)<(k:Int))=true:=by simp;omega
     obtain⟨x,hx⟩:∃ x,b[q]? = some x:=⟨_,List.getElem?_eq_getElem (by rw[HNB.out];exact hqm)⟩
     obtain⟨bk,off,rfl,_,c0,c1,c2⟩:=(HBS.out wr HBR.out).at1 hx
     have HX:=rqs_b (own:=own) (bl:=bl) (rl:=rl) (t:=t) (a:=a) hx
     rw[HNA.out] at HX
     have HX:=hid HX
     have hok:=HOB.out x (List.mem_of_getElem? hx)
     obtain⟨⟨hw0,hw1⟩,⟨hp0,hp1⟩,hj0,hj1⟩:=okD_iff.1 hok
     have CA:=hid (fun W=>arr_any x t hok t0 t1 W)
     have HRQ:=hid (fun W1 hb=>HYR.out (2+(m+q)) _ wr W1 HX.out HJS.out hb)
     have hu:0≤up (t+x.j) x.p∧up (t+x.j) x.p≤t+x.j:=up_bd (by omega) hp0
     have hw9:IntKind.i64.wrap (up (t+x.j) x.p+1)=up (t+x.j) x.p+1:=IntWalk.i64_in _ (by omega)
     clear hw0 hw1 hp0 hp1 hj0 hj1
     obtain⟨x0,x1,x2⟩:=x
     unfold ldV at CA
     dsimp only at c0 c1 c2 CA HRQ hu hw9
     generalize up (t+x2) x1=u at CA HRQ hu hw9
     rw[←hw9] at HRQ
     clear hx hok HX hw9 hu
     have hbx:But No wr (wr.alloc (.cells #[.int .i64 x0,.int .i64 x1,.int .i64 x2] 211)):=(But.refl No wr).alloc _
     have f0:=(Blk.new wr #[.int .i64 x0,.int .i64 x1,.int .i64 x2] 211).cell (o:=0) rfl
     have f1:=(Blk.new wr #[.int .i64 x0,.int .i64 x1,.int .i64 x2] 211).cell (o:=1) rfl
     have f2:=(Blk.new wr #[.int .i64 x0,.int .i64 x1,.int .i64 x2] 211).cell (o:=2) rfl
     have f5:=cell_keep e5 hbx
     have f6:=cell_keep e2 hbx
     have HE2:=hid e2
     have HBX:=hid hbx
     clear hbx
     gi_wp2
     generalize wr.alloc (.cells #[.int .i64 x0,.int .i64 x1,.int .i64 x2] 211)=wx at HBX f0 f1 f2 f5 f6 ⊢
     have HF0:=hid f0
     clear c0 c1 c2 e0 e1 e2 e3 e4 e5
     have hfol:Tryz.prog.follows .mixedOrders=true:=by kernel_rfl
     gi_region_with_o (first | (refine⟨trivial,?_⟩;gi_at_call 197;refine(callsIn_wide.2 (CA.out _)).mono ?_;rintro e wC ⟨rfl,hbC⟩;have HBC:Hid (But No wx wC):=hid (by first | exact hbC | exact(But.refl No wx).drew.trans hbC);clear hbC;have fC:=cell_keep HE2.out (HBX.out.trans HBC.out);obtain⟨fn,tmps,assign,body,hy,hR⟩:=HRQ.out wC (HBX.out.trans HBC.out);have HR:=hid hR;clear hR) | (refine HR.out.mono ?_;rintro e W3 ⟨g,rfl,hg⟩;have HG:=hid hg;clear hg))
     all_goals (
      clear fC f0 f1 f2 f5 f6 hy HR CA
      have HBC:=hid (HBR.out.trans (HBX.out.trans HBC.out).no)
      cases g with
      | true =>
       have HG2:Hid (J ((rqs own bl rl t a b).attach.take ((2+(m+q))+1)) W3∧But S wC W3):=hid (by rcases HG.out with⟨_,h⟩ | ⟨h,_⟩;exact h;cases h)
       have HB3:Hid (But S w W3):=hid (HBC.out.trans HG2.out.2)
       clear HG
       gi_wp2
       go_roundw
       case rel=>exact⟨q+1,by omega,by go_num,HG2.out.1,HB3.out⟩
       case measure=>simp[intOf];omega
      | false =>
       have HG2:Hid (∃ pre,pre <+: (rqs own bl rl t a b).attach∧Jx pre W3):=hid (by rcases HG.out with⟨h,_⟩ | ⟨_,h⟩;cases h;exact h)
       clear HG
       gi_wp2
       refine bodyPost_ret (results_none rfl _ _ _) rfl ?_
       exact⟨⟨_,rfl⟩,.inr HG2.out⟩)
    ·have hqn:q=k:=by omega
     have b3:decide ((q:Int)<(k:Int))=false:=by simp;omega
     have htk:(rqs own bl rl t a b).attach.take (2+(m+q))=(rqs own bl rl t a b).attach:=by rw[hqn];exact List.take_of_length_le (by rw[List.length_attach,HLEN.out];exact Nat.le_refl _)
     rw[htk] at HJS
     clear hqn htk
     gi_wp2
     go_end0
     exact⟨⟨_,rfl⟩,.inl ⟨_,rfl,HJS.out⟩⟩
theorem req_stops (n:Nat) (hn:1≤n) (Bs Bn:Nat) (own bl rl t:Int) (A:Option Addr) (m c:Nat) (a:List Ld) (B:Option Addr) (k d:Nat) (b:List Ld) (W0:World) (hA:RLd W0 A m a) (hB:RLd W0 B k b) (S:Nat→Prop) (hSA:0<m→∀ b off,A=some ⟨b,off,none⟩→¬S b) (hSB:0<k→∀ b off,B=some ⟨b,off,none⟩→¬S b) (hSs:¬S Bs) (hSn:¬S Bn)
  (hokA:∀ x ∈ a,okD x=true) (hokB:∀ x ∈ b,okD x=true) (t0:0≤t) (t1:t≤4611686018427387904)
  (hBs:Blk W0 Bs #[.int .i64 own,.int .i64 bl,.int .i64 rl,.slice A m c,.slice B k d] 236) (hBn:Blk W0 Bn #[.int .i64 t] 3) :
  SeqStopsK Fence.wide n Tryz.prog 196 #[.pointer (some ⟨Bs,0,none⟩),.pointer (some ⟨Bn,0,none⟩)] (fun x : {p:Int × Int // p ∈ rqs own bl rl t a b}=>#[.int .i64 x.1.1,.int .i64 x.1.2]) (But S) (fun ys=>ys=(rqs own bl rl t a b).attach) (fun pre=>pre <+: (rqs own bl rl t a b).attach) (rqs own bl rl t a b).length W0:=fun lp J Jx W hW hJ _ hY h0 =>
 req1_in n hn lp Bs Bn own bl rl t A m c a B k d b W0 hA hB S hSA hSB hSs hSn hokA hokB t0 t1 J Jx W (but_below hW).no hJ hY hBs hBn h0
theorem req_any (own bl rl t:Int) (A:Option Addr) (m c:Nat) (B:Option Addr) (k d:Nat) (w:World):Calls Tryz.prog 183 #[jobV own bl rl A m c B k d,.int .i64 t] w fun e w'=>e=.returned (.func (.func 196) #[] #[.pointer (some ⟨w.heap.size,0,none⟩),.pointer (some ⟨w.heap.size+1,0,none⟩)])∧w'=(w.alloc (.cells #[.int .i64 own,.int .i64 bl,.int .i64 rl,.slice A m c,.slice B k d] 236)).alloc (.cells #[.int .i64 t] 3):=by
 have hmf:∀ (fn:Fn) (first cap:Array Value) (w:World),(Instr.makeFunc fn first cap).run Tryz.prog w=.ok (.func fn first cap) w:=fun _ _ _ _=>rfl
 unfold jobV
 go_enter Tryz.func183,Tryz.ntmps183
 go_wp2
 go_ret
 exact⟨rfl,rfl⟩
end Go.Proofs.YtikcigjbhohboaaGreat.rsp
end
section
namespace Go.Proofs.YtikcigjbhohboaaGreat.rsp
open Go.Lib (hid)
open Go.ChangeShapes Go.WideShapes Go.ChangeAt Go.RowKit Go.Deep Go.Shelf
attribute [local go_sem] Oper.semAt_some
structure IW (w:World) (T r e:Int) (W:World):Prop where
 b1:Blk W (w.heap.size+1) #[.int .i64 r] 3
 b2:Blk W (w.heap.size+1+1) #[.int .i64 e] 34
 b3:Blk W (w.heap.size+1+1+1) #[.int .i64 T] 3
 but:Below w.heap.size w W
theorem IW.no {w W W':World} {T r e:Int} (h:IW w T r e W) (hb:But No W W'):IW w T r e W' :=
 ⟨h.b1.but hb (fun f=>f),h.b2.but hb (fun f=>f),h.b3.but hb (fun f=>f),h.but.trans (below_but hb h.but.size)⟩
theorem IW.turn {w W W':World} {row:Option Nat} {B:Nat} {T r e:Int} (h:IW w T r e W) (hB:w.heap.size≤B) (hg:W.grownBy W' row) (hr:∀ r,row=some r→B≤r∧∃ o:Obj,W.heap[r]? = some o∧o.isCells=false):IW w T r e W' :=
 ⟨blk_turn h.b1 hg (fun k e=>(hr k e).2),blk_turn h.b2 hg (fun k e=>(hr k e).2),blk_turn h.b3 hg (fun k e=>(hr k e).2),h.but.grown hg h.but.size (fun k e=>Nat.le_trans hB (hr k e).1)⟩
theorem IW.set {w W:World} {T r e:Int} (h:IW w T r e W) (S:Int):IW w S r e (W.setCell ⟨w.heap.size+1+1+1,0,none⟩ (.int .i64 S)) :=
 ⟨h.b1.other (by show w.heap.size+1≠w.heap.size+1+1+1;omega) _,h.b2.other (by show w.heap.size+1+1≠w.heap.size+1+1+1;omega) _,h.b3.set 0 _,h.but.setCell (p:=⟨w.heap.size+1+1+1,0,none⟩) (by show w.heap.size≤w.heap.size+1+1+1;omega) _⟩
theorem IW.res {w W:World} {T r e:Int} (h:IW w T r e W) (a b:Int):IW w T a b ((W.setCell ⟨w.heap.size+1,0,none⟩ (.int .i64 a)).setCell ⟨w.heap.size+1+1,0,none⟩ (.int .i64 b)) :=
 ⟨(
  h.b1.set 0 _).other (by show w.heap.size+1≠w.heap.size+1+1;omega) _,(h.b2.other (by show w.heap.size+1+1≠w.heap.size+1;omega) _).set 0 _,(h.b3.other (by show w.heap.size+1+1+1≠w.heap.size+1;omega) _).other (by show w.heap.size+1+1+1≠w.heap.size+1+1;omega) _,
  (h.but.setCell (p:=⟨w.heap.size+1,0,none⟩) (by show w.heap.size≤w.heap.size+1;omega) _).setCell (p:=⟨w.heap.size+1+1,0,none⟩) (by show w.heap.size≤w.heap.size+1+1;omega) _⟩
theorem IW.start (w:World) (cs:Array Value):IW w 0 0 0 ((((w.alloc (.cells cs 236)).alloc (.cells #[.int .i64 0] 3)).alloc (.cells #[.int .i64 0] 34)).alloc (.cells #[.int .i64 0] 3)):=by
 have h3:=blk2 (w.alloc (.cells cs 236)) (.cells #[.int .i64 0] 3) #[.int .i64 0] 34
 have h4:=blk2 ((w.alloc (.cells cs 236)).alloc (.cells #[.int .i64 0] 3)) (.cells #[.int .i64 0] 34) #[.int .i64 0] 3
 rw[size_alloc1] at h3 h4
 rw[size_alloc1] at h4
 exact⟨((blk2 w _ _ _).alloc _).alloc _,h3.alloc _,h4,below_but (((((But.refl No w).alloc _).alloc _).alloc _).alloc _) (Nat.le_refl _)⟩
def pr (p:Int × Int):Int:=p.1*p.2
def sR : List (Int × Int)→Int
 | []=>0
 | x :: l=>pr x+sR l
theorem sR_app (a b:List (Int × Int)):sR (a ++ b)=sR a+sR b:=by
 induction a with
 | nil=>simp[sR]
 | cons x a ih=>rw[List.cons_append,sR,sR,ih];omega
theorem sR_rqA (t:Int) (a:List Ld):sR (rqA t a)=sL (fA t) a:=by
 induction a with
 | nil=>rfl
 | cons x a ih =>
  unfold rqA at ih
  rw[rqA,List.map_cons,sR,sL,ih]
  unfold pr fA
  rw[Int.mul_comm]
theorem sR_rqB (rl t:Int) (b:List Ld):sR (rqB rl t b)=sL (fB rl t) b:=by
 induction b with
 | nil=>rfl
 | cons x b ih =>
  unfold rqB at ih
  rw[rqB,List.map_cons,sR,sL,ih]
  unfold pr fB
  rw[Int.mul_comm]
theorem sR_rqs (own bl rl t:Int) (a b:List Ld):sR (rqs own bl rl t a b)=wiS own bl rl a b t:=by
 unfold rqs
 rw[sR,sR,sR_app,sR_rqA,sR_rqB,wiS_L]
 unfold pr
 omega
theorem rqs_fit {own bl rl t:Int} {a b:List Ld} (h:right own bl rl a b=true) (t0:0≤t) (t1:t≤4611686018427387904):∀ p ∈ rqs own bl rl t a b,0≤p.1∧inR p.1∧0≤p.2∧inR p.2:=by
 obtain⟨ha,hb,⟨o0,o1⟩,⟨b0,b1⟩,r0,r1⟩:=right_iff.1 h
 have hA:=(okLs_iff.1 ha).2
 have hB:=(okLs_iff.1 hb).2
 intro p hp
 unfold rqs rqA rqB at hp
 simp only[List.mem_cons,List.mem_append,List.mem_map] at hp
 unfold inR
 rcases hp with rfl | rfl | ⟨x,hx,rfl⟩ | ⟨x,hx,rfl⟩
 ·dsimp only;omega
 ·dsimp only;omega
 ·obtain⟨⟨w0,w1⟩,⟨p0,p1⟩,j0,j1⟩:=okD_iff.1 (hA x hx)
  have:=up_bd (n:=t+x.j) (by omega) p0
  dsimp only;omega
 ·obtain⟨⟨w0,w1⟩,⟨p0,p1⟩,j0,j1⟩:=okD_iff.1 (hB x hx)
  have:=up_bd (n:=t+x.j) (by omega) p0
  dsimp only;omega
def tS {l:List (Int × Int)} (pre:List {p:Int × Int // p ∈ l}):Int:=sR (pre.map Subtype.val)
theorem tS_snoc {l:List (Int × Int)} (pre:List {p:Int × Int // p ∈ l}) (x : {p:Int × Int // p ∈ l}):tS (pre ++ [x])=tS pre+pr x.1:=by
 unfold tS;rw[List.map_append,sR_app];simp[sR]
theorem tS_all {l:List (Int × Int)}:tS l.attach=sR l:=by
 unfold tS;rw[List.attach_map_subtype_val]
theorem tS_le {l:List (Int × Int)} (hf:∀ p ∈ l,0≤pr p) {pre:List {p:Int × Int // p ∈ l}} (h:pre <+: l.attach):tS pre≤sR l:=by
 obtain⟨r,e⟩:=h
 rw[←tS_all,←e]
 unfold tS;rw[List.map_append,sR_app]
 have h9:∀ r:List {p:Int × Int // p ∈ l},0≤sR (r.map Subtype.val):=fun r=>by
  induction r with
  | nil=>exact Int.le_refl 0
  | cons x r ih=>rw[List.map_cons,sR];have:=hf x.1 x.2;omega
 have:=h9 r
 omega
set_option maxRecDepth 100000 in
set_option maxHeartbeats 4000000 in
theorem jwithin_any (own bl rl t:Int) (A:Option Addr) (m c:Nat) (a:List Ld) (B:Option Addr) (k d:Nat) (b:List Ld) (w:World) (hA:RLd w A m a) (hB:RLd w B k b) (hr:right own bl rl a b=true) (t0:0≤t) (t1:t≤4611686018427387904) :
  Calls Tryz.prog 161 #[jobV own bl rl A m c B k d,.int .i64 t] w fun e w'=>e=.returned (.tuple #[.int .i64 (wiV own bl rl a b t),.int .i64 (wiE own bl rl a b t)])∧But No w w':=by
 have HVE:=hid (wi_cases own bl rl a b t)
 have HRT:Hid (right own bl rl a b=true∧0≤t∧t≤4611686018427387904):=hid ⟨hr,t0,t1⟩
 obtain⟨V,hV⟩:∃ V,wiV own bl rl a b t=V:=⟨_,rfl⟩
 obtain⟨E,hE⟩:∃ E:Int,wiE own bl rl a b t=E:=⟨_,rfl⟩
 rw[hV,hE] at HVE ⊢
 rw[←sR_rqs] at HVE
 have HOV:Hid (4611686018427387904<sR (rqs own bl rl t a b)→0=V∧2=E):=hid (fun h=>by
  rcases HVE.out with⟨_,_,e⟩ | ⟨_,_,e,v⟩ | ⟨_,e,_⟩
  ·exact absurd HRT.out e
  ·exact⟨v.symm,e.symm⟩
  ·omega)
 have HGO:Hid (sR (rqs own bl rl t a b)≤4611686018427387904→sR (rqs own bl rl t a b)=V∧0=E):=hid (fun h=>by
  rcases HVE.out with⟨_,_,e⟩ | ⟨_,e,_⟩ | ⟨_,_,e,v⟩
  ·exact absurd HRT.out e
  ·omega
  ·exact⟨v.symm,e.symm⟩)
 have HFIT:=hid (rqs_fit hr t0 t1)
 have HPP:Hid (∀ p ∈ rqs own bl rl t a b,0≤pr p):=hid (fun p hp=>by obtain⟨h1,_,h2,_⟩:=HFIT.out p hp;exact Int.mul_nonneg h1 h2)
 have HOK:=hid (And.intro (okLs_iff.1 (right_iff.1 hr).1).2 (okLs_iff.1 (right_iff.1 hr).2.1).2)
 have HA:=hid hA
 have HB:=hid hB
 have CL:=hid (fun W=>req_any own bl rl t A m c B k d W)
 unfold jobV at CL ⊢
 have HI:=hid (IW.start w #[.int .i64 own,.int .i64 bl,.int .i64 rl,.slice A m c,.slice B k d])
 clear hV hE hA hB hr HVE t0 t1
 refine(callsIn_wide (n:=8)).1 ?_
 refine callsIn_of_wp_marks Tryz.func161 rfl trivial ?_ rfl
 simp only[Tryz.ntmps161,List.size_toArray,List.length_cons,List.length_nil,Nat.reduceAdd,Nat.reduceSub,Array.replicate_succ,Array.replicate_zero,List.push_toArray,List.append_toArray,List.nil_append,List.cons_append]
 gi_wp2_with (refine⟨trivial,?_⟩;gi_at_call 183;refine(callsIn_wide.2 (CL.out _)).mono ?_;rintro e w1 ⟨rfl,rfl⟩)
 have hs4:((((w.alloc (.cells #[.int .i64 own,.int .i64 bl,.int .i64 rl,.slice A m c,.slice B k d] 236)).alloc (.cells #[.int .i64 0] 3)).alloc (.cells #[.int .i64 0] 34)).alloc (.cells #[.int .i64 0] 3)).heap.size=w.heap.size+1+1+1+1:=by simp
 generalize (((w.alloc (.cells #[.int .i64 own,.int .i64 bl,.int .i64 rl,.slice A m c,.slice B k d] 236)).alloc (.cells #[.int .i64 0] 3)).alloc (.cells #[.int .i64 0] 34)).alloc (.cells #[.int .i64 0] 3)=W4 at HI hs4 ⊢
 have HJB:Hid (Blk ((W4.alloc (.cells #[.int .i64 own,.int .i64 bl,.int .i64 rl,.slice A m c,.slice B k d] 236)).alloc (.cells #[.int .i64 t] 3)) (w.heap.size+1+1+1+1) #[.int .i64 own,.int .i64 bl,.int .i64 rl,.slice A m c,.slice B k d] 236):=hid (by have:=(Blk.new W4 #[.int .i64 own,.int .i64 bl,.int .i64 rl,.slice A m c,.slice B k d] 236).alloc (.cells #[.int .i64 t] 3);rw[hs4] at this;exact this)
 have HJN:Hid (Blk ((W4.alloc (.cells #[.int .i64 own,.int .i64 bl,.int .i64 rl,.slice A m c,.slice B k d] 236)).alloc (.cells #[.int .i64 t] 3)) (w.heap.size+1+1+1+1+1) #[.int .i64 t] 3):=hid (by have:=blk2 W4 (.cells #[.int .i64 own,.int .i64 bl,.int .i64 rl,.slice A m c,.slice B k d] 236) #[.int .i64 t] 3;rw[hs4] at this;exact this)
 have HI:=hid (HI.out.no (((But.refl No W4).alloc (.cells #[.int .i64 own,.int .i64 bl,.int .i64 rl,.slice A m c,.slice B k d] 236)).alloc (.cells #[.int .i64 t] 3)))
 have hsz:w.heap.size+6=((W4.alloc (.cells #[.int .i64 own,.int .i64 bl,.int .i64 rl,.slice A m c,.slice B k d] 236)).alloc (.cells #[.int .i64 t] 3)).heap.size:=by simp[hs4]
 generalize (W4.alloc (.cells #[.int .i64 own,.int .i64 bl,.int .i64 rl,.slice A m c,.slice B k d] 236)).alloc (.cells #[.int .i64 t] 3)=W0 at HI HJB HJN hsz ⊢
 clear hs4
 have HSA:Hid (0<m→∀ b off,A=some ⟨b,off,none⟩→¬(w.heap.size≤b∧b≠w.heap.size+1+1+1+1∧b≠w.heap.size+1+1+1+1+1)):=hid (fun h b off e=>by obtain⟨b',off',e',hl,_⟩:=HA.out.at_ h;rw[e] at e';cases e';omega)
 have HSB:Hid (0<k→∀ b off,B=some ⟨b,off,none⟩→¬(w.heap.size≤b∧b≠w.heap.size+1+1+1+1∧b≠w.heap.size+1+1+1+1+1)):=hid (fun h b off e=>by obtain⟨b',off',e',hl,_⟩:=HB.out.at_ h;rw[e] at e';cases e';omega)
 refine wpIn_rangeFunc_ownH rfl (by omega) (gf:=196) (lb:=#[.pointer (some ⟨w.heap.size+1+1+1+1,0,none⟩),.pointer (some ⟨w.heap.size+1+1+1+1+1,0,none⟩)]) rfl trivial (enters_of Tryz.func196 (by kernel_rfl) rfl)
  (req_stops (8-1) (by omega) (w.heap.size+1+1+1+1) (w.heap.size+1+1+1+1+1) own bl rl t A m c a B k d b W0 (HA.out.no (but_below HI.out.but)) (HB.out.no (but_below HI.out.but)) (fun z=>w.heap.size≤z∧z≠w.heap.size+1+1+1+1∧z≠w.heap.size+1+1+1+1+1) HSA.out HSB.out (by omega) (by omega) HOK.out.1 HOK.out.2 HRT.out.2.1 HRT.out.2.2 HJB.out HJN.out) But.trans (fun X l o o' hl ho hc _=>(But.refl _ X).grown (grownBy_putObj' _ l o') (fun z e=>by cases e;exact .inl ⟨by omega,by omega,by omega⟩)) (Below.refl _ _) (fun _=>rfl)
  (fun pre W=>IW w (tS pre) 0 0 W∧0≤tS pre∧tS pre≤4611686018427387904∧W0.heap.size≤W.heap.size)
  (fun c pre W=>c=.ret∧(∃ T,IW w T 0 2 W)∧4611686018427387904<tS pre)
  (fun s X Y row hs hg hr=>⟨hs.1.turn (by omega) hg hr,hs.2.1,hs.2.2.1,Nat.le_trans hs.2.2.2 hg.size⟩)
  (fun c s X Y row hs hg hr=>⟨hs.1,by obtain⟨T,h⟩:=hs.2.1;exact⟨T,h.turn (by omega) hg hr⟩,hs.2.2⟩)
  ⟨HI.out,by simp[tS,sR],by simp[tS,sR],Nat.le_refl _⟩
  (fun x a' W=>a' = { tmps:=#[.agg #[.int .i64 own,.int .i64 bl,.int .i64 rl,.slice A m c,.slice B k d],.int .i64 t,.pointer (some ⟨w.heap.size,0,none⟩),undef,.pointer (some ⟨w.heap.size+1,0,none⟩),.pointer (some ⟨w.heap.size+1+1,0,none⟩),.pointer (some ⟨w.heap.size+1+1+1,0,none⟩),.int .i64 x.1.1,.int .i64 x.1.2,undef,undef,.agg #[.int .i64 own,.int .i64 bl,.int .i64 rl,.slice A m c,.slice B k d],.int .i64 t,.func (.func 196) #[] #[.pointer (some ⟨w.heap.size+1+1+1+1,0,none⟩),.pointer (some ⟨w.heap.size+1+1+1+1+1,0,none⟩)],.int .i64 x.1.1,.int .i64 x.1.2,undef,undef,undef,undef,undef,undef,undef,undef,undef,undef,undef,undef,undef,undef,undef,undef,undef,undef],defers:=[] })
  (fun x a' _ X Y row hs hg hr=>hs)
  ?assign ?body ?done ?stop
 case assign =>
  rintro lp pre x W K hI hK
  gi_wp2
  exact hK _ _ (KeepsFrom.refl _ _) (But.refl _ _) hI rfl
 case body =>
  rintro lp pre x a' W hl ⟨r,hr⟩ ⟨hi,hp0,hp1,hpz⟩ rfl hlt
  obtain⟨hx0,hx1,hx2,hx3⟩:=HFIT.out x.1 x.2
  have CM:Hid (∀ W,Calls Tryz.prog 184 #[.int .i64 x.1.1,.int .i64 x.1.2] W fun e w'=>e=.returned (.tuple #[.int .i64 (qar.exV (pr x.1)),.int .i64 (qar.exE (pr x.1))])∧But No W w'):=hid (fun W=>(qar.mul_any x.1.1 x.1.2 hx1 hx3 W).mono fun e w' h=>⟨h.1,h.2.butNo⟩)
  have hy0:0≤pr x.1:=HPP.out x.1 x.2
  have HSN:=hid (tS_snoc pre x)
  have HBZ:=hid hi.but.size
  generalize tS pre=S at hi hp0 hp1 HSN
  generalize pr x.1=y at CM hy0 HSN
  clear hr hlt hl hx0 hx1 hx2 hx3
  have h1':1≤8-1-1:=by omega
  by_cases hy:9223372036854775807<y
  ·rw[qar.exV_out (show ¬inR y by unfold inR;omega),qar.exE_out (show ¬inR y by unfold inR;omega)] at CM
   gi_wp2_with (refine⟨trivial,?_⟩;gi_at_call 184;refine(CallsIn.inRound lp (callsIn_wide.2 (CM.out W))).mono ?_;rintro e w1 ⟨rfl,hb1⟩;have hi1:=hi.no hb1;have c1:=hi1.b1.cell (o:=0) rfl;have g1:=hi1.b1.frozen 0;have c2:=hi1.b2.cell (o:=0) rfl;have g2:=hi1.b2.frozen 0;have c3:=hi1.b3.cell (o:=0) rfl;have g3:=hi1.b3.frozen 0;have HI1:=hid hi1;have HB1:=hid hb1;clear hi1 hb1)
   refine⟨(((keeps_but HB1.out).trans (KeepsOthers.setCell _ _ _)).trans (KeepsOthers.setCell _ _ _)).from _,rfl,⟨S,HI1.out.res 0 2⟩,by rw[HSN.out];omega⟩
  ·rw[qar.exV_in (show inR y by unfold inR;omega),qar.exE_in (show inR y by unfold inR;omega)] at CM
   by_cases h9:4611686018427387904-S<y
   ·have q9:decide (4611686018427387904-S<y)=true:=by simp[h9]
    gi_wp2_with (refine⟨trivial,?_⟩;gi_at_call 184;refine(CallsIn.inRound lp (callsIn_wide.2 (CM.out W))).mono ?_;rintro e w1 ⟨rfl,hb1⟩;have hi1:=hi.no hb1;have c1:=hi1.b1.cell (o:=0) rfl;have g1:=hi1.b1.frozen 0;have c2:=hi1.b2.cell (o:=0) rfl;have g2:=hi1.b2.frozen 0;have c3:=hi1.b3.cell (o:=0) rfl;have g3:=hi1.b3.frozen 0;have HI1:=hid hi1;have HB1:=hid hb1;clear hi1 hb1)
    refine⟨(((keeps_but HB1.out).trans (KeepsOthers.setCell _ _ _)).trans (KeepsOthers.setCell _ _ _)).from _,rfl,⟨S,HI1.out.res 0 2⟩,by rw[HSN.out];omega⟩
   ·have q9:decide (4611686018427387904-S<y)=false:=by simp;omega
    have hs9:0≤S+y∧S+y≤4611686018427387904:=by omega
    gi_wp2_with (refine⟨trivial,?_⟩;gi_at_call 184;refine(CallsIn.inRound lp (callsIn_wide.2 (CM.out W))).mono ?_;rintro e w1 ⟨rfl,hb1⟩;have hi1:=hi.no hb1;have c1:=hi1.b1.cell (o:=0) rfl;have g1:=hi1.b1.frozen 0;have c2:=hi1.b2.cell (o:=0) rfl;have g2:=hi1.b2.frozen 0;have c3:=hi1.b3.cell (o:=0) rfl;have g3:=hi1.b3.frozen 0;have HI1:=hid hi1;have HB1:=hid hb1;clear hi1 hb1)
    refine⟨((keeps_but HB1.out).trans (KeepsOthers.setCell _ _ _)).from _,HB1.out.no.setCell (p:=⟨w.heap.size+1+1+1,0,none⟩) (by dsimp only;omega) _,by rw[HSN.out];exact HI1.out.set (S+y),by rw[HSN.out];omega,by rw[HSN.out];omega,?_⟩
    have:=HB1.out.size
    simp;omega
 case done =>
  rintro D ys W hD rfl ⟨hi,hp0,hp1,hpz⟩ hK
  rw[tS_all] at hi hp0 hp1
  have HV:=hid (HGO.out hp1)
  have hS:sR (rqs own bl rl t a b)=V:=HV.out.1
  rw[hS] at hi hp0 hp1
  clear hS
  obtain rfl:=HV.out.2
  have c1:=hi.b1.cell (o:=0) rfl
  have g1:=hi.b1.frozen 0
  have c2:=hi.b2.cell (o:=0) rfl
  have g2:=hi.b2.frozen 0
  have c3:=hi.b3.cell (o:=0) rfl
  have hi2:=hi.res V 0
  have hK2:=((KeepsOthers.setCell W ⟨w.heap.size+1,0,none⟩ (.int .i64 V)).trans (KeepsOthers.setCell (W.setCell ⟨w.heap.size+1,0,none⟩ (.int .i64 V)) ⟨w.heap.size+1+1,0,none⟩ (.int .i64 0))).same D _ hK rfl
  have hi3:=hi2.turn (B:=W0.heap.size) (by omega) (grownBy_putObj' _ D (.deferred none)) (fun r e=>by cases e;exact⟨hD,_,hK2,rfl⟩)
  have r6:=hi3.b1.cell (o:=0) rfl
  have r7:=hi3.b2.cell (o:=0) rfl
  gi_wp2
  refine⟨by simp,.inl ⟨_,_,rfl,run_takeDeferred hK2,?_⟩⟩
  exact⟨.tuple #[.int .i64 V,.int .i64 0],by simp[results,Tryz.results161,go_sem,r6,r7],rfl,but_below hi3.but⟩
 case stop =>
  rintro D c' pre W hD hp ⟨rfl,⟨T,hi⟩,hgt⟩ hK
  have hle:=tS_le HPP.out hp
  have HV:=hid (HOV.out (by omega))
  obtain rfl:=HV.out.1
  obtain rfl:=HV.out.2
  have hi3:=hi.turn (B:=W0.heap.size) (by omega) (grownBy_putObj' _ D (.deferred none)) (fun r e=>by cases e;exact⟨hD,_,hK,rfl⟩)
  have r6:=hi3.b1.cell (o:=0) rfl
  have r7:=hi3.b2.cell (o:=0) rfl
  gi_wp2
  refine⟨by simp,.inl ⟨_,_,rfl,run_takeDeferred hK,?_⟩⟩
  exact⟨.tuple #[.int .i64 0,.int .i64 2],by simp[results,Tryz.results161,go_sem,r6,r7],rfl,but_below hi3.but⟩
end Go.Proofs.YtikcigjbhohboaaGreat.rsp
end
section
namespace Go.Proofs.YtikcigjbhohboaaGreat.rsp
open Go.Lib (hid)
open Go.ChangeShapes Go.WideShapes Go.ChangeAt Go.RowKit Go.Deep
set_option maxRecDepth 100000 in
set_option maxHeartbeats 4000000 in
theorem settle_any (own bl rl limit:Int) (A:Option Addr) (m c:Nat) (a:List Ld) (B:Option Addr) (k d:Nat) (b:List Ld) (w:World) (hA:RLd w A m a) (hB:RLd w B k b) (hr:right own bl rl a b=true) (hl0:1≤limit) (hl1:limit≤1099511627776) :
  Calls Tryz.prog 160 #[.func (.func 161) #[jobV own bl rl A m c B k d] #[],.int .i64 limit] w fun e w'=>e=.returned (.tuple #[.int .i64 (bnP own bl rl a b limit).1,.int .i64 (bnP own bl rl a b limit).2])∧But No w w':=by
 have CW:Hid (∀ t W,0≤t→t≤4611686018427387904→But No w W→Calls Tryz.prog 161 #[jobV own bl rl A m c B k d,.int .i64 t] W fun e w'=>e=.returned (.tuple #[.int .i64 (wiV own bl rl a b t),.int .i64 (wiE own bl rl a b t)])∧But No W w'):=hid (fun t W h0 h1 hb=>jwithin_any own bl rl t A m c a B k d b W (hA.no hb) (hB.no hb) hr h0 h1)
 have HGO:Hid (bnGo own bl rl a b limit 5000 1=bnP own bl rl a b limit):=hid (by unfold bnP;rw[if_pos ⟨hr,hl0,hl1⟩])
 generalize bnP own bl rl a b limit=Z at HGO ⊢
 generalize jobV own bl rl A m c B k d=JV at CW ⊢
 clear hA hB hr
 go_enter Tryz.func160,Tryz.ntmps160
 go_wp2_with fail
 go_loopw [6,9] (fun v s wr=>∃ (mv:Int) (q:Nat),v=.int .i64 mv∧s=.int .i64 (q:Int)∧q≤5000∧1≤mv∧mv≤1099511627776∧Hid (bnGo own bl rl a b limit (5000-q) mv=Z)∧Hid (But No w wr)) (fun _ s _=>5000-(intOf s).toNat)
 case atStart=>exact⟨1,0,rfl,rfl,by omega,by omega,by omega,HGO.out,But.refl No w⟩
 case round =>
  obtain⟨mv,q,rfl,rfl,hq,hm1,hm2,HG,HBR⟩:=hrel
  have hq0:(0:Int)≤(q:Int):=Int.natCast_nonneg q
  by_cases hq5:q<5000
  ·have b3:decide ((q:Int)<5000)=true:=by simp;omega
   have HG':Hid ((if wiE own bl rl a b mv≠0 then ((0:Int),wiE own bl rl a b mv) else if wiV own bl rl a b mv≤mv then (mv,0) else if limit<wiV own bl rl a b mv then (0,12) else bnGo own bl rl a b limit (5000-(q+1)) (wiV own bl rl a b mv))=Z):=hid (by
    have h9:=HG.out
    rw[show 5000-q=(5000-(q+1))+1 by omega,bnGo] at h9
    exact h9)
   have CW:Hid (∀ W,But No w W→Calls Tryz.prog 161 #[JV,.int .i64 mv] W fun e w'=>e=.returned (.tuple #[.int .i64 (wiV own bl rl a b mv),.int .i64 (wiE own bl rl a b mv)])∧But No W w'):=hid (fun W hb=>CW.out mv W (by omega) (by omega) hb)
   have HC:=hid (wi_cases own bl rl a b mv)
   generalize wiV own bl rl a b mv=V at CW HG' HC
   generalize wiE own bl rl a b mv=E at CW HG' HC
   have hE:E=0∨E=1∨E=2:=by rcases HC.out with⟨e,_⟩ | ⟨_,_,e,_⟩ | ⟨_,_,e,_⟩ <;> omega
   have hV:inR V:=by
    rcases HC.out with⟨_,e,_⟩ | ⟨_,_,_,e⟩ | ⟨⟨h1,h2,_⟩,h3,_,e⟩
    ·rw[e];unfold inR;omega
    ·rw[e];unfold inR;omega
    ·rw[e];have:=wi_pos h1 h2;unfold inR;omega
   clear HG HC
   by_cases he:E=0
   ·have q1:(E != 0)=false:=by simp[he]
    rw[if_neg (by simp[he])] at HG'
    clear he hE
    by_cases h1:V≤mv
    ·have q2:decide (V≤mv)=true:=by simp[h1]
     rw[if_pos h1] at HG'
     clear h1
     go_wp2_with (go_at_call 161;(with_reducible refine(CW.out _ HBR.out).mono ?_);rintro e w2 ⟨rfl,hb2⟩;have HB2:=hid (HBR.out.trans hb2);clear hb2)
     go_ret2
     exact⟨retp (by rw[←HG'.out]) (by rw[←HG'.out]),HB2.out⟩
    ·have q2:decide (V≤mv)=false:=by simp;omega
     rw[if_neg h1] at HG'
     by_cases h2:limit<V
     ·have q3:decide (limit<V)=true:=by simp[h2]
      rw[if_pos h2] at HG'
      clear h1 h2
      go_wp2_with (go_at_call 161;(with_reducible refine(CW.out _ HBR.out).mono ?_);rintro e w2 ⟨rfl,hb2⟩;have HB2:=hid (HBR.out.trans hb2);clear hb2)
      go_ret2
      exact⟨retp (by rw[←HG'.out]) (by rw[←HG'.out]),HB2.out⟩
     ·have q3:decide (limit<V)=false:=by simp;omega
      rw[if_neg h2] at HG'
      have hV1:1≤V:=by omega
      have hV2:V≤1099511627776:=by omega
      clear h1 h2
      go_wp2_with (go_at_call 161;(with_reducible refine(CW.out _ HBR.out).mono ?_);rintro e w2 ⟨rfl,hb2⟩;have HB2:=hid (HBR.out.trans hb2);clear hb2)
      go_roundw
      case rel=>exact⟨V,q+1,rfl,by go_num,by omega,hV1,hV2,HG'.out,HB2.out⟩
      case measure=>simp[intOf];omega
   ·have q1:(E != 0)=true:=by simp[he]
    rw[if_pos he] at HG'
    clear he hE
    go_wp2_with (go_at_call 161;(with_reducible refine(CW.out _ HBR.out).mono ?_);rintro e w2 ⟨rfl,hb2⟩;have HB2:=hid (HBR.out.trans hb2);clear hb2)
    go_ret2
    exact⟨retp (by rw[←HG'.out]) (by rw[←HG'.out]),HB2.out⟩
  ·have b3:decide ((q:Int)<5000)=false:=by simp;omega
   have HG':Hid (((0:Int),(11:Int))=Z):=hid (by
    have h9:=HG.out
    rw[show 5000-q=0 by omega,bnGo] at h9
    exact h9)
   go_wp2
   go_ret2
   exact⟨retp (by rw[←HG'.out]) (by rw[←HG'.out]),HBR.out⟩
set_option maxRecDepth 100000 in
set_option maxHeartbeats 4000000 in
theorem bound_any (A:Option Addr) (m c:Nat) (a:List Ld) (B:Option Addr) (k d:Nat) (b:List Ld) (own bl rl limit:Int) (w:World) (hA:RLd w A m a) (hB:RLd w B k b) (_:inR own) (_:inR bl) (_:inR rl) (_:inR limit):Calls Tryz.prog 137 #[.int .i64 own,.int .i64 bl,.int .i64 rl,.slice A m c,.slice B k d,.int .i64 limit] w fun e w'=>e=.returned (.tuple #[.int .i64 (bnP own bl rl a b limit).1,.int .i64 (bnP own bl rl a b limit).2])∧But No w w':=by
 have HBO:Hid (But No w (w.alloc (.cells #[.int .i64 own,.int .i64 bl,.int .i64 rl,.slice A m c,.slice B k d] 236))):=hid ((But.refl No w).alloc _)
 have BK:=hid (Blk.new w #[.int .i64 own,.int .i64 bl,.int .i64 rl,.slice A m c,.slice B k d] 236)
 have CR:Hid (∀ W,But No w W→Calls Tryz.prog 158 #[jobV own bl rl A m c B k d] W fun e w'=>e=.returned (.bool (right own bl rl a b))∧But No W w'):=hid (fun W hb=>jright_any own bl rl A m c a B k d b W (hA.no hb) (hB.no hb))
 have c0:=(Blk.new w #[.int .i64 own,.int .i64 bl,.int .i64 rl,.slice A m c,.slice B k d] 236).cell (o:=0) rfl
 have c1:=(Blk.new w #[.int .i64 own,.int .i64 bl,.int .i64 rl,.slice A m c,.slice B k d] 236).cell (o:=1) rfl
 have c2:=(Blk.new w #[.int .i64 own,.int .i64 bl,.int .i64 rl,.slice A m c,.slice B k d] 236).cell (o:=2) rfl
 have c3:=(Blk.new w #[.int .i64 own,.int .i64 bl,.int .i64 rl,.slice A m c,.slice B k d] 236).cell (o:=3) rfl
 have c4:=(Blk.new w #[.int .i64 own,.int .i64 bl,.int .i64 rl,.slice A m c,.slice B k d] 236).cell (o:=4) rfl
 have hmf:∀ (fn:Fn) (first cap:Array Value) (w:World),(Instr.makeFunc fn first cap).run Tryz.prog w=.ok (.func fn first cap) w:=fun _ _ _ _=>rfl
 have CI:Hid (∀ W,Calls Tryz.prog 159 #[.int .i64 1,.int .i64 limit] W fun e w'=>e=.returned (.bool (inT 1 limit))∧w'=W):=hid (fun W=>inside_any 1 limit W)
 by_cases hg:right own bl rl a b=true∧1≤limit∧limit≤1099511627776
 ·have CW:Hid (∀ W,But No w W→Calls Tryz.prog 160 #[.func (.func 161) #[jobV own bl rl A m c B k d] #[],.int .i64 limit] W fun e w'=>e=.returned (.tuple #[.int .i64 (bnP own bl rl a b limit).1,.int .i64 (bnP own bl rl a b limit).2])∧But No W w'):=hid (fun W hb=>settle_any own bl rl limit A m c a B k d b W (hA.no hb) (hB.no hb) hg.1 hg.2.1 hg.2.2)
  generalize (bnP own bl rl a b limit).1=V at CW ⊢
  generalize (bnP own bl rl a b limit).2=E at CW ⊢
  rw[inT_true.2 hg.2] at CI
  rw[hg.1] at CR
  unfold jobV at CR CW
  clear hg hA hB
  go_enter Tryz.func137,Tryz.ntmps137
  go_wp2_with (first | (go_at_call 158;(with_reducible refine(CR.out _ HBO.out).mono ?_);rintro e w1 ⟨rfl,hb1⟩;have BK1:=BK.out.but hb1 (fun f=>f);have c0:=BK1.cell (o:=0) rfl;have c1:=BK1.cell (o:=1) rfl;have c2:=BK1.cell (o:=2) rfl;have c3:=BK1.cell (o:=3) rfl;have c4:=BK1.cell (o:=4) rfl;have HB1:=hid (HBO.out.trans hb1);clear hb1 BK1) | (go_at_call 159;(with_reducible refine(CI.out _).mono ?_);rintro e wI ⟨rfl,rfl⟩) | (go_at_call 160;(with_reducible refine(CW.out _ HB1.out).mono ?_);rintro e w2 ⟨rfl,hb2⟩;have HB2:=hid (HB1.out.trans hb2);clear hb2))
  go_ret2
  exact⟨rfl,HB2.out⟩
 ·have HE:Hid (bnP own bl rl a b limit=(0,1)):=hid (by unfold bnP;rw[if_neg hg])
  generalize bnP own bl rl a b limit=Z at HE ⊢
  cases hr:right own bl rl a b with
  | false =>
   rw[hr] at CR
   unfold jobV at CR
   clear hr hg hA hB
   go_enter Tryz.func137,Tryz.ntmps137
   go_wp2_with (go_at_call 158;(with_reducible refine(CR.out _ HBO.out).mono ?_);rintro e w1 ⟨rfl,hb1⟩;have BK1:=BK.out.but hb1 (fun f=>f);have c0:=BK1.cell (o:=0) rfl;have c1:=BK1.cell (o:=1) rfl;have c2:=BK1.cell (o:=2) rfl;have c3:=BK1.cell (o:=3) rfl;have c4:=BK1.cell (o:=4) rfl;have HB1:=hid (HBO.out.trans hb1);clear hb1 BK1)
   go_ret2
   exact⟨retp (by rw[HE.out]) (by rw[HE.out]),HB1.out⟩
  | true =>
   have hi:inT 1 limit=false:=by
    cases e:inT 1 limit with
    | false=>rfl
    | true=>exact absurd ⟨hr,inT_true.1 e⟩ hg
   rw[hi] at CI
   rw[hr] at CR
   unfold jobV at CR
   clear hr hg hA hB hi
   go_enter Tryz.func137,Tryz.ntmps137
   go_wp2_with (first | (go_at_call 158;(with_reducible refine(CR.out _ HBO.out).mono ?_);rintro e w1 ⟨rfl,hb1⟩;have BK1:=BK.out.but hb1 (fun f=>f);have c0:=BK1.cell (o:=0) rfl;have c1:=BK1.cell (o:=1) rfl;have c2:=BK1.cell (o:=2) rfl;have c3:=BK1.cell (o:=3) rfl;have c4:=BK1.cell (o:=4) rfl;have HB1:=hid (HBO.out.trans hb1);clear hb1 BK1) | (go_at_call 159;(with_reducible refine(CI.out _).mono ?_);rintro e wI ⟨rfl,rfl⟩))
   go_ret2
   exact⟨retp (by rw[HE.out]) (by rw[HE.out]),HB1.out⟩
end Go.Proofs.YtikcigjbhohboaaGreat.rsp
end
