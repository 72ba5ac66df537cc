/- Part 8 of a proof: PlR4 PlO. -/
import Derived.Deep.RegionHeld3
import Derived.Test.YtikcigjbhohboaaGreatM06
import Derived.Test.YtikcigjbhohboaaGreatM07
section
namespace Go.Proofs.YtikcigjbhohboaaGreat.pln
open Go.Lib (hid)
open Go.ChangeShapes Go.WideShapes Go.ChangeAt Go.RowKit Go.Deep val
def ts0 : Tsk:=⟨0,0,0, []⟩
def tL (c:Int) (l:List Pc):Nat→Int
 | 0=>0
 | k+1=>tL c l k+if (l.getD k pc0).ti=true∧(l.getD k pc0).co=c then 1 else 0
def uL (c:Int) (l:List Pc):Nat→Int
 | 0=>0
 | k+1=>uL c l k+if (l.getD k pc0).co=c then 1 else 0
def tN (L:List (List Pc)) (c:Int):Nat→Int
 | 0=>0
 | i+1=>tN L c i+tL c (L.getD i []) (L.getD i []).length
def uN (s:Sys) (L:List (List Pc)) (c:Int):Nat→Int
 | 0=>0
 | i+1=>uN s L c i+if 0<(s.ts.getD i ts0).secs.length then uL c (L.getD i []) (L.getD i []).length else 0
def okS (s:Sys) (L:List (List Pc)):Nat→Bool
 | 0=>true
 | i+1=>okS s L i && okL s (s.ts.getD i ts0) (L.getD i [])
def okC (s:Sys) (L:List (List Pc)):Nat→Bool
 | 0=>true
 | c+1=>okC s L c && !(decide (1<tN L c L.length) || (decide (tN L c L.length=1) && decide (0<uN s L c L.length)))
def plR (s:Sys) (L:List (List Pc)):Bool:=right s && (decide (L.length=s.ts.length) && (okS s L L.length && okC s L s.co.toNat))
theorem tL_bd (c:Int) (l:List Pc):∀ k,0≤tL c l k∧tL c l k≤k
 | 0=>by rw[tL];omega
 | k+1=>by have:=tL_bd c l k;rw[tL];split <;> omega
theorem uL_bd (c:Int) (l:List Pc):∀ k,0≤uL c l k∧uL c l k≤k
 | 0=>by rw[uL];omega
 | k+1=>by have:=uL_bd c l k;rw[uL];split <;> omega
theorem okL_len {s:Sys} {t:Tsk} {l:List Pc} (h:okL s t l=true):l.length≤8:=by
 unfold okL at h;rw[Bool.and_eq_true] at h;simpa using h.1
theorem getL {L:List (List Pc)} {i:Nat} {l:List Pc} (h:L[i]? = some l):L.getD i []=l:=by simp[List.getD,h]
theorem getT {s:Sys} {i:Nat} {t:Tsk} (h:s.ts[i]? = some t):s.ts.getD i ts0=t:=by simp[List.getD,h]
theorem okS_le {s:Sys} {L:List (List Pc)} {i j:Nat} (hij:i≤j) (h:okS s L j=true):okS s L i=true:=by
 induction j with
 | zero =>
      obtain rfl:i=0:=by omega
      exact h
 | succ j ih =>
  by_cases e:i=j+1
  ·rw[e];exact h
  ·rw[okS,Bool.and_eq_true] at h;exact ih (by omega) h.1
theorem okC_le {s:Sys} {L:List (List Pc)} {i j:Nat} (hij:i≤j) (h:okC s L j=true):okC s L i=true:=by
 induction j with
 | zero =>
      obtain rfl:i=0:=by omega
      exact h
 | succ j ih =>
  by_cases e:i=j+1
  ·rw[e];exact h
  ·rw[okC,Bool.and_eq_true] at h;exact ih (by omega) h.1
theorem plR_list {s:Sys} {L:List (List Pc)} {i:Nat} {t:Tsk} {l:List Pc} (ht:s.ts[i]? = some t) (hl:L[i]? = some l) (h:okL s t l=false):plR s L=false:=by
 have hi:i<L.length:=(List.getElem?_eq_some_iff.1 hl).1
 have h1:okS s L (i+1)=false:=by rw[okS,getL hl,getT ht,h];simp
 have h2:okS s L L.length=false:=by
  cases e:okS s L L.length with
  | false=>rfl
  | true=>rw[okS_le (show i+1≤L.length by omega) e] at h1;cases h1
 unfold plR;rw[h2];simp
theorem plR_core {s:Sys} {L:List (List Pc)} {c:Nat} (hc:c<s.co.toNat) (h:1<tN L c L.length∨tN L c L.length=1∧0<uN s L c L.length):plR s L=false:=by
 have h1:okC s L (c+1)=false:=by
  rw[okC]
  rcases h with h | ⟨h,h'⟩
  ·simp[h]
  ·simp[h,h']
 have h2:okC s L s.co.toNat=false:=by
  cases e:okC s L s.co.toNat with
  | false=>rfl
  | true=>rw[okC_le (show c+1≤s.co.toNat by omega) e] at h1;cases h1
 unfold plR;rw[h2];simp
theorem vals_made1 {w:World} {b n:Nat} {e:TypeId} {z:Value} (hz:z.cells = #[z]) (h:w.ownsRow 0 e 1 (.slice (some ⟨b,0,none⟩) n n) n (madeCells z.cells (n*1)).toList):Vals w b e n (fun _=>z):=by
 obtain⟨h1,h2⟩:=h
 rcases h2 with⟨h2,_⟩ | ⟨g,cap,cur,hv,_,hh,hn,hc,hs,ht⟩
 ·cases h2
 ·cases hv
  have e:cur=((List.range n).map (fun _=>z)).toArray:=by
   apply Array.ext'
   have e1:cur.toList.take (n*1)=cur.toList:=List.take_of_length_le (by simp;omega)
   rw[e1] at ht
   rw[ht]
   apply List.ext_getElem?
   intro j
   by_cases hj:j<n
   ·simp[madeCells,hj,hz,Nat.mod_one]
   ·simp[madeCells,hj]
  show w.heap[b]? = _
  rw[hh,e]
structure CT (w1 wr:World) (b6 b7 m:Nat) (f g:Nat→Int):Prop where
 v6:Vals wr b6 3 m (fun c=>.int .i64 (f c))
 v7:Vals wr b7 3 m (fun c=>.int .i64 (g c))
 h6:w1.heap.size≤b6
 h7:w1.heap.size≤b7
 ne:b6≠b7
 but:But No w1 wr
theorem CT.no {w1 wr w2:World} {b6 b7 m:Nat} {f g:Nat→Int} (h:CT w1 wr b6 b7 m f g) (hb:But No wr w2):CT w1 w2 b6 b7 m f g:=⟨h.v6.but hb (fun f=>f),h.v7.but hb (fun f=>f),h.h6,h.h7,h.ne,h.but.trans hb⟩
theorem CT.set6 {w1 wr:World} {b6 b7 m k:Nat} {f g f':Nat→Int} (h:CT w1 wr b6 b7 m f g) (v:Int) (he:∀ j,j<m→f' j=if j=k then v else f j):CT w1 (wr.setCell ⟨b6,k,none⟩ (.int .i64 v)) b6 b7 m f' g :=
 ⟨(h.v6.set _).congr (fun j hj=>by rw[he j hj];split <;> rfl),Blk.other h.v7 (a:=⟨b6,k,none⟩) (fun e=>h.ne e.symm) _,h.h6,h.h7,h.ne,h.but.setNew h.h6 _⟩
theorem CT.set7 {w1 wr:World} {b6 b7 m k:Nat} {f g g':Nat→Int} (h:CT w1 wr b6 b7 m f g) (v:Int) (he:∀ j,j<m→g' j=if j=k then v else g j):CT w1 (wr.setCell ⟨b7,k,none⟩ (.int .i64 v)) b6 b7 m f g' :=
 ⟨Blk.other h.v6 (a:=⟨b7,k,none⟩) (fun e=>h.ne e) _,(h.v7.set _).congr (fun j hj=>by rw[he j hj];split <;> rfl),h.h6,h.h7,h.ne,h.but.setNew h.h7 _⟩
theorem CT.congr {w1 wr:World} {b6 b7 m:Nat} {f g f' g':Nat→Int} (h:CT w1 wr b6 b7 m f g) (hf:∀ j,j<m→f' j=f j) (hg:∀ j,j<m→g' j=g j):CT w1 wr b6 b7 m f' g' :=
 ⟨h.v6.congr (fun j hj=>by rw[hf j hj]),h.v7.congr (fun j hj=>by rw[hg j hj]),h.h6,h.h7,h.ne,h.but⟩
theorem tL_next {c:Int} {l:List Pc} {k:Nat} {x:Pc} (h:l[k]? = some x):tL c l (k+1)=tL c l k+if x.ti=true∧x.co=c then 1 else 0:=by rw[tL,getD_some h]
theorem uL_next {c:Int} {l:List Pc} {k:Nat} {x:Pc} (h:l[k]? = some x):uL c l (k+1)=uL c l k+if x.co=c then 1 else 0:=by rw[uL,getD_some h]
theorem tN_next {L:List (List Pc)} {c:Int} {i:Nat} {l:List Pc} (h:L[i]? = some l):tN L c (i+1)=tN L c i+tL c l l.length:=by rw[tN,getL h]
theorem uN_next {s:Sys} {L:List (List Pc)} {c:Int} {i:Nat} {l:List Pc} {t:Tsk} (h:L[i]? = some l) (ht:s.ts[i]? = some t):uN s L c (i+1)=uN s L c i+if 0<t.secs.length then uL c l l.length else 0:=by rw[uN,getL h,getT ht]
theorem okL_core {s:Sys} {t:Tsk} {l:List Pc} {k:Nat} {x:Pc} (h:okL s t l=true) (hx:l[k]? = some x):0≤x.co∧x.co<s.co:=by
 have hk:k<l.length:=(List.getElem?_eq_some_iff.1 hx).1
 unfold okL at h
 simp only[Bool.and_eq_true] at h
 have h1:=okN_le (show k+1≤l.length by omega) h.2.1
 rw[okN,getD_some hx,Bool.and_eq_true] at h1
 have h2:=h1.2
 unfold badP bad1 at h2
 simp only[Bool.not_eq_true',Bool.or_eq_false_iff,decide_eq_false_iff_not] at h2
 omega
theorem right_nums {s:Sys} (h:right s=true):(1≤s.co∧s.co≤8)∧(1≤s.la∧s.la≤50)∧s.ts.length≤24∧∀ t ∈ s.ts,(1≤t.w∧t.w≤1099511627776)∧1≤t.d∧t.d≤1099511627776:=by
 obtain⟨h1,h2⟩:=right_parts h
 have h3:=h1
 unfold vWhole at h3
 simp only[Bool.and_eq_true,wi_true] at h3
 refine⟨by omega,by omega,by omega,fun t ht=>?_⟩
 have h4:=h2 t ht
 unfold vTsk vHead at h4
 simp only[Bool.and_eq_true,wi_true] at h4
 omega
set_option maxRecDepth 100000 in
set_option maxHeartbeats 8000000 in
theorem rplan_any (s:Sys) (A:Option Addr) (n c:Nat) (A':Option Addr) (N c':Nat) (L:List (List Pc)) (w:World) (hs:RSys w A n c s) (hl:RPl w A' N L):Calls Tryz.prog 59 #[sysV s A n c,.slice A' N c'] w fun e w'=>e=.returned (.bool (plR s L))∧But No w w':=by
 have HN:=hid hl.len
 have hTN:=hs.ts.len
 have hNmax:=hl.max
 have hb0:But No w (w.alloc (.cells (boxS s A n c) 24)):=(But.refl No w).alloc _
 have CR:=hid (dright_any s A n c _ (hs.no hb0))
 have HB0:=hid hb0
 have BS:=hid (Blk.new w (boxS s A n c) 24)
 have HS:=hid hs
 have HL:=hid hl
 have k0:=sys_cells (Blk.new w (boxS s A n c) 24)
 obtain⟨i3,hi0,hz0,hz1,hz2⟩:=info_parts info3
 have I3:Hid (Tryz.prog.info? 3=some i3∧i3.zero=some (.int .i64 0)∧i3.size=1∧i3.bytes=8):=⟨hi0,hz0,hz1,hz2⟩
 clear hs hl hb0 hi0 hz0 hz1 hz2
 unfold sysV at CR ⊢
 cases hr:right s with
 | false =>
  have HE:Hid (plR s L=false):=hid (by unfold plR;rw[hr];rfl)
  rw[hr] at CR
  clear hr
  unfold boxS at HB0 k0 CR
  go_enter Tryz.func59,Tryz.ntmps59
  go_wp2_with (go_at_call 91;(with_reducible refine CR.out.mono ?_);rintro e w1 ⟨rfl,hb1⟩;have HB1:=hid (HB0.out.trans hb1);clear hb1)
  go_ret
  exact⟨ret_bool HE.out.symm,HB1.out⟩
 | true =>
  obtain⟨hc8,hla,hts,hnum⟩:=right_nums hr
  have HNUM:=hid hnum
  have HR:=hid hr
  rw[hr] at CR
  clear hr hnum
  by_cases hlen:N=n
  ·subst hlen
   obtain⟨m,hco⟩:∃ m:Nat,s.co=(m:Int):=⟨s.co.toNat,by omega⟩
   have hm8:m≤8:=by omega
   have hm1:1≤m:=by omega
   have HCO:=hid hco
   clear hco
   have hN24:N≤24:=by omega
   have d1:((N:Int) != (N:Int))=false:=by simp
   have BK:Hid (∀ W,But No (w.alloc (.cells (boxS s A N c) 24)) W→S9 W w.heap.size s A N c):=hid (fun W hb=>sys_cells (BS.out.but hb (fun f=>f)))
   unfold boxS at HB0 k0 CR BK
   go_enter Tryz.func59,Tryz.ntmps59
   go_upto_region 6 with(first
    | (go_at_call 91;(with_reducible refine CR.out.mono ?_);rintro e w1 ⟨rfl,hb1⟩;obtain⟨f0,_,_,_,_,_,_,_,f8⟩:=BK.out _ hb1;have HBK:=hid hb1;have HB1:=hid (HB0.out.trans hb1);clear hb1)
    | (at_make;have hv6:=HV6;refine wpList_make_full _ rfl _ _ 26 rfl 0 3 i3 _ 1 Tryz.underlying26 I3.out.1 I3.out.2.1 I3.out.2.2.1 .i64 .i64 _ _ m rfl rfl HCO.out HCO.out (by rw[I3.out.2.2.2];omega) (by unfold maxLen;omega) (Nat.zero_le _) ?_;intro w3 hown hgrow;have hb3:=(But.refl No w2).grown hgrow (fun k e=>by cases e);have HCT:Hid (CT w1 w3 w1.heap.size w2.heap.size m (fun _=>0) (fun _=>0)):=hid ⟨HV6.out.but hb3 (fun f=>f),vals_made1 rfl hown,Nat.le_refl _,HB2.out.size,Nat.ne_of_lt HV6.out.lt,HB2.out.trans hb3⟩;clear hown hgrow hb3)
    | (at_make;refine wpList_make_full _ rfl _ _ 26 rfl 0 3 i3 _ 1 Tryz.underlying26 I3.out.1 I3.out.2.1 I3.out.2.2.1 .i64 .i64 _ _ m rfl rfl HCO.out HCO.out (by rw[I3.out.2.2.2];omega) (by unfold maxLen;omega) (Nat.zero_le _) ?_;intro w2 hown hgrow;have hb2:=(But.refl No w1).grown hgrow (fun k e=>by cases e);have HV6:Hid (Vals w2 w1.heap.size 3 m (fun _=>.int .i64 0)):=hid (vals_made1 rfl hown);have HB2:=hid hb2;have g0:=cell_keep f0 hb2;clear hown hgrow hb2))
   generalize w1.heap.size=b6 at HCT ⊢
   generalize w2.heap.size=b7 at HCT ⊢
   have BK1:Hid (∀ W,But No w1 W→S9 W w.heap.size s A N c):=hid (fun W hb=>BK.out W (HBK.out.trans hb))
   clear f0 f8 g0 HV6 HB2 CR BS BK k0 I3
   go_wp2_with fail
   go_loopw [8] (fun i wr=>∃ q:Nat,i=.int .i64 (q:Int)∧q≤N∧Hid (okS s L q=true)∧Hid (CT w1 wr b6 b7 m (fun c=>tN L c q) (fun c=>uN s L c q))∧Hid (∀ c,(0≤tN L c q∧tN L c q≤8*q)∧0≤uN s L c q∧uN s L c q≤8*q)) (fun i _=>N-(intOf i).toNat)
   case atStart=>exact⟨0,rfl,by omega,rfl,HCT.out,fun c=>⟨⟨Int.le_refl 0,by rw[tN];omega⟩,Int.le_refl 0,by rw[uN];omega⟩⟩
   case round =>
    obtain⟨q,rfl,hq,HOS,HC,HBD⟩:=hrel
    clear HCT
    have hq0:(0:Int)≤(q:Int):=Int.natCast_nonneg q
    obtain⟨k0,k1,k2,k3,k4,k5,k6,k7,k8⟩:=BK1.out _ HC.out.but
    by_cases hqN:q<N
    ·have hqN2:(q:Int)<(N:Int):=by omega
     obtain⟨l,hl⟩:∃ l,L[q]? = some l:=⟨_,List.getElem?_eq_getElem (by rw[HN.out];exact hqN)⟩
     obtain⟨t,ht⟩:∃ t,s.ts[q]? = some t:=⟨_,List.getElem?_eq_getElem (by omega)⟩
     obtain⟨bL,offL,AL,cL,rfl,_,e00,_,hpc⟩:=HL.out.at1 hl
     have HE00:=hid e00
     have e0:=cell_keep e00 (HB1.out.trans HC.out.but)
     have HPC:=hid hpc
     have HLX:=hid hl
     have HTX:=hid ht
     have HNT:=hid (HNUM.out t (List.mem_of_getElem? ht))
     clear hl ht hpc e00
     have KP:Hid (∀ W,But No wr W→(W.cell? ⟨w.heap.size,0,none⟩=some (.int .i64 s.co)∧W.cell? ⟨w.heap.size,1,none⟩=some (.int .i64 s.po)∧W.cell? ⟨w.heap.size,2,none⟩=some (.int .i64 s.pr)∧W.cell? ⟨w.heap.size,3,none⟩=some (.int .i64 s.re)∧W.cell? ⟨w.heap.size,4,none⟩=some (.int .i64 s.sw)∧W.cell? ⟨w.heap.size,5,none⟩=some (.int .i64 s.fi)∧W.cell? ⟨w.heap.size,6,none⟩=some (.int .i64 s.la)∧W.cell? ⟨w.heap.size,7,none⟩=some (.int .i64 s.rs)∧W.cell? ⟨w.heap.size,8,none⟩=some (.slice A N c))∧W.cell? ⟨bL,offL+q,none⟩=some (.slice AL l.length cL)∧But No wr W):=hid (fun W hb=>⟨⟨cell_keep k0 hb,cell_keep k1 hb,cell_keep k2 hb,cell_keep k3 hb,cell_keep k4 hb,cell_keep k5 hb,cell_keep k6 hb,cell_keep k7 hb,cell_keep k8 hb⟩,cell_keep e0 hb,hb⟩)
     have CL:Hid (∀ W,(W.cell? ⟨w.heap.size,0,none⟩=some (.int .i64 s.co)∧W.cell? ⟨w.heap.size,1,none⟩=some (.int .i64 s.po)∧W.cell? ⟨w.heap.size,2,none⟩=some (.int .i64 s.pr)∧W.cell? ⟨w.heap.size,3,none⟩=some (.int .i64 s.re)∧W.cell? ⟨w.heap.size,4,none⟩=some (.int .i64 s.sw)∧W.cell? ⟨w.heap.size,5,none⟩=some (.int .i64 s.fi)∧W.cell? ⟨w.heap.size,6,none⟩=some (.int .i64 s.la)∧W.cell? ⟨w.heap.size,7,none⟩=some (.int .i64 s.rs)∧W.cell? ⟨w.heap.size,8,none⟩=some (.slice A N c))∧W.cell? ⟨bL,offL+q,none⟩=some (.slice AL l.length cL)∧But No wr W→Calls Tryz.prog 92 #[(.agg #[.int .i64 s.co,.int .i64 s.po,.int .i64 s.pr,.int .i64 s.re,.int .i64 s.sw,.int .i64 s.fi,.int .i64 s.la,.int .i64 s.rs,.slice A N c]),.int .i64 (q:Int),.slice AL l.length cL] W fun e w'=>e=.returned (.bool (okL s t l))∧But No W w'):=hid (fun W h=>by
      have hb:=h.2.2
      have h9:=rlist_any s A N c q t AL l.length cL l W (HS.out.no (HB1.out.trans (HC.out.but.trans hb))) HTX.out (HPC.out.no (HB1.out.trans (HC.out.but.trans hb))) HNT.out.1 HNT.out.2 hla
      unfold sysV at h9
      exact h9)
     have KS:Hid (∀ W w4,(W.cell? ⟨w.heap.size,0,none⟩=some (.int .i64 s.co)∧W.cell? ⟨w.heap.size,1,none⟩=some (.int .i64 s.po)∧W.cell? ⟨w.heap.size,2,none⟩=some (.int .i64 s.pr)∧W.cell? ⟨w.heap.size,3,none⟩=some (.int .i64 s.re)∧W.cell? ⟨w.heap.size,4,none⟩=some (.int .i64 s.sw)∧W.cell? ⟨w.heap.size,5,none⟩=some (.int .i64 s.fi)∧W.cell? ⟨w.heap.size,6,none⟩=some (.int .i64 s.la)∧W.cell? ⟨w.heap.size,7,none⟩=some (.int .i64 s.rs)∧W.cell? ⟨w.heap.size,8,none⟩=some (.slice A N c))∧W.cell? ⟨bL,offL+q,none⟩=some (.slice AL l.length cL)∧But No wr W→But No W w4→But No wr w4):=hid (fun W w4 h hb=>h.2.2.trans hb)
     have E0:=hid e0
     generalize hok:okL s t l=ok at CL
     go_upto_region 9 with fail
     go_region_held3 (fun w'=>(w'.cell? ⟨w.heap.size,0,none⟩=some (.int .i64 s.co)∧w'.cell? ⟨w.heap.size,1,none⟩=some (.int .i64 s.po)∧w'.cell? ⟨w.heap.size,2,none⟩=some (.int .i64 s.pr)∧w'.cell? ⟨w.heap.size,3,none⟩=some (.int .i64 s.re)∧w'.cell? ⟨w.heap.size,4,none⟩=some (.int .i64 s.sw)∧w'.cell? ⟨w.heap.size,5,none⟩=some (.int .i64 s.fi)∧w'.cell? ⟨w.heap.size,6,none⟩=some (.int .i64 s.la)∧w'.cell? ⟨w.heap.size,7,none⟩=some (.int .i64 s.rs)∧w'.cell? ⟨w.heap.size,8,none⟩=some (.slice A N c))∧w'.cell? ⟨bL,offL+q,none⟩=some (.slice AL l.length cL)∧But No wr w')
      (first | exact KP.out _ (But.refl No wr).drew | exact KP.out _ (KB.out))
      (first | (go_at_call 92;(with_reducible refine(CL.out _ (by assumption)).mono ?_);rintro e w4 ⟨rfl,hb4⟩;have KB:=hid (KS.out _ _ (by assumption) hb4)))
     rename_i hHeld
     clear hHeld KP CL KS
     cases ok with
     | false =>
      have HE:Hid (plR s L=false):=hid (plR_list HTX.out HLX.out hok)
      clear hok
      go_wp2
      go_ret
      exact⟨ret_bool HE.out.symm,HB1.out.trans (HC.out.but.trans KB.out)⟩
     | true =>
      have HOKL:=hid hok
      have hl8:=okL_len hok
      have HC4:=hid (HC.out.no KB.out)
      clear hok
      obtain⟨mm,hmm⟩:∃ mm,l.length=mm:=⟨_,rfl⟩
      have HMM:=hid hmm
      rw[hmm] at hl8 HPC E0 ⊢
      clear hmm
      go_wp2_with fail
      go_loopw [10] (fun i wr2=>∃ k:Nat,i=.int .i64 (k:Int)∧k≤mm∧Hid (CT w1 wr2 b6 b7 m (fun c=>tN L c q+tL c l k) (fun c=>uN s L c q+if 0<t.secs.length then uL c l k else 0))) (fun i _=>mm-(intOf i).toNat)
      case atStart=>exact⟨0,rfl,by omega,HC4.out.congr (fun j hj=>by rw[tL];omega) (fun j hj=>by rw[uL];split <;> omega)⟩
      case round =>
       obtain⟨k,rfl,hk,HC2⟩:=hrel
       clear HC4
       have hk0:(0:Int)≤(k:Int):=Int.natCast_nonneg k
       have HW2:=hid (HB1.out.trans HC2.out.but)
       have e0:=cell_keep HE00.out HW2.out
       rw[HMM.out] at e0
       obtain⟨k0,k1,k2,k3,k4,k5,k6,k7,k8⟩:=BK1.out _ HC2.out.but
       by_cases hkm:k<mm
       ·have hkm2:(k:Int)<(mm:Int):=by omega
        obtain⟨x,hx⟩:∃ x,l[k]? = some x:=⟨_,List.getElem?_eq_getElem (by rw[HMM.out];exact hkm)⟩
        obtain⟨bP,offP,rfl,_,p0,p1,p2,p3,p4⟩:=(HPC.out.no HW2.out).at1 hx
        obtain⟨bt,offt,AS,cS,rfl,_,_,_,q3,_,_⟩:=(HS.out.ts.no HB1.out).at1 HTX.out
        have HT3:=hid q3
        have t3:=cell_keep q3 HC2.out.but
        have HXX:=hid hx
        obtain⟨hc0,hc1⟩:=okL_core HOKL.out hx
        clear hx q3
        obtain⟨x0,x1,x2,x3,x4⟩:=x
        dsimp only at hc0 hc1 p0 p1 p2 p3 p4
        obtain⟨xc,hxc⟩:∃ xc:Nat,x0=(xc:Int):=⟨x0.toNat,by omega⟩
        subst hxc
        have hxm:xc<m:=by have:=HCO.out;omega
        have hxm2:(xc:Int)<(m:Int):=by omega
        have hxc0:(0:Int)≤(xc:Int):=Int.natCast_nonneg xc
        obtain⟨F,hF⟩:∃ F,tN L xc q+tL xc l k=F:=⟨_,rfl⟩
        obtain⟨G,hG⟩:∃ G,(uN s L xc q+if 0<t.secs.length then uL xc l k else 0)=G:=⟨_,rfl⟩
        have v6:=HC2.out.v6.cell hxm
        have z6:=HC2.out.v6.frozen xc
        rw[hF] at v6
        have hbd:=HBD.out xc
        have htb:=tL_bd xc l k
        have hub:=uL_bd xc l k
        have hFb:0≤F∧F≤1000:=by omega
        have hGb:0≤G∧G≤1000:=by rw[←hG];split <;> omega
        have HFF:=hid hF
        have HGG:=hid hG
        clear hF hG hbd htb hub hc0 hc1
        by_cases hsec:0<t.secs.length
        ·have ds:decide (0<t.secs.length)=true:=by simp[hsec]
         have ds':decide ((0:Int)<(t.secs.length:Int))=true:=decide_eq_true (by omega)
         cases x4 with
         | true =>
          have HC6:Hid (CT w1 (wr.setCell ⟨b6,xc,none⟩ (.int .i64 (F+1))) b6 b7 m (fun c=>tN L c q+tL c l (k+1)) (fun c=>uN s L c q+if 0<t.secs.length then uL c l k else 0)):=hid (HC2.out.set6 (F+1) (fun j hj=>by
           rw[tL_next HXX.out]
           by_cases e:j=xc
           ·subst e;rw[if_pos rfl,if_pos ⟨rfl,rfl⟩,←HFF.out];omega
           ·rw[if_neg e,if_neg (fun h=>e (by have:=h.2;dsimp only at this;omega))];omega))
          have u1_:IntKind.i64.wrap (F+1)=F+1:=IntWalk.i64_in (F+1) (by omega)
          obtain⟨j0,j1,j2,j3,j4,j5,j6,j7,j8⟩:=BK1.out _ HC6.out.but
          have r3:=cell_keep HT3.out HC6.out.but
          have r7:=HC6.out.v7.cell hxm
          have z7:=HC6.out.v7.frozen xc
          rw[HGG.out] at r7
          have HC7:Hid (CT w1 ((wr.setCell ⟨b6,xc,none⟩ (.int .i64 (F+1))).setCell ⟨b7,xc,none⟩ (.int .i64 (G+1))) b6 b7 m (fun c=>tN L c q+tL c l (k+1)) (fun c=>uN s L c q+if 0<t.secs.length then uL c l (k+1) else 0)):=hid (HC6.out.set7 (G+1) (fun j hj=>by
           rw[uL_next HXX.out,if_pos hsec,if_pos hsec]
           by_cases e:j=xc
           ·subst e;rw[if_pos rfl,if_pos rfl,←HGG.out,if_pos hsec];omega
           ·rw[if_neg e,if_neg (fun h=>e (by dsimp only at h;omega))];omega))
          have u2_:IntKind.i64.wrap (G+1)=G+1:=IntWalk.i64_in (G+1) (by omega)
          clear hsec
          go_wp2
          go_roundw
          case rel=>exact⟨k+1,by go_num,by omega,HC7.out⟩
          case measure=>simp[intOf];omega
         | false =>
          have HC6:Hid (CT w1 wr b6 b7 m (fun c=>tN L c q+tL c l (k+1)) (fun c=>uN s L c q+if 0<t.secs.length then uL c l k else 0)):=hid (HC2.out.congr (fun j hj=>by rw[tL_next HXX.out,if_neg (by simp)];omega) (fun j hj=>rfl))
          have r7:=HC6.out.v7.cell hxm
          have z7:=HC6.out.v7.frozen xc
          rw[HGG.out] at r7
          have HC7:Hid (CT w1 (wr.setCell ⟨b7,xc,none⟩ (.int .i64 (G+1))) b6 b7 m (fun c=>tN L c q+tL c l (k+1)) (fun c=>uN s L c q+if 0<t.secs.length then uL c l (k+1) else 0)):=hid (HC6.out.set7 (G+1) (fun j hj=>by
           rw[uL_next HXX.out,if_pos hsec,if_pos hsec]
           by_cases e:j=xc
           ·subst e;rw[if_pos rfl,if_pos rfl,←HGG.out,if_pos hsec];omega
           ·rw[if_neg e,if_neg (fun h=>e (by dsimp only at h;omega))];omega))
          have u2_:IntKind.i64.wrap (G+1)=G+1:=IntWalk.i64_in (G+1) (by omega)
          clear hsec
          go_wp2
          go_roundw
          case rel=>exact⟨k+1,by go_num,by omega,HC7.out⟩
          case measure=>simp[intOf];omega
        ·have ds:decide (0<t.secs.length)=false:=by simp[hsec]
         have ds':decide ((0:Int)<(t.secs.length:Int))=false:=decide_eq_false (by omega)
         cases x4 with
         | true =>
          have HC6:Hid (CT w1 (wr.setCell ⟨b6,xc,none⟩ (.int .i64 (F+1))) b6 b7 m (fun c=>tN L c q+tL c l (k+1)) (fun c=>uN s L c q+if 0<t.secs.length then uL c l k else 0)):=hid (HC2.out.set6 (F+1) (fun j hj=>by
           rw[tL_next HXX.out]
           by_cases e:j=xc
           ·subst e;rw[if_pos rfl,if_pos ⟨rfl,rfl⟩,←HFF.out];omega
           ·rw[if_neg e,if_neg (fun h=>e (by have:=h.2;dsimp only at this;omega))];omega))
          have u1_:IntKind.i64.wrap (F+1)=F+1:=IntWalk.i64_in (F+1) (by omega)
          obtain⟨j0,j1,j2,j3,j4,j5,j6,j7,j8⟩:=BK1.out _ HC6.out.but
          have r3:=cell_keep HT3.out HC6.out.but
          have r7:=HC6.out.v7.cell hxm
          have z7:=HC6.out.v7.frozen xc
          rw[HGG.out] at r7
          have HC7:Hid (CT w1 (wr.setCell ⟨b6,xc,none⟩ (.int .i64 (F+1))) b6 b7 m (fun c=>tN L c q+tL c l (k+1)) (fun c=>uN s L c q+if 0<t.secs.length then uL c l (k+1) else 0)):=hid (HC6.out.congr (fun j hj=>rfl) (fun j hj=>by rw[if_neg hsec,if_neg hsec]))
          clear hsec
          go_wp2
          go_roundw
          case rel=>exact⟨k+1,by go_num,by omega,HC7.out⟩
          case measure=>simp[intOf];omega
         | false =>
          have HC6:Hid (CT w1 wr b6 b7 m (fun c=>tN L c q+tL c l (k+1)) (fun c=>uN s L c q+if 0<t.secs.length then uL c l k else 0)):=hid (HC2.out.congr (fun j hj=>by rw[tL_next HXX.out,if_neg (by simp)];omega) (fun j hj=>rfl))
          have r7:=HC6.out.v7.cell hxm
          have z7:=HC6.out.v7.frozen xc
          rw[HGG.out] at r7
          have HC7:Hid (CT w1 wr b6 b7 m (fun c=>tN L c q+tL c l (k+1)) (fun c=>uN s L c q+if 0<t.secs.length then uL c l (k+1) else 0)):=hid (HC6.out.congr (fun j hj=>rfl) (fun j hj=>by rw[if_neg hsec,if_neg hsec]))
          clear hsec
          go_wp2
          go_roundw
          case rel=>exact⟨k+1,by go_num,by omega,HC7.out⟩
          case measure=>simp[intOf];omega
       ·have hke:k=mm:=by omega
        have b4:decide ((k:Int)<(mm:Int))=false:=by simp;omega
        have HOS2:Hid (okS s L (q+1)=true):=hid (by rw[okS,HOS.out,getL HLX.out,getT HTX.out,HOKL.out];rfl)
        have HC3:Hid (CT w1 wr b6 b7 m (fun c=>tN L c (q+1)) (fun c=>uN s L c (q+1))):=hid (HC2.out.congr (fun j hj=>by rw[tN_next HLX.out,HMM.out,hke]) (fun j hj=>by rw[uN_next HLX.out HTX.out,HMM.out,hke]))
        have HBD2:Hid (∀ c,(0≤tN L c (q+1)∧tN L c (q+1)≤8*((q+1:Nat):Int))∧0≤uN s L c (q+1)∧uN s L c (q+1)≤8*((q+1:Nat):Int)):=hid (fun c=>by
         have h1:=HBD.out c
         have h2:=tL_bd c l mm
         have h3:=uL_bd c l mm
         rw[tN_next HLX.out,uN_next HLX.out HTX.out,HMM.out]
         split <;> omega)
        clear hke
        go_wp2
        go_roundw
        case rel=>exact⟨q+1,by go_num,by omega,HOS2.out,HC3.out,HBD2.out⟩
        case measure=>simp[intOf];omega
    ·have hqe:N=q:=by omega
     have b3:decide ((q:Int)<(N:Int))=false:=by simp;omega
     subst hqe
     go_wp2_with fail
     go_loopw [12] (fun i wr3=>∃ k:Nat,i=.int .i64 (k:Int)∧k≤m∧Hid (okC s L k=true)∧Hid (But No wr wr3)) (fun i _=>m-(intOf i).toNat)
     case atStart=>exact⟨0,rfl,by omega,rfl,But.refl No wr⟩
     case round =>
      obtain⟨k,rfl,hk,HKC,HB3⟩:=hrel
      have hk0:(0:Int)≤(k:Int):=Int.natCast_nonneg k
      obtain⟨k0,k1,k2,k3,k4,k5,k6,k7,k8⟩:=BK1.out _ (HC.out.but.trans HB3.out)
      by_cases hkm:k<m
      ·have hkm2:(k:Int)<s.co:=by have:=HCO.out;omega
       have hkm3:(k:Int)<(m:Int):=by omega
       have HC9:=hid (HC.out.no HB3.out)
       obtain⟨F,hF⟩:∃ F,tN L k N=F:=⟨_,rfl⟩
       obtain⟨G,hG⟩:∃ G,uN s L k N=G:=⟨_,rfl⟩
       have v6:=HC9.out.v6.cell hkm
       have v7:=HC9.out.v7.cell hkm
       rw[hF] at v6
       rw[hG] at v7
       have HF:=hid hF
       have HG:=hid hG
       clear hF hG HC9
       by_cases g1:1<F
       ·have d1:decide (1<F)=true:=by simp[g1]
        have HE:Hid (plR s L=false):=hid (plR_core (c:=k) (by have:=HCO.out;omega) (by rw[HN.out,HF.out];exact Or.inl g1))
        clear HKC
        go_wp2
        go_ret
        exact⟨ret_bool HE.out.symm,HB1.out.trans (HC.out.but.trans HB3.out)⟩
       ·have d1:decide (1<F)=false:=by simp[g1]
        by_cases g2:F=1
        ·have d2:decide (F=1)=true:=by simp[g2]
         have d2':(F == 1)=true:=by simp[g2]
         by_cases g3:0<G
         ·have d3:decide (0<G)=true:=by simp[g3]
          have HE:Hid (plR s L=false):=hid (plR_core (c:=k) (by have:=HCO.out;omega) (by rw[HN.out,HF.out,HG.out];exact Or.inr ⟨g2,g3⟩))
          clear HKC g2
          go_wp2
          go_ret
          exact⟨ret_bool HE.out.symm,HB1.out.trans (HC.out.but.trans HB3.out)⟩
         ·have d3:decide (0<G)=false:=by simp[g3]
          have HK2:Hid (okC s L (k+1)=true):=hid (by rw[okC,HKC.out,HN.out,HF.out,HG.out];simp[g2,g3])
          clear HKC g2
          go_wp2
          go_roundw
          case rel=>exact⟨k+1,by go_num,by omega,HK2.out,HB3.out⟩
          case measure=>simp[intOf];omega
        ·have d2:decide (F=1)=false:=by simp[g2]
         have d2':(F == 1)=false:=by simp[g2]
         have HK2:Hid (okC s L (k+1)=true):=hid (by rw[okC,HKC.out,HN.out,HF.out,HG.out];simp[g1,g2])
         clear HKC
         go_wp2
         go_roundw
         case rel=>exact⟨k+1,by go_num,by omega,HK2.out,HB3.out⟩
         case measure=>simp[intOf];omega
      ·have hke:k=m:=by omega
       have b4:decide ((k:Int)<s.co)=false:=by have:=HCO.out;simp;omega
       have HE:Hid (plR s L=true):=hid (by
        unfold plR
        have e:s.co.toNat=k:=by have:=HCO.out;omega
        rw[HR.out,HN.out,hTN,HOS.out,e,HKC.out];simp)
       clear HKC hke
       go_wp2
       go_ret
       exact⟨ret_bool HE.out.symm,HB1.out.trans (HC.out.but.trans HB3.out)⟩
  ·have HE:Hid (plR s L=false):=hid (by unfold plR;rw[HR.out,HN.out,hTN];simp[hlen])
   have d1:((N:Int) != (n:Int))=true:=by simp;omega
   have d2:decide ((N:Int)=(n:Int))=false:=by simp;omega
   have d3:decide (N=n)=false:=by simp[hlen]
   unfold boxS at HB0 BS k0 CR
   go_enter Tryz.func59,Tryz.ntmps59
   go_wp2_with (go_at_call 91;(with_reducible refine CR.out.mono ?_);rintro e w1 ⟨rfl,hb1⟩;have e8:=(BS.out.but hb1 (fun f=>f)).cell (o:=8) rfl;have HB1:=hid (HB0.out.trans hb1);clear hb1)
   go_ret
   exact⟨ret_bool HE.out.symm,HB1.out⟩
end Go.Proofs.YtikcigjbhohboaaGreat.pln
end
section
namespace Go.Proofs.YtikcigjbhohboaaGreat.pln
open Go.ChangeShapes Go.WideShapes Go.ChangeAt Go.RowKit Go.Deep val
def pcC (x:Pc):List Value:=[.int .i64 x.co,.int .i64 x.bu,.int .i64 x.de,.int .i64 x.pr,.bool x.ti]
def OPc (w:World) (v:Value) (l:List Pc):Prop:=w.ownsRow 0 42 5 v l.length (l.flatMap pcC)
theorem OPc.nil (w:World):OPc w (.slice none 0 0) []:=World.ownsRow_nil _ _ _ _
theorem OPc.but {w w':World} {v:Value} {l:List Pc} {S:Nat→Prop} (h:OPc w v l) (hb:But S w w') (hs:∀ k,v.ownBlock=some k→¬S k):OPc w' v l:=owns_but h hb hs
theorem OPc.lt {w:World} {v:Value} {l:List Pc} (h:OPc w v l) {k:Nat} (hk:v.ownBlock=some k):k<w.heap.size:=(World.ownsRow.lt h k hk).2
theorem pcC_at {l:List Pc} {k:Nat} {x:Pc} (h:l[k]? = some x):(l.flatMap pcC)[k*5]? = some (.int .i64 x.co)∧(l.flatMap pcC)[k*5+1]? = some (.int .i64 x.bu)∧(l.flatMap pcC)[k*5+2]? = some (.int .i64 x.de)∧(l.flatMap pcC)[k*5+3]? = some (.int .i64 x.pr)∧(l.flatMap pcC)[k*5+4]? = some (.bool x.ti):=by
 induction l generalizing k with
 | nil=>simp at h
 | cons y l ih =>
  rw[List.flatMap_cons]
  cases k with
  | zero =>
   rw[List.getElem?_cons_zero] at h
   cases h
   exact⟨rfl,rfl,rfl,rfl,rfl⟩
  | succ k =>
   rw[List.getElem?_cons_succ] at h
   obtain⟨h0,h1,h2,h3,h4⟩:=ih h
   have e:(pcC y).length=5:=rfl
   refine⟨?_,?_,?_,?_,?_⟩
   ·rw[List.getElem?_append_right (by rw[e];omega),e,show (k+1)*5-5=k*5 by omega];exact h0
   ·rw[List.getElem?_append_right (by rw[e];omega),e,show (k+1)*5+1-5=k*5+1 by omega];exact h1
   ·rw[List.getElem?_append_right (by rw[e];omega),e,show (k+1)*5+2-5=k*5+2 by omega];exact h2
   ·rw[List.getElem?_append_right (by rw[e];omega),e,show (k+1)*5+3-5=k*5+3 by omega];exact h3
   ·rw[List.getElem?_append_right (by rw[e];omega),e,show (k+1)*5+4-5=k*5+4 by omega];exact h4
theorem OPc.rd {w:World} {v:Value} {l:List Pc} (h:OPc w v l) (hm:l.length≤9223372036854775807) (hf:∀ x ∈ l,inR x.co∧inR x.bu∧inR x.de∧inR x.pr):∃ A c,v=.slice A l.length c∧l.length≤c∧RPc w A l.length l:=by
 obtain⟨h1,h2⟩:=h
 rcases h2 with⟨h2,e⟩ | ⟨g,cap,cur,hv,_,hh,hc,hcap,hs,ht⟩
 ·exact⟨none,0,by rw[e];exact h2,by omega,rfl,hm,fun h=>absurd h (by omega),hf⟩
 ·refine⟨_,_,hv,hc,rfl,hm,fun hn=>⟨g,0,rfl,Blk.lt hh,fun k x hx=>?_⟩,hf⟩
  have hk:k<l.length:=(List.getElem?_eq_some_iff.1 hx).1
  obtain⟨a0,a1,a2,a3,a4⟩:=pcC_at hx
  have rdc:∀ j u,j<l.length*5→(l.flatMap pcC)[j]? = some u→w.cell? ⟨g,0+j,none⟩=some u:=fun j u hj hu=>by
   rw[Nat.zero_add]
   refine Blk.cell hh ?_
   rw[←ht,List.getElem?_take,if_pos hj] at hu
   simpa using hu
  refine⟨rdc _ _ (by omega) a0,?_,?_,?_,?_⟩
  ·have:=rdc (k*5+1) _ (by omega) a1;rw[←Nat.add_assoc] at this;exact this
  ·have:=rdc (k*5+2) _ (by omega) a2;rw[←Nat.add_assoc] at this;exact this
  ·have:=rdc (k*5+3) _ (by omega) a3;rw[←Nat.add_assoc] at this;exact this
  ·have:=rdc (k*5+4) _ (by omega) a4;rw[←Nat.add_assoc] at this;exact this
structure Rp (w wr:World) (v:Value) (l:List Pc):Prop where
 but:But No w wr
 own:OPc wr v l
 new:∀ k,v.ownBlock=some k→w.heap.size≤k
theorem Rp.no {w wr w2:World} {v:Value} {l:List Pc} (h:Rp w wr v l) (hb:But No wr w2):Rp w w2 v l:=⟨h.but.trans hb,h.own.but hb (fun _ _ f=>f),h.new⟩
theorem Rp.start (w:World):Rp w w (.slice none 0 0) []:=⟨But.refl No w,OPc.nil w,own_none⟩
theorem Rp.app {w wr w2:World} {v:Value} {l k:List Pc} {A:Option Addr} {c n:Nat} (h:Rp w wr v l) (hn:n=l.length+k.length) (ho:w2.ownsRow 0 42 5 (.slice A n c) n (l.flatMap pcC ++ k.flatMap pcC)) (hg:wr.grownBy w2 v.ownBlock)
  (hat:(Value.slice A n c).ownBlock=v.ownBlock∨(Value.slice A n c).ownBlock=some wr.heap.size):Rp w w2 (.slice A n c) (l ++ k):=by
 refine⟨h.but.grown hg (fun k e=>.inr (h.new k e)),?_,own_new h.new hat h.but.size⟩
 unfold OPc
 rw[List.length_append,List.flatMap_append,←hn]
 exact ho
structure RoP (w wr:World) (v:Value) (vs:List Value) (Ls:List (List Pc)):Prop where
 but:But No w wr
 row:wr.ownsRow 0 38 1 v vs.length vs
 new:∀ k,v.ownBlock=some k→w.heap.size≤k
 len:vs.length=Ls.length
 own:∀ (r:Nat) (u:Value) (l:List Pc),vs[r]? = some u→Ls[r]? = some l→OPc wr u l∧∀ k,u.ownBlock=some k→w.heap.size≤k
 nb:∀ (r:Nat) (u:Value) (k:Nat),vs[r]? = some u→u.ownBlock=some k→v.ownBlock≠some k
 dis:∀ (r s:Nat) (u z:Value) (k:Nat),vs[r]? = some u→vs[s]? = some z→u.ownBlock=some k→z.ownBlock=some k→r=s
theorem RoP.start (w:World):RoP w w (.slice none 0 0) [] []:=⟨But.refl No w,World.ownsRow_nil _ _ _ _,own_none,rfl,fun r u l h=>by simp at h,fun r u k h=>by simp at h,fun r s u z k h=>by simp at h⟩
theorem RoP.no {w wr w2:World} {v:Value} {vs:List Value} {Ls:List (List Pc)} (h:RoP w wr v vs Ls) (hb:But No wr w2):RoP w w2 v vs Ls :=
 ⟨h.but.trans hb,owns_but h.row hb (fun _ _ f=>f),h.new,h.len,fun r u l h1 h2=>⟨(h.own r u l h1 h2).1.but hb (fun _ _ f=>f),(h.own r u l h1 h2).2⟩,h.nb,h.dis⟩
theorem RoP.app {w wr w0 w1 w2:World} {v u:Value} {vs:List Value} {Ls:List (List Pc)} {l:List Pc} {A:Option Addr} {c n:Nat} (h:RoP w w0 v vs Ls) (hb:But No w0 wr) (hu:OPc wr u l) (hun:∀ k,u.ownBlock=some k→w0.heap.size≤k) (hb1:But No wr w1)
  (hn:n=vs.length+1) (ho:w2.ownsRow 0 38 1 (.slice A n c) n (vs ++ [u])) (hg:w1.grownBy w2 v.ownBlock)
  (hat:(Value.slice A n c).ownBlock=v.ownBlock∨(Value.slice A n c).ownBlock=some w1.heap.size):RoP w w2 (.slice A n c) (vs ++ [u]) (Ls ++ [l]):=by
 have h1:=(h.no hb).no hb1
 have hub:=hu.but hb1 (S:=No) (fun _ _ f=>f)
 have hB:But (fun k=>v.ownBlock=some k) w1 w2:=(But.refl _ w1).grown hg (fun k e=>.inl e)
 have hvlt:∀ k,v.ownBlock=some k→k<w0.heap.size:=fun k e=>(World.ownsRow.lt h.row k e).2
 have hsz:=hb.size
 have hsz1:=hb1.size
 have nth:∀ (r:Nat) (z:Value),(vs ++ [u])[r]? = some z→vs[r]? = some z∨r=vs.length∧z=u:=fun r z e=>by
  by_cases hr:r<vs.length
  ·rw[List.getElem?_append_left hr] at e;exact .inl e
  ·rw[List.getElem?_append_right (by omega)] at e
   have:r-vs.length=0:=by
    have:=(List.getElem?_eq_some_iff.1 e).1
    simp at this;omega
   rw[this] at e
   exact .inr ⟨by omega,by simpa using e.symm⟩
 have elt:∀ (r:Nat) (z:Value) (k:Nat),vs[r]? = some z→z.ownBlock=some k→k<w0.heap.size:=fun r z k hr hk=>by
  have hrl:r<Ls.length:=by rw[←h.len];exact(List.getElem?_eq_some_iff.1 hr).1
  exact(h.own r z Ls[r] hr (List.getElem?_eq_getElem hrl)).1.lt hk
 refine⟨h1.but.grown hg (fun k e=>.inr (h.new k e)),by rw[List.length_append,show vs.length + [u].length=n by simp[hn]];exact ho,own_new h.new hat (by have:=h1.but.size;omega),by simp[h.len],?_,?_,?_⟩
 ·intro r z l' hr hl'
  rcases nth r z hr with hr' | ⟨rfl,rfl⟩
  ·have hrl:r<Ls.length:=by rw[←h.len];exact(List.getElem?_eq_some_iff.1 hr').1
   rw[List.getElem?_append_left hrl] at hl'
   obtain⟨a,b⟩:=h1.own r z l' hr' hl'
   exact⟨a.but hB (fun k e1 e2=>h.nb r z k hr' e1 e2),b⟩
  ·rw[h.len,List.getElem?_append_right (Nat.le_refl _)] at hl'
   simp at hl'
   subst hl'
   exact⟨hub.but hB (fun k e1 e2=>by have:=hun k e1;have:=hvlt k e2;omega),fun k e=>by have:=hun k e;have:=h.but.size;omega⟩
 ·intro r z k hr hk e
  rcases hat with ha | ha
  ·rw[ha] at e
   rcases nth r z hr with hr' | ⟨rfl,rfl⟩
   ·exact h.nb r z k hr' hk e
   ·have:=hun k hk;have:=hvlt k e;omega
  ·rw[ha] at e
   have hk2:w1.heap.size=k:=by simpa using e
   rcases nth r z hr with hr' | ⟨rfl,rfl⟩
   ·have:=elt r z k hr' hk;omega
   ·have:=hub.lt hk;omega
 ·intro r s z y k hr hs hk hk'
  rcases nth r z hr with hr' | ⟨rfl,rfl⟩ <;> rcases nth s y hs with hs' | ⟨rfl,rfl⟩
  ·exact h.dis r s z y k hr' hs' hk hk'
  ·have:=elt r z k hr' hk;have:=hun k hk';omega
  ·have:=elt s y k hs' hk';have:=hun k hk;omega
  ·rfl
end Go.Proofs.YtikcigjbhohboaaGreat.pln
end
