/- Part 10 of a proof: PlR6 PlH2. -/
import Derived.Test.YtikcigjbhohboaaGreatM02
import Derived.Test.YtikcigjbhohboaaGreatM08
import Derived.Test.YtikcigjbhohboaaGreatM09
section
namespace Go.Proofs.YtikcigjbhohboaaGreat.pln
open Go.Lib (hid)
open Go.ChangeShapes Go.WideShapes Go.ChangeAt Go.RowKit Go.Deep val
def tp (x p:Int):Int:=if x=0∨p<x then p else x
def ceS (p:Int) (ss:List (Int × Int × Int)) (f:Nat→Int):Nat→Nat→Int
 | 0,r=>f r
 | k+1,r=>if (ss.getD k (0,0,0)).2.1=(r:Int) then tp (ceS p ss f k r) p else ceS p ss f k r
def ceP (s:Sys) (L:List (List Pc)) (i:Nat) (l:List Pc):Int:=max 1 (rkP s L i (l.getD 0 pc0)).pr
def ceN (s:Sys) (L:List (List Pc)) (c:Int):Nat→Nat→Int
 | 0,_=>0
 | i+1,r=>if whO (L.getD i [])=c then ceS (ceP s L i (L.getD i [])) (s.ts.getD i ts0).secs (ceN s L c i) (s.ts.getD i ts0).secs.length r else ceN s L c i r
def ceR (s:Sys) (L:List (List Pc)) (c:Nat):List Int:=(List.range s.rs.toNat).map (ceN s L c L.length)
def ceV (s:Sys) (L:List (List Pc)):List (List Int):=(List.range s.co.toNat).map (ceR s L)
theorem ceS_next {p:Int} {ss:List (Int × Int × Int)} {f:Nat→Int} {k:Nat} {x:Int × Int × Int} (h:ss[k]? = some x) (r:Nat):ceS p ss f (k+1) r=if x.2.1=(r:Int) then tp (ceS p ss f k r) p else ceS p ss f k r:=by
 have e:ss.getD k (0,0,0)=x:=by simp[List.getD,h]
 rw[ceS,e]
theorem ceN_next {s:Sys} {L:List (List Pc)} {c:Int} {i:Nat} {l:List Pc} {t:Tsk} (hl:L[i]? = some l) (ht:s.ts[i]? = some t) (r:Nat):ceN s L c (i+1) r=if whO l=c then ceS (ceP s L i l) t.secs (ceN s L c i) t.secs.length r else ceN s L c i r:=by
 rw[ceN,getL hl,getT ht]
theorem rk_pr {s:Sys} {L:List (List Pc)} {i:Nat} {x:Pc} (hL:L.length≤24) (h8:∀ l ∈ L,l.length≤8):0≤(rkP s L i x).pr∧(rkP s L i x).pr≤193:=by
 unfold rkP
 dsimp only
 split
 ·have:=aN_bd (task:=(i:Int)) (p:=zp x) h8 L.length (Nat.le_refl _)
  have e:aheadV i (zp x) L=aN i (zp x) L L.length:=rfl
  rw[e]
  have:(L.length:Int)*((8:Nat):Int)≤192:=by omega
  omega
 ·omega
theorem rkV_len (s:Sys) (L:List (List Pc)):(rkV s L).length=L.length:=rkN_len s L L.length
theorem rkN_at {s:Sys} {L:List (List Pc)}:∀ {n i:Nat},i<n→(rkN s L n)[i]? = some (rkL s L i (L.getD i []))
 | 0,i,h=>absurd h (by omega)
 | n+1,i,h=>by
  rw[rkN]
  by_cases e:i<n
  ·rw[List.getElem?_append_left (by rw[rkN_len];exact e)];exact rkN_at e
  ·obtain rfl:i=n:=by omega
   rw[List.getElem?_append_right (by rw[rkN_len];omega),rkN_len];simp
theorem rkV_at {s:Sys} {L:List (List Pc)} {i:Nat} {l:List Pc} (h:L[i]? = some l):(rkV s L)[i]? = some (rkL s L i l):=by
 have:=rkN_at (s:=s) (L:=L) (List.getElem?_eq_some_iff.1 h).1
 rw[getL h] at this;exact this
theorem rkV_mem {s:Sys} {L:List (List Pc)} {m:List Pc} (h:m ∈ rkV s L):∃ i l,L[i]? = some l∧m=rkL s L i l:=by
 obtain⟨i,hi⟩:=List.mem_iff_getElem?.1 h
 have hl:i<L.length:=by have:=(List.getElem?_eq_some_iff.1 hi).1;rw[rkV_len] at this;exact this
 obtain⟨l,h1⟩:∃ l,L[i]? = some l:=⟨_,List.getElem?_eq_getElem hl⟩
 rw[rkV_at h1] at hi
 exact⟨i,l,h1,by simpa using hi.symm⟩
theorem rrank_ok {s:Sys} {A:Option Addr} {n c:Nat} {A':Option Addr} {N c':Nat} {L:List (List Pc)} {w:World} (hs:RSys w A n c s) (hl:RPl w A' N L) (hr:plR s L=true):Calls Tryz.prog 26 #[sysV s A n c,.slice A' N c'] w fun e w'=>∃ A1 c1,e=.returned (.tuple #[.slice A1 N c1,.bool true])∧But No w w'∧RPl w' A1 N (rkV s L):=by
 refine(rrank_any s A n c A' N c' L w hs hl).mono ?_
 rintro e w' (⟨h,_⟩ | ⟨_,v,vs,rfl,h⟩)
 ·rw[hr] at h;cases h
 obtain⟨h1,h2⟩:=plR_small hr
 obtain⟨A1,c1,e1,h3⟩:=h.pl (by rw[rkV_len];omega) (fun m hm=>by
  obtain⟨i,l,h3,rfl⟩:=rkV_mem hm
  have:=h2 l (List.mem_of_getElem? h3)
  unfold rkL;rw[List.length_map];omega) (fun m hm x hx=>by
  obtain⟨i,l,h3,rfl⟩:=rkV_mem hm
  unfold rkL at hx
  obtain⟨y,hy,rfl⟩:=List.mem_map.1 hx
  obtain⟨_,_,_,_,_,_,_,_,hp⟩:=hl.at1 h3
  have h4:=hp.fit y hy
  have h5:=rk_pr (s:=s) (i:=i) (x:=y) h1 h2
  refine⟨h4.1,h4.2.1,h4.2.2.1,?_⟩
  unfold inR;omega)
 rw[rkV_len,hl.len] at e1 h3
 subst e1
 exact⟨A1,c1,rfl,h.but,h3⟩
theorem rrank_no {s:Sys} {A:Option Addr} {n c:Nat} {A':Option Addr} {N c':Nat} {L:List (List Pc)} {w:World} (hs:RSys w A n c s) (hl:RPl w A' N L) (hr:plR s L=false):Calls Tryz.prog 26 #[sysV s A n c,.slice A' N c'] w fun e w'=>e=.returned (.tuple #[.slice none 0 0,.bool false])∧But No w w':=by
 refine(rrank_any s A n c A' N c' L w hs hl).mono ?_
 rintro e w' (⟨_,h⟩ | ⟨h,_⟩)
 ·exact h
 ·rw[hr] at h;cases h
structure CE (w1 wr:World) (b m:Nat) (f:Nat→Int):Prop where
 v:Vals wr b 3 m (fun r=>.int .i64 (f r))
 h:w1.heap.size≤b
 but:But No w1 wr
theorem CE.set {w1 wr:World} {b m k:Nat} {f f':Nat→Int} (h:CE w1 wr b m f) (v:Int) (he:∀ j,j<m→f' j=if j=k then v else f j):CE w1 (wr.setCell ⟨b,k,none⟩ (.int .i64 v)) b m f' :=
 ⟨(h.v.set _).congr (fun j hj=>by rw[he j hj];split <;> rfl),h.h,h.but.setNew h.h _⟩
theorem CE.congr {w1 wr:World} {b m:Nat} {f f':Nat→Int} (h:CE w1 wr b m f) (hf:∀ j,j<m→f' j=f j):CE w1 wr b m f':=⟨h.v.congr (fun j hj=>by rw[hf j hj]),h.h,h.but⟩
theorem whO_is {l:List Pc} {c:Int} (h:whO l=c) (h0:0≤c):∃ x,l = [x]∧x.ti=false∧x.co=c:=by
 unfold whO at h
 by_cases h1:l.length=1∧(l.getD 0 pc0).ti=false
 ·rw[if_pos h1] at h
  obtain⟨x,rfl⟩:=List.length_eq_one_iff.1 h1.1
  exact⟨x,rfl,h1.2,h⟩
 ·rw[if_neg h1] at h;omega
set_option maxRecDepth 100000 in
set_option maxHeartbeats 8000000 in
theorem rceil_any (s:Sys) (A:Option Addr) (n c:Nat) (A':Option Addr) (N c':Nat) (L:List (List Pc)) (w:World) (hs:RSys w A n c s) (hl:RPl w A' N L):Calls Tryz.prog 27 #[sysV s A n c,.slice A' N c'] w fun e w' =>
  (plR s L=false∧e=.returned (.tuple #[.slice none 0 0,.bool false])∧But No w w')∨(plR s L=true∧∃ v vs,e=.returned (.tuple #[v,.bool true])∧RoI w w' v vs (ceV s L)):=by
 have HN:=hid hl.len
 have hb0:But No w (w.alloc (.cells (boxS s A n c) 24)):=(But.refl No w).alloc _
 have HB0:=hid hb0
 have BS:=hid (Blk.new w (boxS s A n c) 24)
 have HS:=hid hs
 have HL:=hid hl
 have k0:=sys_cells (Blk.new w (boxS s A n c) 24)
 cases hr:plR s L with
 | false =>
  have CR:=hid (rrank_no (c':=c') (hs.no hb0) (hl.no hb0) hr)
  clear hs hl hb0 hr
  unfold sysV at CR ⊢
  unfold boxS at HB0 k0 CR
  go_enter Tryz.func27,Tryz.ntmps27
  go_wp2_with (go_at_call 26;(with_reducible refine CR.out.mono ?_);rintro e w1 ⟨rfl,hb1⟩;have HB1:=hid (HB0.out.trans hb1);clear hb1)
  go_ret2
  exact Or.inl ⟨by first | rfl | trivial,rfl,HB1.out⟩
 | true =>
  have CR:=hid (rrank_ok (c':=c') (hs.no hb0) (hl.no hb0) hr)
  obtain⟨hN24',hB8⟩:=plR_small hr
  have HB8:=hid hB8
  obtain⟨hrt,hlen,_⟩:=plR_parts hr
  have HRT:=hid hrt
  obtain⟨hc8,hrs8,_,hts24,hsl⟩:=ter.right_len hrt
  have HSL:=hid hsl
  have hN24:N≤24:=by have:=HN.out;omega
  have hTN:=hs.ts.len
  have hNn:N=n:=by have:=HN.out;omega
  subst hNn
  obtain⟨m,hco⟩:∃ m:Nat,s.co=(m:Int):=⟨s.co.toNat,by omega⟩
  have hm8:m≤8:=by omega
  have HCO:=hid hco
  obtain⟨rs,hrs⟩:∃ rs:Nat,s.rs=(rs:Int):=⟨s.rs.toNat,by omega⟩
  have hr8:rs≤8:=by omega
  have HRS:=hid hrs
  have CW:Hid (∀ W,But No w W→Calls Tryz.prog 61 #[.slice A' N c'] W fun e w'=>∃ v,e=.returned v∧Rw W w' v (L.map whO)):=hid (fun W hb=>rwhere_any A' N c' L W (HL.out.no hb) (by omega))
  obtain⟨i3,hi0,hz0,hz1,hz2⟩:=info_parts info3
  have I3:Hid (Tryz.prog.info? 3=some i3∧i3.zero=some (.int .i64 0)∧i3.size=1∧i3.bytes=8):=⟨hi0,hz0,hz1,hz2⟩
  obtain⟨iq,bi0,bz0,bz1,bz2⟩:=info_parts infoII
  have IQ:Hid (Tryz.prog.info? 26=some iq∧iq.zero=some (.slice none 0 0)∧iq.size=1∧iq.bytes=24):=⟨bi0,bz0,bz1,bz2⟩
  have BK:Hid (∀ W,But No (w.alloc (.cells (boxS s A N c) 24)) W→S9 W w.heap.size s A N c):=hid (fun W hb=>sys_cells (BS.out.but hb (fun f=>f)))
  clear hs hl hb0 hr hrt hlen hsl hN24' hB8 hco hrs hc8 hrs8 hts24 hi0 hz0 hz1 hz2 bi0 bz0 bz1 bz2
  unfold sysV at CR ⊢
  unfold boxS at HB0 k0 CR BK
  go_enter Tryz.func27,Tryz.ntmps27
  go_upto_region 5 with(first
   | (go_at_call 26;(with_reducible refine CR.out.mono ?_);rintro e w1 ⟨AR,cR,rfl,hb1,hpl1⟩;have HBK:=hid hb1;have HB1:=hid (HB0.out.trans hb1);have HPL1:=hid hpl1;clear hb1 hpl1)
   | (go_at_call 61;(with_reducible refine(CW.out _ HB1.out).mono ?_);rintro e w2 ⟨vw,rfl,hrw⟩;have HRW:=hid hrw;have HB2:=hid (HB1.out.trans hrw.but);have HBK2:=hid (HBK.out.trans hrw.but);have HPL:=hid (HPL1.out.no hrw.but);clear hrw))
  have BK1:Hid (∀ W,But No w2 W→S9 W w.heap.size s A N c):=hid (fun W hb=>BK.out W (HBK2.out.trans hb))
  obtain⟨AW,cW,hvw,hcw⟩:=HRW.out.own.slice
  subst hvw
  rw[List.length_map,HN.out] at HRW hcw ⊢
  have HWL:=hid (HRW.out.own.rl (by rw[List.length_map,HN.out];omega)).1
  have HSX:=hid (HS.out.ts.no HB2.out)
  clear CR CW BS BK k0 HPL1 HBK HBK2 HRW HB0 HB1 HS
  go_wp2_with fail
  go_loopw [9,10] (fun v i wr=>∃ (vv:Value) (vs:List Value) (q:Nat),v=vv∧i=.int .i64 (q:Int)∧q≤m∧Hid (RoI w2 wr vv vs ((List.range q).map (ceR s L)))) (fun _ i _=>m-(intOf i).toNat)
  case atStart=>exact⟨_, [],0,rfl,rfl,by omega,RoI.start w2⟩
  case round =>
   obtain⟨v,vs,q,hv,rfl,hq,HO⟩:=hrel
   have hv':=hv.symm
   subst hv'
   clear hv
   have hq0:(0:Int)≤(q:Int):=Int.natCast_nonneg q
   obtain⟨k0,k1,k2,k3,k4,k5,k6,k7,k8⟩:=BK1.out _ HO.out.but
   rw[HCO.out] at k0
   rw[HRS.out] at k7
   by_cases hqm:q<m
   ·have hqm2:(q:Int)<(m:Int):=by omega
    go_upto_region 10 with(at_make;refine wpList_make_full _ rfl _ _ 26 rfl 0 3 i3 _ 1 Tryz.underlying26 I3.out.1 I3.out.2.1 I3.out.2.2.1 .i64 .i64 _ _ rs rfl rfl rfl rfl (by rw[I3.out.2.2.2];omega) (by unfold maxLen;omega) (Nat.zero_le _) ?_;intro w3 hown hgrow;have hb3:=(But.refl No wr).grown hgrow (fun k e=>by cases e);have HCE:Hid (CE wr w3 wr.heap.size rs (ceN s L q 0)):=hid ⟨vals_made1 rfl hown,Nat.le_refl _,hb3⟩;clear hown hgrow hb3)
    generalize wr.heap.size=bR at HCE ⊢
    clear k0 k1 k2 k3 k4 k5 k6 k7 k8
    obtain⟨wr_o,hwo⟩:∃ wr_o,wr=wr_o:=⟨_,rfl⟩
    rw[hwo] at HO HCE
    clear hwo
    go_wp2_with fail
    go_loopw [12] (fun i wr2=>∃ p:Nat,i=.int .i64 (p:Int)∧p≤N∧Hid (CE wr_o wr2 bR rs (ceN s L q p))) (fun i _=>N-(intOf i).toNat)
    case atStart=>exact⟨0,rfl,by omega,HCE.out⟩
    case round =>
     obtain⟨p,rfl,hp,HC⟩:=hrel
     clear HCE
     have hp0:(0:Int)≤(p:Int):=Int.natCast_nonneg p
     by_cases hpN:p<N
     ·have hpN2:(p:Int)<(N:Int):=by omega
      obtain⟨l,hl⟩:∃ l,L[p]? = some l:=⟨_,List.getElem?_eq_getElem (by rw[HN.out];exact hpN)⟩
      obtain⟨t,ht⟩:∃ t,s.ts[p]? = some t:=⟨_,List.getElem?_eq_getElem (by omega)⟩
      have HLX:=hid hl
      have HTX:=hid ht
      have HCN:=hid (fun r=>ceN_next (c:=(q:Int)) hl ht r)
      have hs4:=HSL.out t (List.mem_of_getElem? ht)
      obtain⟨bt,offt,AS,cS,rfl,_,_,_,q3,_,hsec⟩:=HSX.out.at1 ht
      have HSE:=hid hsec
      obtain⟨bW,offW,rfl,_,hwc⟩:=HWL.out.at_ (by omega)
      have wc:=hwc p hpN
      rw[show (L.map whO).getD p 0=whO l by simp[List.getD,hl]] at wc
      obtain⟨sl,hsl⟩:∃ sl,t.secs.length=sl:=⟨_,rfl⟩
      have HSN:=hid hsl
      rw[hsl] at hs4 q3 HSE HCN
      have HQ3:=hid q3
      have HWC:=hid wc
      clear hl ht hsec hwc wc q3 hsl
      go_wp2_with fail
      go_loopw [13] (fun i wr3=>∃ k:Nat,i=.int .i64 (k:Int)∧k≤sl∧Hid (CE wr_o wr3 bR rs (fun r=>if whO l=(q:Int) then ceS (ceP s L p l) t.secs (ceN s L q p) k r else ceN s L q p r))) (fun i _=>sl-(intOf i).toNat)
      case atStart=>exact⟨0,rfl,by omega,HC.out.congr (fun j hj=>by split <;> rfl)⟩
      case round =>
       obtain⟨k,rfl,hk,HC3⟩:=hrel
       clear HC
       have hk0:(0:Int)≤(k:Int):=Int.natCast_nonneg k
       have HW3:=hid (HO.out.but.trans HC3.out.but)
       obtain⟨k0,k1,k2,k3,k4,k5,k6,k7,k8⟩:=BK1.out _ HW3.out
       have q3:=cell_keep HQ3.out HW3.out
       have wc:=cell_keep HWC.out HW3.out
       by_cases hks:k<sl
       ·have hks2:(k:Int)<(sl:Int):=by omega
        by_cases hwq:whO l=(q:Int)
        ·obtain⟨x,rfl,hti,hco⟩:=whO_is hwq hq0
         rw[hwq] at wc
         obtain⟨bK,offK,AX,cX,rfl,_,eR,_,hpx⟩:=(HPL.out.no HW3.out).at1 (rkV_at HLX.out)
         obtain⟨bX,offX,rfl,_,_,_,_,p3,_⟩:=hpx.at1 (k:=0) (x:=rkP s L p x) rfl
         have hpr:=rk_pr (s:=s) (i:=p) (x:=x) (by rw[HN.out];exact hN24) HB8.out
         have hce:ceP s L p [x]=max 1 (rkP s L p x).pr:=rfl
         generalize (rkP s L p x).pr=P at p3 hpr hce
         rw[show (rkL s L p [x]).length=1 from rfl] at eR
         obtain⟨y,hy⟩:∃ y,t.secs[k]? = some y:=⟨_,List.getElem?_eq_getElem (by rw[HSN.out];exact hks)⟩
         obtain⟨bS,offS,rfl,_,y1,_⟩:=(HSE.out.no HW3.out).at1 hy
         have hyr:=(ter.right_sec HRT.out (List.mem_of_getElem? HTX.out) (List.mem_of_getElem? hy)).1
         rw[HRS.out] at hyr
         have HCS:=hid (fun r=>ceS_next (p:=ceP s L p [x]) (f:=ceN s L q p) hy r)
         obtain⟨rr,hrr⟩:∃ rr:Nat,y.2.1=(rr:Int):=⟨y.2.1.toNat,by omega⟩
         rw[hrr] at y1 hyr HCS
         have hrr2:rr<rs:=by omega
         have HCZ:Hid (CE wr_o wr bR rs (ceS (ceP s L p [x]) t.secs (ceN s L q p) k)):=hid (HC3.out.congr (fun j hj=>by rw[if_pos hwq]))
         have cz:=HCZ.out.v.cell hrr2
         have fz:=HCZ.out.v.frozen rr
         have HNX:Hid (∀ z,ceS (ceP s L p [x]) t.secs (ceN s L q p) k rr=z→∀ r,(if whO [x]=(q:Int) then ceS (ceP s L p [x]) t.secs (ceN s L q p) (k+1) r else ceN s L q p r)=if r=rr then tp z (max 1 P) else ceS (ceP s L p [x]) t.secs (ceN s L q p) k r):=hid (fun z hz r=>by
          rw[if_pos hwq,HCS.out r,hce]
          by_cases e:r=rr
          ·subst e;rw[if_pos rfl,if_pos rfl,←hce,hz]
          ·rw[if_neg e,if_neg (fun h=>e (by omega))])
         obtain⟨z,hz9⟩:∃ z,ceS (ceP s L p [x]) t.secs (ceN s L q p) k rr=z:=⟨_,rfl⟩
         rw[hz9] at cz
         have HNZ:=hid (HNX.out z hz9)
         have HZ9:=hid hz9
         clear hz9 HNX
         clear hy hpx hti hco hce hwq HC3 HCN
         have hpm:(if (1:Int)<P then P else 1)=max 1 P:=by omega
         by_cases hz:z=0
         ·subst hz
          have HF:Hid (CE wr_o (wr.setCell ⟨bR,rr,none⟩ (.int .i64 (max 1 P))) bR rs (fun r=>if whO [x]=(q:Int) then ceS (ceP s L p [x]) t.secs (ceN s L q p) (k+1) r else ceN s L q p r)):=hid (HCZ.out.set _ (fun j hj=>by rw[HNZ.out j];simp[tp]))
          clear HNZ HZ9
          go_wp2_with fail
          go_roundw
          case rel=>exact⟨k+1,by go_num,by omega,HF.out⟩
          case measure=>simp[intOf];omega
         ·have d1:(z == 0)=false:=by simp[hz]
          have d2:decide (z=0)=false:=by simp[hz]
          by_cases hlt:max 1 P<z
          ·have HF:Hid (CE wr_o (wr.setCell ⟨bR,rr,none⟩ (.int .i64 (max 1 P))) bR rs (fun r=>if whO [x]=(q:Int) then ceS (ceP s L p [x]) t.secs (ceN s L q p) (k+1) r else ceN s L q p r)):=hid (HCZ.out.set _ (fun j hj=>by rw[HNZ.out j,show tp z (max 1 P)=max 1 P by unfold tp;rw[if_pos (.inr hlt)]]))
           have d3:decide (max 1 P<z)=true:=by simp;omega
           clear HNZ HZ9
           go_wp2_with fail
           go_roundw
           case rel=>exact⟨k+1,by go_num,by omega,HF.out⟩
           case measure=>simp[intOf];omega
          ·have HF:Hid (CE wr_o wr bR rs (fun r=>if whO [x]=(q:Int) then ceS (ceP s L p [x]) t.secs (ceN s L q p) (k+1) r else ceN s L q p r)):=hid (HCZ.out.congr (fun j hj=>by
            rw[HNZ.out j,show tp z (max 1 P)=z by unfold tp;rw[if_neg (fun h=>h.elim hz hlt)]]
            by_cases e:j=rr
            ·subst e;rw[if_pos rfl,HZ9.out]
            ·rw[if_neg e]))
           have d3:decide (max 1 P<z)=false:=by simp;omega
           clear HNZ HZ9
           go_wp2_with fail
           go_roundw
           case rel=>exact⟨k+1,by go_num,by omega,HF.out⟩
           case measure=>simp[intOf];omega
        ·have d1:(whO l == (q:Int))=false:=by simp[hwq]
         have d2:decide (whO l=(q:Int))=false:=by simp[hwq]
         have HF:Hid (CE wr_o wr bR rs (ceN s L q (p+1))):=hid (HC3.out.congr (fun j hj=>by rw[HCN.out j,if_neg hwq,if_neg hwq]))
         clear HCN
         go_wp2
         go_roundw
         case rel=>exact⟨p+1,by go_num,by omega,HF.out⟩
         case measure=>simp[intOf];omega
       ·have hke:k=sl:=by omega
        have b4:decide ((k:Int)<(sl:Int))=false:=by simp;omega
        have HF:Hid (CE wr_o wr bR rs (ceN s L q (p+1))):=hid (HC3.out.congr (fun j hj=>by rw[HCN.out j,hke]))
        clear HCN
        go_wp2
        go_roundw
        case rel=>exact⟨p+1,by go_num,by omega,HF.out⟩
        case measure=>simp[intOf];omega
     ·have hpe:p=N:=by omega
      have b4:decide ((p:Int)<(N:Int))=false:=by simp;omega
      have HON:Hid (((List.range q).map (ceR s L)).length=q):=hid (by simp)
      have HOL:Hid (vs.length=q):=hid (HO.out.len.trans HON.out)
      have HRW:Hid (Ov wr (.slice (some ⟨bR,0,none⟩) rs rs) (ceR s L q)):=hid (by
       unfold ceR
       rw[HRS.out,HN.out,←hpe]
       exact vals_ov HC.out.v (by unfold maxLen;omega))
      have HRN:Hid ((List.range (q+1)).map (ceR s L)=(List.range q).map (ceR s L) ++ [ceR s L q]):=hid (by rw[List.range_succ,List.map_append];rfl)
      have hnw:∀ k,(Value.slice (some ⟨bR,0,none⟩) rs rs).ownBlock=some k→wr_o.heap.size≤k:=fun k e=>by
       have e':bR=k:=by simpa [Value.ownBlock] using e
       rw[←e'];exact HC.out.h
      have HNW:=hid hnw
      clear hnw
      go_wp2_with (at_builtin;refine wpList_append_sh _ rfl _ _ 29 rfl 26 iq _ 1 24 Tryz.underlying29 IQ.out.1 IQ.out.2.1 IQ.out.2.2.1 IQ.out.2.2.2 rfl (by omega) v q vs rfl (by have h9:=((HO.out.no HC.out.but).no ((But.refl No wr).alloc (.cells #[.slice (some ⟨bR,0,none⟩) rs rs] 26))).row;rw[HOL.out] at h9;exact h9) (wr.heap.size+1) (some ⟨wr.heap.size,0,none⟩) 1 1 [.slice (some ⟨bR,0,none⟩) rs rs] (by simp[Act.eval]) (v_one_reads wr (.slice (some ⟨bR,0,none⟩) rs rs) _) (by simp[Value.oneCell']) (by unfold maxLen;omega) (by omega) ?_;intro A5 c5 w5 hown5 hgrow5 hat5;have HO5:=hid (HO.out.app HC.out.but HRW.out HNW.out ((But.refl No wr).alloc (.cells #[.slice (some ⟨bR,0,none⟩) rs rs] 26)) (by rw[HOL.out]) hown5 hgrow5 hat5);clear hown5 hgrow5 hat5)
      go_roundw
      case rel=>exact⟨_,_,q+1,rfl,by go_num,by omega,by rw[HRN.out];exact HO5.out⟩
      case measure=>simp[intOf];omega
   ·have hqe:m=q:=by omega
    have b3:decide ((q:Int)<(m:Int))=false:=by simp;omega
    have HV:Hid ((List.range q).map (ceR s L)=ceV s L):=hid (by unfold ceV;rw[HCO.out,hqe];rfl)
    rw[HV.out] at HO
    clear hqe
    go_wp2
    go_ret2
    exact Or.inr ⟨by first | rfl | trivial,v,vs,rfl,HO.out.from HB2.out⟩
end Go.Proofs.YtikcigjbhohboaaGreat.pln
end
section
namespace Go.Proofs.YtikcigjbhohboaaGreat.pln
open Go.ChangeShapes Go.WideShapes Go.ChangeAt Go.RowKit Go.Deep val
def askV (t:Tsk) (r:Int):Bool:=t.secs.any (fun x=>decide (x.2.1=r))
end Go.Proofs.YtikcigjbhohboaaGreat.pln
end
