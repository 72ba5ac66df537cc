/- Part 29 of a proof: PlR13 PlS9 PlX. -/
import Derived.Test.YtjfaiaipojfhgaaGreatK28
section
namespace Go.Proofs.YtjfaiaipojfhgaaGreat.pln
open Go.Lib (hid)
open Go.ChangeShapes Go.WideShapes Go.ChangeAt Go.RowKit Go.Deep val ter
theorem ceV_len (s:Sys) (L:List (List Pc)):(ceV s L).length=s.co.toNat:=by unfold ceV;rw[List.length_map,List.length_range]
theorem ceV_at {s:Sys} {L:List (List Pc)} {c:Nat} (h:c<s.co.toNat):(ceV s L)[c]? = some (ceR s L c):=by unfold ceV;simp[h]
theorem ceR_len (s:Sys) (L:List (List Pc)) (c:Nat):(ceR s L c).length=s.rs.toNat:=by unfold ceR;rw[List.length_map,List.length_range]
theorem rceil_ok {s:Sys} {A:Option Addr} {n c:Nat} {A':Option Addr} {N c':Nat} {L:List (List Pc)} {w:World} (hs:RSys w A n c s) (hl:RPl w A' N L) (hr:plR s L=true):Calls Tryz.prog 12 #[sysV s A n c,.slice A' N c'] w fun e w'=>∃ AZ cZ,e=.returned (.tuple #[.slice AZ s.co.toNat cZ,.bool true])∧But No w w'∧RNs w' AZ s.co.toNat (ceV s L):=by
 refine(rceil_any s A n c A' N c' L w hs hl).mono ?_
 rintro e w' (⟨h,_⟩ | ⟨_,v,vs,rfl,h⟩)
 ·rw[hr] at h;cases h
 obtain⟨hc,hrs,_⟩:=right_len (plR_parts hr).1
 obtain⟨AZ,cZ,rfl,hz⟩:=h.ns (by rw[ceV_len];omega) (fun l hl=>by
  unfold ceV at hl
  obtain⟨k,_,rfl⟩:=List.mem_map.1 hl
  rw[ceR_len];omega)
 rw[ceV_len] at hz
 exact⟨AZ,cZ,by rw[ceV_len],h.but,hz⟩
theorem rpieces_rd {A:Option Addr} {n c:Nat} {L:List (List Pc)} {co:Int} {w:World} (h:RPl w A n L) (hn:n≤24) (hB:∀ l ∈ L,l.length≤8):Calls Tryz.prog 37 #[.slice A n c,.int .i64 co] w fun e w'=>∃ AL cl,e=.returned (.slice AL (apS co L).length cl)∧But No w w'∧(∀ b off,AL=some ⟨b,off,none⟩→w.heap.size≤b)∧RAp w' AL (apS co L).length (apS co L):=by
 refine(rpieces_any A n c L co w h hn hB).mono ?_
 rintro e w' ⟨v,rfl,hr⟩
 obtain⟨AL,cl,rfl,_,ho,ha⟩:=hr.own.rd (by have:=apN_len (c:=co) hB L.length (Nat.le_refl _);unfold apS;have:=h.len;omega)
 exact⟨AL,cl,rfl,hr.but,fun b off e=>hr.new b (ho b off e),ha⟩
theorem rk_bu {s:Sys} {L:List (List Pc)} (h:plR s L=true) {i:Nat} {rl:List Pc} (hi:(rkV s L)[i]? = some rl) {y:Pc} (hy:y ∈ rl):1≤y.bu∧y.bu≤1099511627776:=by
 obtain⟨hr,hlen,hok⟩:=plR_parts h
 have hi2:i<L.length:=by have:=(List.getElem?_eq_some_iff.1 hi).1;rw[rkV_len] at this;exact this
 obtain⟨l,hli⟩:∃ l,L[i]? = some l:=⟨_,List.getElem?_eq_getElem hi2⟩
 obtain⟨t,hti⟩:∃ t,s.ts[i]? = some t:=⟨_,List.getElem?_eq_getElem (by omega)⟩
 rw[rkV_at hli] at hi
 cases hi
 obtain⟨k,hk⟩:=List.mem_iff_getElem?.1 hy
 obtain⟨x,hx,rfl⟩:=rkL_at hk
 have h5:=okS_at hok hli
 rw[getT hti] at h5
 have h6:=okL_bu h5 hx
 have h7:=((right_nums hr).2.2.2 t (List.mem_of_getElem? hti)).1
 show 1≤x.bu∧x.bu≤1099511627776
 omega
theorem sumB_bd {s:Sys} {l:List Pc} (hl:∀ y ∈ l,1≤y.bu∧y.bu≤1099511627776) (h1:1≤s.la∧s.la≤50):∀ k,k≤l.length→0≤sumB s l k∧sumB s l k≤(k:Int)*1099511627826
 | 0,_=>by rw[sumB];omega
 | k+1,hk=>by
  have ih:=sumB_bd hl h1 k (by omega)
  have hx:l[k]? = some l[k]:=List.getElem?_eq_getElem (by omega)
  have hb:=hl _ (List.mem_of_getElem? hx)
  rw[sumB_next hx]
  omega
theorem erJ_po {s:Sys} {R:List (List Pc)} {Z:List (List Int)} {l:List Ap} {c:Nat} (h:s.po=2):∀ j,erJ s R Z l c j=0
 | 0=>rfl
 | j+1=>by rw[erJ,if_neg (by rw[erJ_po h j];simp)];unfold erX;rw[if_pos (.inr h)]
set_option maxRecDepth 100000 in
set_option maxHeartbeats 8000000 in
theorem rcheck_any (s:Sys) (A:Option Addr) (n c:Nat) (A':Option Addr) (N c':Nat) (L:List (List Pc)) (w:World) (hs:RSys w A n c s) (hl:RPl w A' N L):Calls Tryz.prog 22 #[sysV s A n c,.slice A' N c'] w fun e w'=>∃ v,e=.returned (.tuple #[v,.int .i64 (chkV s L).2.1,.int .i64 (chkV s L).2.2])∧But No w w'∧Ov w' v (chkV s L).1:=by
 have hb0:But No w (w.alloc (.cells (boxS s A n c) 24)):=(But.refl No w).alloc _
 have HB0:=hid hb0
 have BS:=hid (Blk.new w (boxS s A n c) 24)
 have BK:Hid (∀ W,But No (w.alloc (.cells (boxS s A n c) 24)) W→S9 W w.heap.size s A n c):=hid (fun W hb=>sys_cells (BS.out.but hb (fun f=>f)))
 obtain⟨k0,k1,k2,k3,k4,k5,k6,k7,k8⟩:=BK.out _ (But.refl No _)
 cases hr:plR s L with
 | false =>
  have CR:=hid (rrank_no (c:=c) (c':=c') (hs.no hb0) (hl.no hb0) hr)
  have HV:Hid (chkV s L=([], -1,1)):=hid (by unfold chkV;rw[hr];rfl)
  clear hs hl hb0 hr
  unfold sysV at CR ⊢
  unfold boxS at *
  go_enter Tryz.func22,Tryz.ntmps22
  go_wp2_with (go_at_call 11;(with_reducible refine CR.out.mono ?_);rintro e w1 ⟨rfl,hb1⟩;have HB1:=hid hb1;clear hb1)
  refine bodyPost_ret (v:=.tuple #[.slice none 0 0,.int .i64 (-1),.int .i64 1]) (by simp[results,Tryz.results22,go_sem]) rfl ?_
  rw[HV.out]
  exact⟨_,rfl,HB0.out.trans HB1.out,Ov.nil _⟩
 | true =>
  have HPR:=hid hr
  obtain⟨hrt,hlen,hok⟩:=plR_parts hr
  obtain⟨hL24,hL8⟩:=plR_small hr
  obtain⟨hco,hrs8,hts1,_,_⟩:=right_len hrt
  have HRT:=hid hrt
  have HN:=hid hl.len
  have hN24:N≤24:=by rw[←hl.len];exact hL24
  have hN0:0<N:=by rw[←hl.len,hlen];omega
  have HTN:Hid (s.ts.length=N):=hid (by rw[←hlen,hl.len])
  have HB8:Hid (∀ m ∈ rkV s L,m.length≤8):=hid (fun m hm=>by obtain⟨i,l,hl,rfl⟩:=rkV_mem hm;unfold rkL;rw[List.length_map];exact hL8 l (List.mem_of_getElem? hl))
  have CR:=hid (rrank_ok (c:=c) (c':=c') (hs.no hb0) (hl.no hb0) hr)
  have CC:Hid (∀ W,But No w W→Calls Tryz.prog 12 #[sysV s A n c,.slice A' N c'] W fun e w'=>∃ AZ cZ,e=.returned (.tuple #[.slice AZ s.co.toNat cZ,.bool true])∧But No W w'∧RNs w' AZ s.co.toNat (ceV s L)):=hid (fun W hb=>rceil_ok (hs.no hb) (hl.no hb) hr)
  have HV:Hid (chkV s L=if (erN s (rkV s L) (ceV s L) s.co.toNat).2≠0 then ([],erN s (rkV s L) (ceV s L) s.co.toNat) else ((List.range N).map (bdC s (rkV s L) (ceV s L) s.co.toNat), -1,0)):=hid (by unfold chkV;rw[hr,if_pos rfl,hl.len])
  have HIN:=hid (fun co=>rk_inP hl hr co)
  have HAP:=hid (fun co y (hy:y ∈ apS co (rkV s L))=>rk_ap hl hr hy)
  have HSW:=hid hs
  have HTS:=hid hs.ts
  have HFI:=hid hs.fit
  have HZA:=hid (fun q (h:q<s.co.toNat)=>ceV_at (L:=L) h)
  have HZL:=hid (fun q=>ceR_len s L q)
  obtain⟨i3,hi0,hz0,hz1,hz2⟩:=info_parts info3
  have I3:Hid (Tryz.prog.info? 3=some i3∧i3.zero=some (.int .i64 0)∧i3.size=1∧i3.bytes=8):=⟨hi0,hz0,hz1,hz2⟩
  obtain⟨m,hm⟩:∃ m,s.co.toNat=m:=⟨_,rfl⟩
  have HCO:Hid (s.co=(m:Int)):=hid (by omega)
  have hm8:1≤m∧m≤8:=by omega
  rw[hm] at CC HV HZA
  clear hl hb0 hr hrt hlen hok hL24 hL8 hco hrs8 hts1 hm hi0 hz0 hz1 hz2 hs k0 k1 k2 k3 k4 k5 k6 k7 k8
  obtain⟨k0,k1,k2,k3,k4,k5,k6,k7,k8⟩:=BK.out _ (But.refl No _)
  unfold sysV at CR CC ⊢
  unfold boxS at HB0 BS BK CR k0 k1 k2 k3 k4 k5 k6 k7 k8
  generalize chkV s L=V at HV ⊢
  go_enter Tryz.func22,Tryz.ntmps22
  go_upto_region 6 with(first
   | (go_at_call 11;(with_reducible refine CR.out.mono ?_);rintro e w1 ⟨A1,c1,rfl,hb1,hpl⟩;have HBK:=hid hb1;have HB1:=hid (HB0.out.trans hb1);have HPL:=hid hpl;obtain⟨k0,k1,k2,k3,k4,k5,k6,k7,k8⟩:=BK.out _ hb1;clear hb1 hpl)
   | (go_at_call 12;(with_reducible refine(CC.out _ HB1.out).mono ?_);rintro e w2 ⟨AZ,cZ,rfl,hb2,hz⟩;have HBK2:=hid (HBK.out.trans hb2);have HB2:=hid (HB1.out.trans hb2);have HPL2:=hid (HPL.out.no hb2);have HNS:=hid hz;clear hb2 hz)
   | (at_make;refine wpList_make_full _ rfl _ _ 39 rfl 0 3 i3 _ 1 Tryz.underlying39 I3.out.1 I3.out.2.1 I3.out.2.2.1 .i64 .i64 _ _ N rfl rfl rfl rfl (by rw[I3.out.2.2.2];omega) (by unfold maxLen;omega) (Nat.zero_le _) ?_;intro w3 hown hgrow;have hb3:=(But.refl No w2).grown hgrow (fun k e=>by cases e);have HCE:Hid (CE w2 w3 w2.heap.size N (bdC s (rkV s L) (ceV s L) 0)):=hid ⟨vals_made1 rfl hown,Nat.le_refl _,hb3⟩;clear hown hgrow hb3))
  have BK2:Hid (∀ W,But No w2 W→S9 W w.heap.size s A n c):=hid (fun W hb=>BK.out W (HBK2.out.trans hb))
  have HTS2:=hid (HTS.out.no HB2.out)
  clear k0 k1 k2 k3 k4 k5 k6 k7 k8 HBK HBK2 BK CR CC BS HB0
  have hbB0:=HCE.out.h
  generalize w2.heap.size=bB at HCE ⊢
  clear hbB0
  go_wp2_with fail
  go_loopw [12] (fun i wr=>∃ q:Nat,i=.int .i64 (q:Int)∧q≤m∧Hid ((erN s (rkV s L) (ceV s L) q).2=0)∧Hid (CE w2 wr bB N (bdC s (rkV s L) (ceV s L) q))) (fun i _=>m-(intOf i).toNat)
  case atStart=>exact⟨0,rfl,by omega,rfl,HCE.out⟩
  case round =>
   obtain⟨q,rfl,hq,HER,HC⟩:=hrel
   have hq0:(0:Int)≤(q:Int):=Int.natCast_nonneg q
   obtain⟨k0,k1,k2,k3,k4,k5,k6,k7,k8⟩:=BK2.out _ HC.out.but
   rw[HCO.out] at k0
   by_cases hqm:q<m
   ·have hqm2:(q:Int)<(m:Int):=by omega
    have b3:decide ((q:Int)<(m:Int))=true:=by simp;omega
    have CP:Hid (∀ W,But No w2 W→Calls Tryz.prog 37 #[.slice A1 N c1,.int .i64 (q:Int)] W fun e w'=>∃ AL cl,e=.returned (.slice AL (apS (q:Int) (rkV s L)).length cl)∧But No W w'∧(∀ b off,AL=some ⟨b,off,none⟩→W.heap.size≤b)∧RAp w' AL (apS (q:Int) (rkV s L)).length (apS (q:Int) (rkV s L))):=hid (fun W hb=>rpieces_rd (HPL2.out.no hb) hN24 HB8.out)
    have HQ:Hid (erN s (rkV s L) (ceV s L) (q+1)=if erC s (rkV s L) (ceV s L) (apS (q:Int) (rkV s L)) q≠0 then ((q:Int),erC s (rkV s L) (ceV s L) (apS (q:Int) (rkV s L)) q) else (-1,0)):=hid (by rw[erN,if_neg (by rw[HER.out];simp)])
    have HBQ:Hid (bdC s (rkV s L) (ceV s L) (q+1)=bdJ s (rkV s L) (ceV s L) (apS (q:Int) (rkV s L)) q (bdC s (rkV s L) (ceV s L) q) (apS (q:Int) (rkV s L)).length):=hid (by rw[bdC])
    have HINQ:=hid (HIN.out (q:Int))
    obtain⟨l,hl⟩:∃ l,apS (q:Int) (rkV s L)=l:=⟨_,rfl⟩
    have HLE:=hid hl
    rw[hl] at CP HQ HBQ HINQ
    obtain⟨nl,hnl⟩:∃ nl,l.length=nl:=⟨_,rfl⟩
    have HLL:=hid hnl
    rw[hnl] at CP HBQ
    have hnl2:nl≤200:=by rw[←hnl];exact HINQ.out.2.2
    clear hl hnl
    go_upto_region 10 with(go_at_call 37;(with_reducible refine(CP.out _ HC.out.but).mono ?_);rintro e w4 ⟨AL,cl,rfl,hb4,hnew,hra⟩;have HB4:=hid hb4;have HRA:=hid hra;have HC4:=hid (HC.out.no hb4);have HNE:Hid (∀ b off,AL=some ⟨b,off,none⟩→¬b=bB):=hid (fun b off e h=>by have h1:=hnew b off e;have h2:=HC.out.v.lt;omega);clear hb4 hra hnew)
    clear k0 k1 k2 k3 k4 k5 k6 k7 k8
    obtain⟨k0,k1,k2,k3,k4,k5,k6,k7,k8⟩:=BK2.out _ HC4.out.but
    by_cases hpo:s.po=2
    ·have b4:(s.po == 2)=true:=by simp[hpo]
     have b4':decide (s.po=2)=true:=by simp[hpo]
     have HPO:=hid hpo
     clear hpo
     by_cases hn0:0<nl
     ·have hn1:(0:Int)<(nl:Int):=by omega
      have b5:decide ((0:Int)<(nl:Int))=true:=by simp;omega
      have CEd:Hid (Calls Tryz.prog 38 #[.agg #[.int .i64 s.co,.int .i64 s.po,.int .i64 s.pr,.int .i64 s.re,.int .i64 s.sw,.int .i64 s.fi,.int .i64 s.la,.int .i64 s.rs,.slice A n c],.slice A1 N c1,.slice AZ m cZ,.slice AL nl cl,.int .i64 (q:Int)] w4 fun e w'=>e=.returned (.int .i64 (edfV s (rkV s L) (ceV s L) l q))∧But No w4 w'):=hid (redf_any s A n c A1 N c1 (rkV s L) AZ m cZ (ceV s L) AL nl cl l q w4 (HSW.out.no (HB2.out.trans HC4.out.but)) (HPL2.out.no HC4.out.but) (HNS.out.no HC4.out.but) HRA.out HRT.out HTN.out.symm (ceR s L q) (HZA.out q hqm) (HZL.out q) HINQ.out.1 hnl2)
      have HEC:Hid (erC s (rkV s L) (ceV s L) l q=if edfV s (rkV s L) (ceV s L) l q≠0 then edfV s (rkV s L) (ceV s L) l q else erJ s (rkV s L) (ceV s L) l q nl):=hid (by
       unfold erC
       rw[HLL.out]
       by_cases e:edfV s (rkV s L) (ceV s L) l q=0
       ·rw[if_neg (fun h=>h.2.2 e),if_neg (by simp[e])]
       ·rw[if_pos ⟨HPO.out,by intro h;rw[h] at HLL;have:=HLL.out;simp at this;omega,e⟩,if_pos e])
      generalize edfV s (rkV s L) (ceV s L) l q=E at CEd HEC
      by_cases he:E=0
      ·subst he
       rw[if_neg (by simp)] at HEC
       go_wp2_with (go_at_call 38;(with_reducible refine CEd.out.mono ?_);rintro e w5 ⟨rfl,hb5⟩;have HC5:=hid (HC4.out.no hb5);have HRA5:=hid (HRA.out.no hb5);clear hb5)
       go_loopw [15] (fun i wr=>∃ j:Nat,i=.int .i64 (j:Int)∧j≤nl∧Hid (CE w2 wr bB N (bdJ s (rkV s L) (ceV s L) l q (bdC s (rkV s L) (ceV s L) q) j))∧Hid (RAp wr AL nl l)) (fun i _=>nl-(intOf i).toNat)
       case atStart=>exact⟨0,rfl,by omega,HC5.out,HRA5.out⟩
       case round =>
        obtain⟨j,rfl,hj,HC2,HRW⟩:=hrel
        have hj0:(0:Int)≤(j:Int):=Int.natCast_nonneg j
        by_cases hjn:j<nl
        ·have hjn2:(j:Int)<(nl:Int):=by omega
         have b7:decide ((j:Int)<(nl:Int))=true:=by simp;omega
         obtain⟨x,hx⟩:∃ x,l[j]? = some x:=⟨_,List.getElem?_eq_getElem (by rw[HLL.out];exact hjn)⟩
         obtain⟨lx,xo,t,hlx,hxo,htx,hxp,hrx,hrk,hcoq,hbux,hdex,hk8⟩:=HAP.out (q:Int) x (by rw[HLE.out];exact List.mem_of_getElem? hx)
         have HJN:Hid (bdJ s (rkV s L) (ceV s L) l q (bdC s (rkV s L) (ceV s L) q) (j+1)=if x.p.ti=true then bdJ s (rkV s L) (ceV s L) l q (bdC s (rkV s L) (ceV s L) q) j else fun i=>if i=x.i then bndX s (rkV s L) (ceV s L) l q x else bdJ s (rkV s L) (ceV s L) l q (bdC s (rkV s L) (ceV s L) q) j i):=hid (by rw[bdJ,getA hx])
         have HEN:Hid (erJ s (rkV s L) (ceV s L) l q (j+1)=if erJ s (rkV s L) (ceV s L) l q j≠0 then erJ s (rkV s L) (ceV s L) l q j else erX s (rkV s L) (ceV s L) l q x):=hid (by rw[erJ,getA hx])
         obtain⟨bL,offL,hAL,_,c0,c1',c2,c3,c4,c5,c6⟩:=HRW.out.at1 hx
         subst hAL
         have hiN:x.i<N:=by have h1:=(List.getElem?_eq_some_iff.1 htx).1;rw[HTN.out] at h1;exact h1
         have hiN2:((x.i:Nat):Int)<(N:Int):=by omega
         have hi0:(0:Int)≤((x.i:Nat):Int):=Int.natCast_nonneg _
         have hxk0:(0:Int)≤((x.k:Nat):Int):=Int.natCast_nonneg _
         have hbx:But No wr (wr.alloc (.cells #[.int .i64 x.p.co,.int .i64 x.p.bu,.int .i64 x.p.de,.int .i64 x.p.pr,.bool x.p.ti,.int .i64 (x.i:Int),.int .i64 (x.k:Int)] 86)):=(But.refl No wr).alloc _
         have HBX:=hid hbx
         have HXC:Hid (∀ W,But No (wr.alloc (.cells #[.int .i64 x.p.co,.int .i64 x.p.bu,.int .i64 x.p.de,.int .i64 x.p.pr,.bool x.p.ti,.int .i64 (x.i:Int),.int .i64 (x.k:Int)] 86)) W→(W.cell? ⟨wr.heap.size,0,none⟩=some (.int .i64 x.p.co)∧W.cell? ⟨wr.heap.size,1,none⟩=some (.int .i64 x.p.bu)∧W.cell? ⟨wr.heap.size,2,none⟩=some (.int .i64 x.p.de)∧W.cell? ⟨wr.heap.size,3,none⟩=some (.int .i64 x.p.pr))∧W.cell? ⟨wr.heap.size,4,none⟩=some (.bool x.p.ti)∧W.cell? ⟨wr.heap.size,5,none⟩=some (.int .i64 (x.i:Int))∧W.cell? ⟨wr.heap.size,6,none⟩=some (.int .i64 (x.k:Int))):=hid (fun W hb=>by
          have h9:=(Blk.new wr #[.int .i64 x.p.co,.int .i64 x.p.bu,.int .i64 x.p.de,.int .i64 x.p.pr,.bool x.p.ti,.int .i64 (x.i:Int),.int .i64 (x.k:Int)] 86).but hb (fun f=>f)
          exact⟨⟨h9.cell (o:=0) rfl,h9.cell (o:=1) rfl,h9.cell (o:=2) rfl,h9.cell (o:=3) rfl⟩,h9.cell (o:=4) rfl,h9.cell (o:=5) rfl,h9.cell (o:=6) rfl⟩)
         obtain⟨⟨f0,f1,f2,f3⟩,f4,f5,f6⟩:=HXC.out _ (But.refl No _)
         have HCX:=hid (HC2.out.no hbx)
         have hcx:=HCX.out.v.cell hiN
         have hfx:=HCX.out.v.frozen x.i
         obtain⟨k0,k1,k2,k3,k4,k5,k6,k7,k8⟩:=BK2.out _ HCX.out.but
         obtain⟨bt,offt,AS,cS,hAn,ct0,ct1,_⟩:=(HTS2.out.no HCX.out.but).at1 htx
         subst hAn
         have hit:((x.i:Nat):Int)<(n:Int):=by have:=HTS2.out.len;have:=HTN.out;omega
         have HR2:=hid (HRW.out.no hbx)
         have HTD:Hid ((s.ts.getD x.i ts0).d=t.d):=hid (by rw[getT htx])
         have HXX:Hid (x ∈ l):=hid (List.mem_of_getElem? hx)
         have HCQ:=hid hcoq
         have HRX:=hid hrx
         have HRK:=hid hrk
         have HRB:Hid (∀ y ∈ rkL s L x.i lx,1≤y.bu∧y.bu≤1099511627776):=hid (fun y hy=>rk_bu HPR.out hrx hy)
         have HRL:Hid ((rkL s L x.i lx).length≤8):=hid (HB8.out _ (List.mem_of_getElem? hrx))
         clear hx hlx hxo htx hxp hrx hrk hcoq hbux hdex hbx
         generalize rkL s L x.i lx=rl at HRX HRK HRL HRB
         obtain⟨⟨pco,pbu,pde,ppr,pti⟩,xi,xk⟩:=x
         dsimp only at HJN HEN c0 c1' c2 c3 c4 c5 c6 hiN hiN2 hi0 hxk0 HBX HXC f0 f1 f2 f3 f4 f5 f6 HCX hcx hfx k0 k1 k2 k3 k4 k5 k6 k7 k8 ct0 ct1 hit HR2 HTD HXX HCQ HRX HRK hk8
         generalize t.d=td at ct1 HTD
         cases pti with
         | true =>
          rw[if_pos rfl] at HJN
          clear HXC hcx hfx HEN
          go_wp2_with fail
          go_roundw
          case rel=>exact⟨j+1,by go_num,by omega,by rw[HJN.out];exact HCX.out,HR2.out⟩
          case measure=>simp[intOf];omega
         | false =>
          rw[if_neg (by simp)] at HJN
          have HFE:Hid (∀ i,bdJ s (rkV s L) (ceV s L) l q (bdC s (rkV s L) (ceV s L) q) (j+1) i=if i=xi then td else bdJ s (rkV s L) (ceV s L) l q (bdC s (rkV s L) (ceV s L) q) j i):=hid (fun i=>by rw[HJN.out];unfold bndX;rw[if_pos HPO.out];dsimp only;rw[HTD.out])
          have HST:Hid (∀ W,But No (wr.alloc (.cells #[.int .i64 pco,.int .i64 pbu,.int .i64 pde,.int .i64 ppr,.bool false,.int .i64 (xi:Int),.int .i64 (xk:Int)] 86)) W→CE w2 (W.setCell ⟨bB,xi,none⟩ (.int .i64 td)) bB N (bdJ s (rkV s L) (ceV s L) l q (bdC s (rkV s L) (ceV s L) q) (j+1))∧RAp (W.setCell ⟨bB,xi,none⟩ (.int .i64 td)) (some ⟨bL,offL,none⟩) nl l):=hid (fun W hb=>⟨(HCX.out.no hb).set td (fun i _=>HFE.out i),(HR2.out.no hb).butS (S:=fun z=>z=bB) ((But.refl _ W).setCell (by rfl) _) HNE.out⟩)
          clear HJN HEN HXC HFE
          go_upto_region 20 with fail
          generalize wr.alloc (.cells #[.int .i64 pco,.int .i64 pbu,.int .i64 pde,.int .i64 ppr,.bool false,.int .i64 (xi:Int),.int .i64 (xk:Int)] 86)=wx at *
          go_region
          obtain⟨h71,h72⟩:=HST.out wx (But.refl No wx)
          have HC7:=hid (h71.no (But.refl No _).drew)
          have HR7:=hid (h72.no (But.refl No _).drew)
          clear h71 h72
          go_wp2_with fail
          go_roundw
          case rel=>exact⟨j+1,by go_num,by omega,HC7.out,HR7.out⟩
          case measure=>simp[intOf];omega
        ·have hjn2:j=nl:=by omega
         have b7:decide ((j:Int)<(nl:Int))=false:=by simp;omega
         have HE0:Hid ((erN s (rkV s L) (ceV s L) (q+1)).2=0):=hid (by rw[HQ.out,HEC.out,erJ_po HPO.out,if_neg (by simp)])
         have HC6:Hid (CE w2 wr bB N (bdC s (rkV s L) (ceV s L) (q+1))):=hid (by rw[HBQ.out,←hjn2];exact HC2.out)
         clear hjn2
         go_wp2_with fail
         go_roundw
         case rel=>exact⟨q+1,by go_num,by omega,HE0.out,HC6.out⟩
         case measure=>simp[intOf];omega
      ·have b6:(E != 0)=true:=by simp[he]
       rw[if_pos he] at HEC
       have HVE:Hid (V=([],(q:Int),E)):=hid (by
        have h1:(erN s (rkV s L) (ceV s L) (q+1))=((q:Int),E):=by rw[HQ.out,HEC.out,if_pos he]
        have h2:=erN_le (s:=s) (R:=rkV s L) (Z:=ceV s L) (show q+1≤m by omega) (by rw[h1];exact he)
        rw[HV.out,h2,h1,if_pos he])
       clear he
       go_wp2_with (go_at_call 38;(with_reducible refine CEd.out.mono ?_);rintro e w5 ⟨rfl,hb5⟩;have HB5:=hid (HC4.out.but.trans hb5);clear hb5)
       refine bodyPost_ret (v:=.tuple #[.slice none 0 0,.int .i64 (q:Int),.int .i64 E]) (by simp[results,Tryz.results22,go_sem]) rfl ?_
       rw[HVE.out]
       exact⟨_,rfl,HB2.out.trans HB5.out,Ov.nil _⟩
     ·have b5:decide ((0:Int)<(nl:Int))=false:=by simp;omega
      have HEC:Hid (erC s (rkV s L) (ceV s L) l q=erJ s (rkV s L) (ceV s L) l q nl):=hid (by
       unfold erC
       rw[HLL.out,if_neg (fun h=>h.2.1 (List.length_eq_zero_iff.1 (by rw[HLL.out];omega)))])
      have HC5:=HC4
      have HRA5:=HRA
      go_wp2_with fail
      go_loopw [15] (fun i wr=>∃ j:Nat,i=.int .i64 (j:Int)∧j≤nl∧Hid (CE w2 wr bB N (bdJ s (rkV s L) (ceV s L) l q (bdC s (rkV s L) (ceV s L) q) j))∧Hid (RAp wr AL nl l)) (fun i _=>nl-(intOf i).toNat)
      case atStart=>exact⟨0,rfl,by omega,HC5.out,HRA5.out⟩
      case round =>
       obtain⟨j,rfl,hj,HC2,HRW⟩:=hrel
       have hj0:(0:Int)≤(j:Int):=Int.natCast_nonneg j
       by_cases hjn:j<nl
       ·exact absurd hjn (by omega)
       ·have hjn2:j=nl:=by omega
        have b7:decide ((j:Int)<(nl:Int))=false:=by simp;omega
        have HE0:Hid ((erN s (rkV s L) (ceV s L) (q+1)).2=0):=hid (by rw[HQ.out,HEC.out,erJ_po HPO.out,if_neg (by simp)])
        have HC6:Hid (CE w2 wr bB N (bdC s (rkV s L) (ceV s L) (q+1))):=hid (by rw[HBQ.out,←hjn2];exact HC2.out)
        clear hjn2
        go_wp2_with fail
        go_roundw
        case rel=>exact⟨q+1,by go_num,by omega,HE0.out,HC6.out⟩
        case measure=>simp[intOf];omega
    ·have b4:(s.po == 2)=false:=by simp[hpo]
     have b4':decide (s.po=2)=false:=by simp[hpo]
     have HPO:=hid hpo
     clear hpo
     have HEC:Hid (erC s (rkV s L) (ceV s L) l q=erJ s (rkV s L) (ceV s L) l q nl):=hid (by
      unfold erC
      rw[HLL.out,if_neg (fun h=>HPO.out h.1)])
     have HC5:=HC4
     have HRA5:=HRA
     go_wp2_with fail
     go_loopw [15] (fun i wr=>∃ j:Nat,i=.int .i64 (j:Int)∧j≤nl∧Hid (erJ s (rkV s L) (ceV s L) l q j=0)∧Hid (CE w2 wr bB N (bdJ s (rkV s L) (ceV s L) l q (bdC s (rkV s L) (ceV s L) q) j))∧Hid (RAp wr AL nl l)) (fun i _=>nl-(intOf i).toNat)
     case atStart=>exact⟨0,rfl,by omega,rfl,HC5.out,HRA5.out⟩
     case round =>
      obtain⟨j,rfl,hj,HEJ,HC2,HRW⟩:=hrel
      have hj0:(0:Int)≤(j:Int):=Int.natCast_nonneg j
      by_cases hjn:j<nl
      ·have hjn2:(j:Int)<(nl:Int):=by omega
       have b7:decide ((j:Int)<(nl:Int))=true:=by simp;omega
       obtain⟨x,hx⟩:∃ x,l[j]? = some x:=⟨_,List.getElem?_eq_getElem (by rw[HLL.out];exact hjn)⟩
       obtain⟨lx,xo,t,hlx,hxo,htx,hxp,hrx,hrk,hcoq,hbux,hdex,hk8⟩:=HAP.out (q:Int) x (by rw[HLE.out];exact List.mem_of_getElem? hx)
       have HJN:Hid (bdJ s (rkV s L) (ceV s L) l q (bdC s (rkV s L) (ceV s L) q) (j+1)=if x.p.ti=true then bdJ s (rkV s L) (ceV s L) l q (bdC s (rkV s L) (ceV s L) q) j else fun i=>if i=x.i then bndX s (rkV s L) (ceV s L) l q x else bdJ s (rkV s L) (ceV s L) l q (bdC s (rkV s L) (ceV s L) q) j i):=hid (by rw[bdJ,getA hx])
       have HEN:Hid (erJ s (rkV s L) (ceV s L) l q (j+1)=if erJ s (rkV s L) (ceV s L) l q j≠0 then erJ s (rkV s L) (ceV s L) l q j else erX s (rkV s L) (ceV s L) l q x):=hid (by rw[erJ,getA hx])
       obtain⟨bL,offL,hAL,_,c0,c1',c2,c3,c4,c5,c6⟩:=HRW.out.at1 hx
       subst hAL
       have hiN:x.i<N:=by have h1:=(List.getElem?_eq_some_iff.1 htx).1;rw[HTN.out] at h1;exact h1
       have hiN2:((x.i:Nat):Int)<(N:Int):=by omega
       have hi0:(0:Int)≤((x.i:Nat):Int):=Int.natCast_nonneg _
       have hxk0:(0:Int)≤((x.k:Nat):Int):=Int.natCast_nonneg _
       have hbx:But No wr (wr.alloc (.cells #[.int .i64 x.p.co,.int .i64 x.p.bu,.int .i64 x.p.de,.int .i64 x.p.pr,.bool x.p.ti,.int .i64 (x.i:Int),.int .i64 (x.k:Int)] 86)):=(But.refl No wr).alloc _
       have HBX:=hid hbx
       have HXC:Hid (∀ W,But No (wr.alloc (.cells #[.int .i64 x.p.co,.int .i64 x.p.bu,.int .i64 x.p.de,.int .i64 x.p.pr,.bool x.p.ti,.int .i64 (x.i:Int),.int .i64 (x.k:Int)] 86)) W→(W.cell? ⟨wr.heap.size,0,none⟩=some (.int .i64 x.p.co)∧W.cell? ⟨wr.heap.size,1,none⟩=some (.int .i64 x.p.bu)∧W.cell? ⟨wr.heap.size,2,none⟩=some (.int .i64 x.p.de)∧W.cell? ⟨wr.heap.size,3,none⟩=some (.int .i64 x.p.pr))∧W.cell? ⟨wr.heap.size,4,none⟩=some (.bool x.p.ti)∧W.cell? ⟨wr.heap.size,5,none⟩=some (.int .i64 (x.i:Int))∧W.cell? ⟨wr.heap.size,6,none⟩=some (.int .i64 (x.k:Int))):=hid (fun W hb=>by
        have h9:=(Blk.new wr #[.int .i64 x.p.co,.int .i64 x.p.bu,.int .i64 x.p.de,.int .i64 x.p.pr,.bool x.p.ti,.int .i64 (x.i:Int),.int .i64 (x.k:Int)] 86).but hb (fun f=>f)
        exact⟨⟨h9.cell (o:=0) rfl,h9.cell (o:=1) rfl,h9.cell (o:=2) rfl,h9.cell (o:=3) rfl⟩,h9.cell (o:=4) rfl,h9.cell (o:=5) rfl,h9.cell (o:=6) rfl⟩)
       obtain⟨⟨f0,f1,f2,f3⟩,f4,f5,f6⟩:=HXC.out _ (But.refl No _)
       have HCX:=hid (HC2.out.no hbx)
       have hcx:=HCX.out.v.cell hiN
       have hfx:=HCX.out.v.frozen x.i
       obtain⟨k0,k1,k2,k3,k4,k5,k6,k7,k8⟩:=BK2.out _ HCX.out.but
       obtain⟨bt,offt,AS,cS,hAn,ct0,ct1,_⟩:=(HTS2.out.no HCX.out.but).at1 htx
       subst hAn
       have hit:((x.i:Nat):Int)<(n:Int):=by have:=HTS2.out.len;have:=HTN.out;omega
       have HR2:=hid (HRW.out.no hbx)
       have HTD:Hid ((s.ts.getD x.i ts0).d=t.d):=hid (by rw[getT htx])
       have HXX:Hid (x ∈ l):=hid (List.mem_of_getElem? hx)
       have HCQ:=hid hcoq
       have HRX:=hid hrx
       have HRK:=hid hrk
       have HRB:Hid (∀ y ∈ rkL s L x.i lx,1≤y.bu∧y.bu≤1099511627776):=hid (fun y hy=>rk_bu HPR.out hrx hy)
       have HRL:Hid ((rkL s L x.i lx).length≤8):=hid (HB8.out _ (List.mem_of_getElem? hrx))
       clear hx hlx hxo htx hxp hrx hrk hcoq hbux hdex hbx
       generalize rkL s L x.i lx=rl at HRX HRK HRL HRB
       obtain⟨⟨pco,pbu,pde,ppr,pti⟩,xi,xk⟩:=x
       dsimp only at HJN HEN c0 c1' c2 c3 c4 c5 c6 hiN hiN2 hi0 hxk0 HBX HXC f0 f1 f2 f3 f4 f5 f6 HCX hcx hfx k0 k1 k2 k3 k4 k5 k6 k7 k8 ct0 ct1 hit HR2 HTD HXX HCQ HRX HRK hk8
       generalize t.d=td at ct1 HTD
       have HEN:=hid (show erJ s (rkV s L) (ceV s L) l q (j+1)=_ from by rw[HEN.out,if_neg (by rw[HEJ.out];simp)])
       cases pti with
       | true =>
        rw[if_pos rfl] at HJN
        have HEZ:Hid (erJ s (rkV s L) (ceV s L) l q (j+1)=0):=hid (by rw[HEN.out];unfold erX;rw[if_pos (.inl rfl)])
        clear HXC hcx hfx HEN
        go_wp2_with fail
        go_roundw
        case rel=>exact⟨j+1,by go_num,by omega,HEZ.out,by rw[HJN.out];exact HCX.out,HR2.out⟩
        case measure=>simp[intOf];omega
       | false =>
        rw[if_neg (by simp)] at HJN
        have CF:=hid (rfixed_any s (some ⟨bt,offt,none⟩) n c A1 N c1 (rkV s L) AZ m cZ (ceV s L) (some ⟨bL,offL,none⟩) nl cl l ⟨⟨pco,pbu,pde,ppr,false⟩,xi,xk⟩ q _ (HSW.out.no (HB2.out.trans HCX.out.but)) (HPL2.out.no HCX.out.but) (HNS.out.no HCX.out.but) HR2.out HRT.out HTN.out.symm (ceR s L q) (HZA.out q hqm) (HZL.out q) HINQ.out.1 HINQ.out.2.1 HXX.out HCQ.out hnl2)
        unfold sysV apV at CF
        dsimp only at CF
        have HBN:Hid ((fixV s (rkV s L) (ceV s L) l q ⟨⟨pco,pbu,pde,ppr,false⟩,xi,xk⟩).2=0→1≤(fixV s (rkV s L) (ceV s L) l q ⟨⟨pco,pbu,pde,ppr,false⟩,xi,xk⟩).1∧(fixV s (rkV s L) (ceV s L) l q ⟨⟨pco,pbu,pde,ppr,false⟩,xi,xk⟩).1≤1099511627776):=hid (fun h=>⟨(rsp.bn_ok h).2.2.1,(rsp.bn_ok h).2.2.2.1⟩)
        have HFE:Hid (∀ i,bdJ s (rkV s L) (ceV s L) l q (bdC s (rkV s L) (ceV s L) q) (j+1) i=if i=xi then (fixV s (rkV s L) (ceV s L) l q ⟨⟨pco,pbu,pde,ppr,false⟩,xi,xk⟩).1+sumB s rl xk else bdJ s (rkV s L) (ceV s L) l q (bdC s (rkV s L) (ceV s L) q) j i):=hid (fun i=>by rw[HJN.out];unfold bndX;rw[if_neg HPO.out];dsimp only;rw[show (rkV s L).getD xi []=rl by simp[List.getD,HRX.out]])
        have HEF:Hid (erJ s (rkV s L) (ceV s L) l q (j+1)=(fixV s (rkV s L) (ceV s L) l q ⟨⟨pco,pbu,pde,ppr,false⟩,xi,xk⟩).2):=hid (by rw[HEN.out];unfold erX;rw[if_neg (by rintro(h | h);cases h;exact HPO.out h)])
        generalize (fixV s (rkV s L) (ceV s L) l q ⟨⟨pco,pbu,pde,ppr,false⟩,xi,xk⟩).1=n1 at CF HBN HFE
        generalize (fixV s (rkV s L) (ceV s L) l q ⟨⟨pco,pbu,pde,ppr,false⟩,xi,xk⟩).2=e1 at CF HBN HEF
        clear HJN HEN
        have BK3:Hid (∀ W,But No (wr.alloc (.cells #[.int .i64 pco,.int .i64 pbu,.int .i64 pde,.int .i64 ppr,.bool false,.int .i64 (xi:Int),.int .i64 (xk:Int)] 86)) W→S9 W w.heap.size s (some ⟨bt,offt,none⟩) n c):=hid (fun W hb=>BK2.out W (HCX.out.but.trans hb))
        have HPL3:=hid (HPL2.out.no HCX.out.but)
        go_upto_region 21 with fail
        generalize wr.alloc (.cells #[.int .i64 pco,.int .i64 pbu,.int .i64 pde,.int .i64 ppr,.bool false,.int .i64 (xi:Int),.int .i64 (xk:Int)] 86)=wx at *
        by_cases he:e1=0
        ·subst he
         obtain⟨hn1,hn2⟩:=HBN.out rfl
         have ARMF:True:=trivial
         clear HBN
         go_wp2_with (go_at_call 39;(with_reducible refine CF.out.mono ?_);rintro e w6 ⟨rfl,hb6⟩;have HB6:=hid hb6;clear hb6)
         clear f0 f1 f2 f3 f4 f5 f6 k0 k1 k2 k3 k4 k5 k6 k7 k8 hcx hfx c0 c1' c2 c3 c4 c5 c6 ct0 ct1
         go_loopw [17,19] (fun u i w7=>∃ k:Nat,u=.int .i64 (n1+sumB s rl k)∧i=.int .i64 (k:Int)∧k≤xk∧Hid (But No wx w7)) (fun _ i _=>xk-(intOf i).toNat)
         case atStart=>exact⟨0,by rw[sumB,Int.add_zero],rfl,by omega,HB6.out⟩
         case round =>
          obtain⟨k,rfl,rfl,hk,HB7⟩:=hrel
          have hk0:(0:Int)≤(k:Int):=Int.natCast_nonneg k
          obtain⟨_,f4,f5,f6⟩:=HXC.out wr HB7.out
          obtain⟨k0,k1,k2,k3,k4,k5,k6,k7,k8⟩:=BK3.out wr HB7.out
          have hxkl:xk<rl.length:=(List.getElem?_eq_some_iff.1 HRK.out).1
          have hla:=(right_nums HRT.out).2.1
          have hsb:=sumB_bd HRB.out hla k (by omega)
          have hk9:k≤8:=by have:=HRL.out;omega
          by_cases hkx:k<xk
          ·have hkx2:(k:Int)<(xk:Int):=by omega
           have b8:decide ((k:Int)<(xk:Int))=true:=by simp;omega
           obtain⟨y,hy⟩:∃ y,rl[k]? = some y:=⟨_,List.getElem?_eq_getElem (by omega)⟩
           have hyb:=HRB.out y (List.mem_of_getElem? hy)
           have HSB:=hid (sumB_next (s:=s) hy)
           obtain⟨bP,offP,AR,cR,hA1,_,r0,_,hrp⟩:=(HPL3.out.no HB7.out).at1 HRX.out
           subst hA1
           obtain⟨bQ,offQ,hAR,_,_,p1,_,_,_⟩:=hrp.at1 hy
           subst hAR
           obtain⟨nr,hnr⟩:∃ nr,rl.length=nr:=⟨_,rfl⟩
           rw[hnr] at r0 hxkl
           have hknr:(k:Int)<(nr:Int):=by omega
           clear hy hrp hnr hxkl
           obtain⟨_,yb,_,_,_⟩:=y
           dsimp only at p1 hyb HSB
           obtain⟨S,hS⟩:∃ S,n1+sumB s rl k=S:=⟨_,rfl⟩
           have hS2:0≤S∧S≤10000000000000:=by omega
           have HSS:Hid (S+yb+s.la-1=n1+sumB s rl (k+1)):=hid (by rw[HSB.out];omega)
           rw[hS]
           clear hS hsb
           generalize s.la=la at hla HSS k6
           obtain⟨S2,hS3⟩:∃ S2,S+yb+la-1=S2:=⟨_,rfl⟩
           rw[hS3] at HSS
           have w1_:IntKind.i64.wrap (S+yb)=S+yb:=IntWalk.i64_in _ (by omega)
           have w2_:IntKind.i64.wrap (S+yb+la)=S+yb+la:=IntWalk.i64_in _ (by omega)
           have w3_:IntKind.i64.wrap (S+yb+la-1)=S2:=by rw[IntWalk.i64_in _ (by omega)];exact hS3
           clear hS3
           go_upto_region 27 with fail
           go_quiet (fail)
           go_wp2_with fail
           go_roundw
           case rel=>exact⟨k+1,by rw[HSS.out],by go_num,by omega,HB7.out.drewN _⟩
           case measure=>simp[intOf];omega
          ·have hke:k=xk:=by omega
           have b8:decide ((k:Int)<(xk:Int))=false:=by simp;omega
           have hcx:=(HCX.out.no HB7.out).v.cell hiN
           have hfx:=(HCX.out.no HB7.out).v.frozen xi
           obtain⟨S,hS⟩:∃ S,n1+sumB s rl k=S:=⟨_,rfl⟩
           have HC8:Hid (CE w2 (wr.setCell ⟨bB,xi,none⟩ (.int .i64 S)) bB N (bdJ s (rkV s L) (ceV s L) l q (bdC s (rkV s L) (ceV s L) q) (j+1))):=hid ((HCX.out.no HB7.out).set S (fun i _=>by rw[HFE.out i,←hke,hS]))
           have HR8:Hid (RAp (wr.setCell ⟨bB,xi,none⟩ (.int .i64 S)) (some ⟨bL,offL,none⟩) nl l):=hid ((HR2.out.no HB7.out).butS (S:=fun z=>z=bB) ((But.refl _ _).setCell (by rfl) _) HNE.out)
           rw[hS]
           clear hke hS hsb
           go_wp2_with fail
           go_roundw
           case rel=>exact⟨j+1,by go_num,by omega,HEF.out,HC8.out,HR8.out⟩
           case measure=>simp[intOf];omega
        ·have b9:(e1 != 0)=true:=by simp[he]
         have HVE:Hid (V=([],(q:Int),e1)):=hid (by
          have h0:erJ s (rkV s L) (ceV s L) l q nl=e1:=by rw[erJ_le (show j+1≤nl by omega) (by rw[HEF.out];exact he),HEF.out]
          have h1:(erN s (rkV s L) (ceV s L) (q+1))=((q:Int),e1):=by rw[HQ.out,HEC.out,h0,if_pos he]
          have h2:=erN_le (s:=s) (R:=rkV s L) (Z:=ceV s L) (show q+1≤m by omega) (by rw[h1];exact he)
          rw[HV.out,h2,h1,if_pos he])
         clear he HBN
         go_wp2_with (go_at_call 39;(with_reducible refine CF.out.mono ?_);rintro e w6 ⟨rfl,hb6⟩;have HB6:=hid (HCX.out.but.trans hb6);clear hb6)
         refine bodyPost_ret (v:=.tuple #[.slice none 0 0,.int .i64 (q:Int),.int .i64 e1]) (by simp[results,Tryz.results22,go_sem]) rfl ?_
         rw[HVE.out]
         exact⟨_,rfl,HB2.out.trans HB6.out,Ov.nil _⟩
      ·have hjn2:j=nl:=by omega
       have b7:decide ((j:Int)<(nl:Int))=false:=by simp;omega
       have HE0:Hid ((erN s (rkV s L) (ceV s L) (q+1)).2=0):=hid (by rw[HQ.out,HEC.out,←hjn2,HEJ.out,if_neg (by simp)])
       have HC6:Hid (CE w2 wr bB N (bdC s (rkV s L) (ceV s L) (q+1))):=hid (by rw[HBQ.out,←hjn2];exact HC2.out)
       clear hjn2
       go_wp2_with fail
       go_roundw
       case rel=>exact⟨q+1,by go_num,by omega,HE0.out,HC6.out⟩
       case measure=>simp[intOf];omega
   ·have hqe:q=m:=by omega
    have b3:decide ((q:Int)<(m:Int))=false:=by simp;omega
    have HVE:Hid (V=((List.range N).map (bdC s (rkV s L) (ceV s L) m), -1,0)):=hid (by rw[HV.out,←hqe,if_neg (by rw[HER.out];simp)])
    have HOV:Hid (Ov wr (.slice (some ⟨bB,0,none⟩) N N) ((List.range N).map (bdC s (rkV s L) (ceV s L) m))):=hid (by rw[←hqe];exact vals_ov HC.out.v (by unfold maxLen;omega))
    clear hqe
    go_wp2_with fail
    refine bodyPost_ret (v:=.tuple #[.slice (some ⟨bB,0,none⟩) N N,.int .i64 (-1),.int .i64 0]) (by simp[results,Tryz.results22,go_sem]) rfl ?_
    rw[HVE.out]
    exact⟨_,rfl,HB2.out.trans HC.out.but,HOV.out⟩
end Go.Proofs.YtjfaiaipojfhgaaGreat.pln
end
section
namespace Go.Proofs.YtjfaiaipojfhgaaGreat.pln
open val ter
def ups (l m:List Pc):Prop:=l.length=m.length∧∀ (k:Nat) (x y:Pc),l[k]? = some x→m[k]? = some y→zp x=zp y
theorem ups_rk (s:Sys) (L:List (List Pc)) (i:Nat) (l:List Pc):ups (rkL s L i l) l:=by
 refine⟨by unfold rkL;rw[List.length_map],fun k x y hx hy=>?_⟩
 obtain⟨x',h1,rfl⟩:=rkL_at hx
 rw[hy] at h1
 cases h1
 rfl
theorem zp_get {l m:List Pc} (h:ups l m) (k:Nat):zp (l.getD k pc0)=zp (m.getD k pc0):=by
 by_cases hk:k<l.length
 ·have h1:l[k]? = some l[k]:=List.getElem?_eq_getElem hk
  have hk2:k<m.length:=by rw[←h.1];exact hk
  have h2:m[k]? = some m[k]:=List.getElem?_eq_getElem hk2
  rw[getD_some h1,getD_some h2]
  exact h.2 k _ _ h1 h2
 ·have hk2:¬k<m.length:=by rw[←h.1];exact hk
  simp[List.getD,hk,hk2]
theorem zp_co {x y:Pc} (h:zp x=zp y):x.co=y.co∧x.bu=y.bu∧x.de=y.de∧x.ti=y.ti:=by
 unfold zp at h
 simp only[Pc.mk.injEq] at h
 exact⟨h.1,h.2.1,h.2.2.1,h.2.2.2.2⟩
theorem smN_ups {l m:List Pc} (h:ups l m):∀ k,smN l k=smN m k
 | 0=>rfl
 | k+1=>by rw[smN,smN,smN_ups h k,(zp_co (zp_get h k)).2.1]
theorem rk_ups (s:Sys) (L:List (List Pc)) (i:Nat):ups ((rkV s L).getD i []) (L.getD i []):=by
 cases h:L[i]? with
 | none =>
  have h1:(rkV s L)[i]? = none:=by rw[List.getElem?_eq_none_iff] at h ⊢;rw[rkV_len];exact h
  simp only[List.getD,h,h1]
  exact⟨rfl,fun k x y hx=>by cases hx⟩
 | some l =>
  have h1:=rkV_at (s:=s) h
  simp only[List.getD,h,h1]
  exact ups_rk s L i l
end Go.Proofs.YtjfaiaipojfhgaaGreat.pln
end
section
namespace Go.Proofs.YtjfaiaipojfhgaaGreat.pln
open Go.ChangeShapes Go.WideShapes Go.ChangeAt Go.RowKit Go.Deep val
def bS (ts:List Tsk):Sys:=⟨2,1,1,0,0,0,1,0,ts⟩
set_option maxRecDepth 100000 in
set_option maxHeartbeats 2000000 in
theorem base_any (ts:List Tsk) (A:Option Addr) (n c:Nat) (w:World):Calls Tryz.prog 25 #[.slice A n c] w fun e w'=>e=.returned (sysV (bS ts) A n c)∧But No w w':=by
 go_enter Tryz.func25,Tryz.ntmps25
 go_wp2_with fail
 have h0:=Blk.new w (boxS (bS ts) A n c) 24
 have hb:=(But.refl No w).alloc (.cells (boxS (bS ts) A n c) 24)
 obtain⟨c0,c1,c2,c3,c4,c5,c6,c7,c8⟩:=sys_cells h0
 unfold boxS at hb c0 c1 c2 c3 c4 c5 c6 c7 c8
 simp only[bS] at hb c0 c1 c2 c3 c4 c5 c6 c7 c8
 refine bodyPost_ret (v:=sysV (bS ts) A n c) (by simp[results,Tryz.results25,go_sem,c0,c1,c2,c3,c4,c5,c6,c7,c8,sysV,bS]) rfl ?_
 exact⟨rfl,hb⟩
theorem ts1 {w:World} {b y:Nat} {p d x:Int} (h:Blk w b #[.int .i64 p,.int .i64 d,.int .i64 x,.slice none 0 0] y) (hx:inR p∧inR d∧inR x):RTsk w (some ⟨b,0,none⟩) 1 [⟨p,d,x, []⟩] :=
 ⟨rfl,by omega,fun _=>⟨b,0,rfl,h.lt,fun k u hu=>by
  have hk:k<1:=(List.getElem?_eq_some_iff.1 hu).1
  obtain rfl:k=0:=by omega
  have e:(⟨p,d,x, []⟩:Tsk)=u:=by simpa using hu
  subst e
  exact⟨h.cell rfl,h.cell rfl,h.cell rfl,none,0,h.cell rfl,Nat.le_refl 0,⟨rfl,by simp,fun h=>absurd h (by simp),by simp⟩⟩⟩,fun u hu=>by
  have e:u=⟨p,d,x, []⟩:=by simpa using hu
  subst e
  exact hx⟩
theorem ts2 {w:World} {b y:Nat} {p d x q e z:Int} (h:Blk w b #[.int .i64 p,.int .i64 d,.int .i64 x,.slice none 0 0,.int .i64 q,.int .i64 e,.int .i64 z,.slice none 0 0] y) (hx:inR p∧inR d∧inR x) (hz:inR q∧inR e∧inR z):RTsk w (some ⟨b,0,none⟩) 2 [⟨p,d,x, []⟩,⟨q,e,z, []⟩] :=
 ⟨rfl,by omega,fun _=>⟨b,0,rfl,h.lt,fun k u hu=>by
  have hk:k<2:=(List.getElem?_eq_some_iff.1 hu).1
  have:k=0∨k=1:=by omega
  rcases this with rfl | rfl
  ·have e:(⟨p,d,x, []⟩:Tsk)=u:=by simpa using hu
   subst e
   exact⟨h.cell rfl,h.cell rfl,h.cell rfl,none,0,h.cell rfl,Nat.le_refl 0,⟨rfl,by simp,fun h=>absurd h (by simp),by simp⟩⟩
  ·have e:(⟨q,e,z, []⟩:Tsk)=u:=by simpa using hu
   subst e
   exact⟨h.cell rfl,h.cell rfl,h.cell rfl,none,0,h.cell rfl,Nat.le_refl 0,⟨rfl,by simp,fun h=>absurd h (by simp),by simp⟩⟩⟩,fun u hu=>by
  rcases(show u=⟨p,d,x, []⟩∨u=⟨q,e,z, []⟩ by simpa using hu)with rfl | rfl
  ·exact hx
  ·exact hz⟩
theorem bs_sys {w:World} {A:Option Addr} {n:Nat} {ts:List Tsk} (h:RTsk w A n ts):RSys w A n n (bS ts) :=
 ⟨Nat.le_refl n,h,by simp only[bS];exact⟨inR_small (by omega),inR_small (by omega),inR_small (by omega),inR_small (by omega),inR_small (by omega),inR_small (by omega),inR_small (by omega),inR_small (by omega)⟩⟩
theorem pcs1 {w:World} {b y:Nat} {x:Pc} (h:Blk w b #[.int .i64 x.co,.int .i64 x.bu,.int .i64 x.de,.int .i64 x.pr,.bool x.ti] y) (hx:inR x.co∧inR x.bu∧inR x.de∧inR x.pr):RPc w (some ⟨b,0,none⟩) 1 [x] :=
 ⟨rfl,by omega,fun _=>⟨b,0,rfl,h.lt,fun k u hu=>by
  have hk:k<1:=(List.getElem?_eq_some_iff.1 hu).1
  obtain rfl:k=0:=by omega
  have e:x=u:=by simpa using hu
  subst e
  exact⟨h.cell rfl,h.cell rfl,h.cell rfl,h.cell rfl,h.cell rfl⟩⟩,fun u hu=>by
  obtain rfl:u=x:=by simpa using hu
  exact hx⟩
theorem pcs2 {w:World} {b y:Nat} {x z:Pc} (h:Blk w b #[.int .i64 x.co,.int .i64 x.bu,.int .i64 x.de,.int .i64 x.pr,.bool x.ti,.int .i64 z.co,.int .i64 z.bu,.int .i64 z.de,.int .i64 z.pr,.bool z.ti] y) (hx:inR x.co∧inR x.bu∧inR x.de∧inR x.pr) (hz:inR z.co∧inR z.bu∧inR z.de∧inR z.pr):RPc w (some ⟨b,0,none⟩) 2 [x,z] :=
 ⟨rfl,by omega,fun _=>⟨b,0,rfl,h.lt,fun k u hu=>by
  have hk:k<2:=(List.getElem?_eq_some_iff.1 hu).1
  have:k=0∨k=1:=by omega
  rcases this with rfl | rfl
  ·have e:x=u:=by simpa using hu
   subst e
   exact⟨h.cell rfl,h.cell rfl,h.cell rfl,h.cell rfl,h.cell rfl⟩
  ·have e:z=u:=by simpa using hu
   subst e
   exact⟨h.cell rfl,h.cell rfl,h.cell rfl,h.cell rfl,h.cell rfl⟩⟩,fun u hu=>by
  rcases(show u=x∨u=z by simpa using hu)with rfl | rfl
  ·exact hx
  ·exact hz⟩
theorem pl1 {w:World} {b y:Nat} {A:Option Addr} {c:Nat} {l:List Pc} (h:Blk w b #[.slice A l.length c] y) (hc:l.length≤c) (hl:RPc w A l.length l):RPl w (some ⟨b,0,none⟩) 1 [l] :=
 ⟨rfl,by omega,fun _=>⟨b,0,rfl,h.lt,fun k u hu=>by
  have hk:k<1:=(List.getElem?_eq_some_iff.1 hu).1
  obtain rfl:k=0:=by omega
  have e:l=u:=by simpa using hu
  subst e
  exact⟨A,c,h.cell rfl,hc,hl⟩⟩⟩
theorem pl2 {w:World} {b y:Nat} {A B:Option Addr} {c d:Nat} {l m:List Pc} (h:Blk w b #[.slice A l.length c,.slice B m.length d] y) (hc:l.length≤c) (hd:m.length≤d) (hl:RPc w A l.length l) (hm:RPc w B m.length m):RPl w (some ⟨b,0,none⟩) 2 [l,m] :=
 ⟨rfl,by omega,fun _=>⟨b,0,rfl,h.lt,fun k u hu=>by
  have hk:k<2:=(List.getElem?_eq_some_iff.1 hu).1
  have:k=0∨k=1:=by omega
  rcases this with rfl | rfl
  ·have e:l=u:=by simpa using hu
   subst e
   exact⟨A,c,h.cell rfl,hc,hl⟩
  ·have e:m=u:=by simpa using hu
   subst e
   exact⟨B,d,h.cell rfl,hd,hm⟩⟩⟩
theorem x1 : chkV (bS [⟨10,10,3, []⟩,⟨5,5,2, []⟩]) [[⟨0,3,10,0,false⟩], [⟨0,2,5,0,false⟩]]=([5,2], -1,0):=by kernel_rfl
theorem x2 : (chkV (bS [⟨10,10,8, []⟩]) [[⟨0,5,5,0,true⟩,⟨1,3,5,0,false⟩]]).1 = [8]∧(chkV (bS [⟨10,10,8, []⟩]) [[⟨0,5,5,0,true⟩,⟨1,3,5,0,false⟩]]).2.2=0:=⟨by kernel_rfl,by kernel_rfl⟩
theorem x3 : (chkV (bS [⟨10,10,8, []⟩,⟨5,5,2, []⟩]) [[⟨0,8,10,0,false⟩], [⟨0,2,5,0,false⟩]]).2=(0,12):=by kernel_rfl
end Go.Proofs.YtjfaiaipojfhgaaGreat.pln
end
