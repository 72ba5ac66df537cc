/- Part 9 of a proof: PlR5 PlP. -/
import Derived.Test.YtikcigjbhohboaaGreatM08
section
namespace Go.Proofs.YtikcigjbhohboaaGreat.pln
open Go.Lib (hid)
open Go.ChangeShapes Go.WideShapes Go.ChangeAt Go.RowKit Go.Deep val
def zp (x:Pc):Pc:=⟨x.co,x.bu,x.de,0,x.ti⟩
def rkP (s:Sys) (L:List (List Pc)) (i:Nat) (x:Pc):Pc:=⟨x.co,x.bu,x.de,if s.po=1∧x.ti=false then 1+aheadV i (zp x) L else 0,x.ti⟩
def rkL (s:Sys) (L:List (List Pc)) (i:Nat) (l:List Pc):List Pc:=l.map (rkP s L i)
def rkN (s:Sys) (L:List (List Pc)):Nat→List (List Pc)
 | 0=>[]
 | i+1=>rkN s L i ++ [rkL s L i (L.getD i [])]
def rkV (s:Sys) (L:List (List Pc)):List (List Pc):=rkN s L L.length
theorem rkN_len (s:Sys) (L:List (List Pc)):∀ i,(rkN s L i).length=i
 | 0=>rfl
 | i+1=>by rw[rkN,List.length_append,rkN_len s L i];rfl
theorem rk_snoc {s:Sys} {L:List (List Pc)} {i k:Nat} {l:List Pc} {x:Pc} (h:l[k]? = some x):(l.take (k+1)).map (rkP s L i)=(l.take k).map (rkP s L i) ++ [rkP s L i x]:=by
 rw[List.take_add_one,h,List.map_append];rfl
theorem plR_parts {s:Sys} {L:List (List Pc)} (h:plR s L=true):right s=true∧L.length=s.ts.length∧okS s L L.length=true:=by
 unfold plR at h
 simp only[Bool.and_eq_true,decide_eq_true_eq] at h
 exact⟨h.1,h.2.1,h.2.2.1⟩
theorem okS_at {s:Sys} {L:List (List Pc)} {i:Nat} {l:List Pc} (h:okS s L L.length=true) (hl:L[i]? = some l):okL s (s.ts.getD i ts0) l=true:=by
 have hi:i<L.length:=(List.getElem?_eq_some_iff.1 hl).1
 have h1:=okS_le (show i+1≤L.length by omega) h
 rw[okS,Bool.and_eq_true,getL hl] at h1
 exact h1.2
theorem plR_small {s:Sys} {L:List (List Pc)} (h:plR s L=true):L.length≤24∧∀ l ∈ L,l.length≤8:=by
 obtain⟨h1,h2,h3⟩:=plR_parts h
 obtain⟨_,_,h4,_⟩:=right_nums h1
 refine⟨by omega,fun l hl=>?_⟩
 obtain⟨i,hi⟩:=List.mem_iff_getElem?.1 hl
 exact okL_len (okS_at h3 hi)
theorem infoP : (Tryz.prog.info? 42).map (fun i=>(i.zero,i.size,i.bytes))=some (some (.agg #[.int .i64 0,.int .i64 0,.int .i64 0,.int .i64 0,.bool false]),5,40):=by kernel_rfl
theorem infoPS : (Tryz.prog.info? 38).map (fun i=>(i.zero,i.size,i.bytes))=some (some (.slice none 0 0),1,24):=by kernel_rfl
theorem pc_one_reads (w:World) (x:Pc) (t:TypeId):Reads (w.alloc (.cells #[.int .i64 x.co,.int .i64 x.bu,.int .i64 x.de,.int .i64 x.pr,.bool x.ti] t)) (w.heap.size+1) 5 (some ⟨w.heap.size,0,none⟩) 1 (pcC x) :=
 ⟨rfl,fun _=>⟨⟨w.heap.size,0,none⟩,rfl,by simp,World.news_of_block (cs:=#[.int .i64 x.co,.int .i64 x.bu,.int .i64 x.de,.int .i64 x.pr,.bool x.ti]) (t:=t) (fr:=(0,0)) (Blk.new w _ _)⟩⟩
theorem pc_one_cell (x:Pc):∀ u ∈ pcC x,u.oneCell'=true:=by simp[pcC,Value.oneCell']
theorem v_one_reads (w:World) (v:Value) (t:TypeId):Reads (w.alloc (.cells #[v] t)) (w.heap.size+1) 1 (some ⟨w.heap.size,0,none⟩) 1 [v] :=
 ⟨rfl,fun _=>⟨⟨w.heap.size,0,none⟩,rfl,by simp,World.news_of_block (cs:=#[v]) (t:=t) (fr:=(0,0)) (Blk.new w _ _)⟩⟩
theorem OPc.val {w:World} {v:Value} {l:List Pc} (h:OPc w v l):∃ A n c,v=.slice A n c:=by
 obtain⟨h1,h2⟩:=h
 rcases h2 with⟨h2,_⟩ | ⟨g,cap,cur,hv,_⟩
 ·exact⟨_,_,_,h2⟩
 ·exact⟨_,_,_,hv⟩
theorem rkN_next {s:Sys} {L:List (List Pc)} {q:Nat} {l:List Pc} (h:L[q]? = some l):rkN s L (q+1)=rkN s L q ++ [rkL s L q l]:=by
 have e:L.getD q []=l:=by simp[List.getD,h]
 rw[rkN,e]
set_option maxRecDepth 100000 in
set_option maxHeartbeats 8000000 in
theorem rrank_any (s:Sys) (A:Option Addr) (n c:Nat) (A':Option Addr) (N c':Nat) (L:List (List Pc)) (w:World) (hs:RSys w A n c s) (hl:RPl w A' N L):Calls Tryz.prog 26 #[sysV s A n c,.slice A' N c'] w fun e w' =>
  (plR s L=false∧e=.returned (.tuple #[.slice none 0 0,.bool false])∧But No w w')∨(plR s L=true∧∃ v vs,e=.returned (.tuple #[v,.bool true])∧RoP w w' v vs (rkV s L)):=by
 have HN:=hid hl.len
 have hb0:But No w (w.alloc (.cells (boxS s A n c) 24)):=(But.refl No w).alloc _
 have CR:=hid (rplan_any s A n c A' N c' L _ (hs.no hb0) (hl.no hb0))
 have HB0:=hid hb0
 have BS:=hid (Blk.new w (boxS s A n c) 24)
 have HL:=hid hl
 have k0:=sys_cells (Blk.new w (boxS s A n c) 24)
 obtain⟨ip,ai0,az0,az1,az2⟩:=info_parts infoP
 have IP:Hid (Tryz.prog.info? 42=some ip∧ip.zero=some (.agg #[.int .i64 0,.int .i64 0,.int .i64 0,.int .i64 0,.bool false])∧ip.size=5∧ip.bytes=40):=⟨ai0,az0,az1,az2⟩
 obtain⟨iq,bi0,bz0,bz1,bz2⟩:=info_parts infoPS
 have IQ:Hid (Tryz.prog.info? 38=some iq∧iq.zero=some (.slice none 0 0)∧iq.size=1∧iq.bytes=24):=⟨bi0,bz0,bz1,bz2⟩
 clear hs hl hb0 ai0 az0 az1 az2 bi0 bz0 bz1 bz2
 unfold sysV at CR ⊢
 cases hr:plR s L with
 | false =>
  rw[hr] at CR
  clear hr
  unfold boxS at HB0 k0 CR
  go_enter Tryz.func26,Tryz.ntmps26
  go_wp2_with (go_at_call 59;(with_reducible refine CR.out.mono ?_);rintro e w1 ⟨rfl,hb1⟩;have HB1:=hid (HB0.out.trans hb1);clear hb1)
  go_ret2
  exact Or.inl ⟨by first | rfl | trivial,rfl,HB1.out⟩
 | true =>
  obtain⟨hN24',hB8⟩:=plR_small hr
  have HB8:=hid hB8
  have hN24:N≤24:=by have:=HN.out;omega
  rw[hr] at CR
  clear hr hN24' hB8
  have BK:Hid (∀ W,But No (w.alloc (.cells (boxS s A n c) 24)) W→S9 W w.heap.size s A n c):=hid (fun W hb=>sys_cells (BS.out.but hb (fun f=>f)))
  unfold boxS at HB0 k0 CR BK
  go_enter Tryz.func26,Tryz.ntmps26
  go_upto_region 5 with(go_at_call 59;(with_reducible refine CR.out.mono ?_);rintro e w1 ⟨rfl,hb1⟩;have HBK:=hid hb1;have HB1:=hid (HB0.out.trans hb1);clear hb1)
  have BK1:Hid (∀ W,But No w1 W→S9 W w.heap.size s A n c):=hid (fun W hb=>BK.out W (HBK.out.trans hb))
  clear CR BS BK k0
  go_wp2_with fail
  go_loopw [7,8] (fun v i wr=>∃ (vv:Value) (vs:List Value) (q:Nat),v=vv∧i=.int .i64 (q:Int)∧q≤N∧Hid (RoP w1 wr vv vs (rkN s L q))) (fun _ i _=>N-(intOf i).toNat)
  case atStart=>exact⟨_, [],0,rfl,rfl,by omega,RoP.start w1⟩
  case round =>
   obtain⟨v,vs,q,hv,rfl,hq,HO⟩:=hrel
   have hv':=hv.symm
   subst hv'
   clear hv
   have hq0:(0:Int)≤(q:Int):=Int.natCast_nonneg q
   by_cases hqN:q<N
   ·have hqN2:(q:Int)<(N:Int):=by omega
    obtain⟨l,hl⟩:∃ l,L[q]? = some l:=⟨_,List.getElem?_eq_getElem (by rw[HN.out];exact hqN)⟩
    obtain⟨bL,offL,AL,cL,rfl,_,e00,_,hpc⟩:=HL.out.at1 hl
    have hl8:=HB8.out l (List.mem_of_getElem? hl)
    have HPC:=hid hpc
    have HLX:=hid hl
    obtain⟨mm,hmm⟩:∃ mm,l.length=mm:=⟨_,rfl⟩
    have HMM:=hid hmm
    rw[hmm] at hl8 HPC e00
    have HE00:=hid e00
    clear hl hpc e00 hmm
    obtain⟨wr_o,hwo⟩:∃ wr_o,wr=wr_o:=⟨_,rfl⟩
    rw[hwo] at HO ⊢
    clear hwo
    go_wp2_with fail
    go_loopw [9,10] (fun u i wr2=>∃ (uu:Value) (k:Nat),u=uu∧i=.int .i64 (k:Int)∧k≤mm∧Hid (Rp wr_o wr2 uu ((l.take k).map (rkP s L q)))) (fun _ i _=>mm-(intOf i).toNat)
    case atStart=>exact⟨_,0,rfl,rfl,by omega,Rp.start wr_o⟩
    case round =>
     obtain⟨u,k,hu,rfl,hk,HP⟩:=hrel
     have hu':=hu.symm
     subst hu'
     clear hu
     have hk0:(0:Int)≤(k:Int):=Int.natCast_nonneg k
     have HWI:=hid (HB1.out.trans (HO.out.but.trans HP.out.but))
     have e0:=cell_keep HE00.out HWI.out
     obtain⟨k0,k1,k2,k3,k4,k5,k6,k7,k8⟩:=BK1.out _ (HO.out.but.trans HP.out.but)
     by_cases hkm:k<mm
     ·have hkm2:(k:Int)<(mm:Int):=by omega
      obtain⟨x,hx⟩:∃ x,l[k]? = some x:=⟨_,List.getElem?_eq_getElem (by rw[HMM.out];exact hkm)⟩
      obtain⟨bP,offP,rfl,_,p0,p1,p2,p3,p4⟩:=(HPC.out.no HWI.out).at1 hx
      have HRK:=hid (rk_snoc (s:=s) (L:=L) (i:=q) hx)
      have HPL:=hid (show ((l.take k).map (rkP s L q)).length=k by rw[List.length_map,List.length_take,HMM.out];omega)
      clear hx
      obtain⟨x0,x1,x2,x3,x4⟩:=x
      dsimp only at p0 p1 p2 p3 p4
      by_cases hf:s.po=1
      ·have df:decide (s.po=1)=true:=by simp[hf]
       have df':(s.po == 1)=true:=by simp[hf]
       cases x4 with
       | true =>
        clear hf
        have HQ:Hid (rkP s L q ⟨x0,x1,x2,x3,true⟩=⟨x0,x1,x2,0,true⟩):=hid (by unfold rkP;rw[if_neg (by simp)])
        have HRa:=hid (HP.out.no (((But.refl No wr).alloc (.cells #[.int .i64 x0,.int .i64 x1,.int .i64 x2,.int .i64 0,.bool true] 42)).alloc (.cells #[.int .i64 x0,.int .i64 x1,.int .i64 x2,.int .i64 0,.bool true] 42)))
        obtain⟨_,y1,_⟩:=BK1.out (wr.alloc (.cells #[.int .i64 x0,.int .i64 x1,.int .i64 x2,.int .i64 0,.bool true] 42)) ((HO.out.but.trans HP.out.but).trans ((But.refl No wr).alloc _))
        go_wp2_with (at_builtin;refine wpList_append_sh _ rfl _ _ 38 rfl 42 ip _ 5 40 Tryz.underlying38 IP.out.1 IP.out.2.1 IP.out.2.2.1 IP.out.2.2.2 rfl (by omega) u k (((l.take k).map (rkP s L q)).flatMap pcC) rfl (by have h9:=HRa.out.own;unfold OPc at h9;rw[HPL.out] at h9;exact h9) ((wr.alloc (.cells #[.int .i64 x0,.int .i64 x1,.int .i64 x2,.int .i64 0,.bool true] 42)).heap.size+1) (some ⟨(wr.alloc (.cells #[.int .i64 x0,.int .i64 x1,.int .i64 x2,.int .i64 0,.bool true] 42)).heap.size,0,none⟩) 1 1 (pcC ⟨x0,x1,x2,0,true⟩) (by simp[Act.eval]) (pc_one_reads (wr.alloc (.cells #[.int .i64 x0,.int .i64 x1,.int .i64 x2,.int .i64 0,.bool true] 42)) ⟨x0,x1,x2,0,true⟩ _) (pc_one_cell ⟨x0,x1,x2,0,true⟩) (by unfold maxLen;omega) (by omega) ?_;intro A5 c5 w5 hown5 hgrow5 hat5;have HP5:=hid (HRa.out.app (k:=[⟨x0,x1,x2,0,true⟩]) (by rw[HPL.out];rfl) hown5 hgrow5 hat5);clear hown5 hgrow5 hat5)
        go_roundw
        case rel=>exact⟨_,k+1,rfl,by go_num,by omega,by rw[HRK.out,HQ.out];exact HP5.out⟩
        case measure=>simp[intOf];omega
       | false =>
        obtain⟨a,ha⟩:∃ a,aheadV q ⟨x0,x1,x2,0,false⟩ L=a:=⟨_,rfl⟩
        have HQ:Hid (rkP s L q ⟨x0,x1,x2,x3,false⟩=⟨x0,x1,x2,1+a,false⟩):=hid (by unfold rkP zp;rw[if_pos ⟨hf,rfl⟩,ha])
        have hab:=aN_bd (task:=(q:Int)) (p:=⟨x0,x1,x2,0,false⟩) HB8.out L.length (Nat.le_refl _)
        have hab2:0≤a∧a≤1000:=by
         have h9:aheadV q ⟨x0,x1,x2,0,false⟩ L=aN q ⟨x0,x1,x2,0,false⟩ L L.length:=rfl
         rw[←ha,h9]
         have h8:=HN.out
         rw[h8] at hab ⊢
         have:(N:Int)*((8:Nat):Int)≤192:=by omega
         omega
        have CA:Hid (∀ W,But No w W→Calls Tryz.prog 60 #[.slice (some ⟨bL,offL,none⟩) N c',.int .i64 (q:Int),.agg #[.int .i64 x0,.int .i64 x1,.int .i64 x2,.int .i64 0,.bool false]] W fun e w'=>e=.returned (.int .i64 a)∧But No W w'):=hid (fun W hb=>by
         have h9:=rahead_any (some ⟨bL,offL,none⟩) N c' L q ⟨x0,x1,x2,0,false⟩ W (HL.out.no hb) (by omega) (fun l hl=>by have:=HB8.out l hl;omega)
         rw[ha] at h9
         exact h9)
        have u1_:IntKind.i64.wrap (1+a)=1+a:=IntWalk.i64_in (1+a) (by omega)
        have hbX:But No wr (wr.alloc (.cells #[.int .i64 x0,.int .i64 x1,.int .i64 x2,.int .i64 0,.bool false] 42)):=(But.refl No wr).alloc _
        have HWX:=hid (HWI.out.trans hbX)
        have KEEP:Hid (∀ w4,But No (wr.alloc (.cells #[.int .i64 x0,.int .i64 x1,.int .i64 x2,.int .i64 0,.bool false] 42)) w4→Blk w4 wr.heap.size #[.int .i64 x0,.int .i64 x1,.int .i64 x2,.int .i64 0,.bool false] 42∧Rp wr_o ((w4.setCell ⟨wr.heap.size,3,none⟩ (.int .i64 (1+a))).alloc (.cells #[.int .i64 x0,.int .i64 x1,.int .i64 x2,.int .i64 (1+a),.bool false] 42)) u ((l.take k).map (rkP s L q))):=hid (fun w4 hb=>⟨(Blk.new wr _ _).but hb (fun f=>f),HP.out.no (((hbX.trans hb).setNew (Nat.le_refl _) _).alloc _)⟩)
        obtain⟨_,y1,_⟩:=BK1.out (wr.alloc (.cells #[.int .i64 x0,.int .i64 x1,.int .i64 x2,.int .i64 0,.bool false] 42)) ((HO.out.but.trans HP.out.but).trans ((But.refl No wr).alloc _))
        clear ha hab hbX hf
        go_wp2_with (first
         | (go_at_call 60;(with_reducible refine(CA.out _ HWX.out).mono ?_);rintro e w4 ⟨rfl,hb4⟩;obtain⟨kB,hRa⟩:=KEEP.out _ hb4;have HRa:=hid hRa;have s0:=kB.cell (o:=0) rfl;have s1:=kB.cell (o:=1) rfl;have s2:=kB.cell (o:=2) rfl;have s3:=kB.cell (o:=3) rfl;have s4:=kB.cell (o:=4) rfl;have z3:=kB.frozen 3;clear hb4 hRa kB)
         | (at_builtin;refine wpList_append_sh _ rfl _ _ 38 rfl 42 ip _ 5 40 Tryz.underlying38 IP.out.1 IP.out.2.1 IP.out.2.2.1 IP.out.2.2.2 rfl (by omega) u k (((l.take k).map (rkP s L q)).flatMap pcC) rfl (by have h9:=HRa.out.own;unfold OPc at h9;rw[HPL.out] at h9;exact h9) ((w4.setCell ⟨wr.heap.size,3,none⟩ (.int .i64 (1+a))).heap.size+1) (some ⟨(w4.setCell ⟨wr.heap.size,3,none⟩ (.int .i64 (1+a))).heap.size,0,none⟩) 1 1 (pcC ⟨x0,x1,x2,(1+a),false⟩) (by simp[Act.eval]) (pc_one_reads (w4.setCell ⟨wr.heap.size,3,none⟩ (.int .i64 (1+a))) ⟨x0,x1,x2,(1+a),false⟩ _) (pc_one_cell ⟨x0,x1,x2,(1+a),false⟩) (by unfold maxLen;omega) (by omega) ?_;intro A5 c5 w5 hown5 hgrow5 hat5;have HP5:=hid (HRa.out.app (k:=[⟨x0,x1,x2,(1+a),false⟩]) (by rw[HPL.out];rfl) hown5 hgrow5 hat5);clear hown5 hgrow5 hat5))
        go_roundw
        case rel=>exact⟨_,k+1,rfl,by go_num,by omega,by rw[HRK.out,HQ.out];exact HP5.out⟩
        case measure=>simp[intOf];omega
      ·have df:decide (s.po=1)=false:=by simp[hf]
       have df':(s.po == 1)=false:=by simp[hf]
       have hfx:¬(s.po=1∧x4=false):=fun h=>hf h.1
       have HQ:Hid (rkP s L q ⟨x0,x1,x2,x3,x4⟩=⟨x0,x1,x2,0,x4⟩):=hid (by unfold rkP;rw[if_neg hfx])
       have HRa:=hid (HP.out.no (((But.refl No wr).alloc (.cells #[.int .i64 x0,.int .i64 x1,.int .i64 x2,.int .i64 0,.bool x4] 42)).alloc (.cells #[.int .i64 x0,.int .i64 x1,.int .i64 x2,.int .i64 0,.bool x4] 42)))
       obtain⟨_,y1,_⟩:=BK1.out (wr.alloc (.cells #[.int .i64 x0,.int .i64 x1,.int .i64 x2,.int .i64 0,.bool x4] 42)) ((HO.out.but.trans HP.out.but).trans ((But.refl No wr).alloc _))
       go_wp2_with (at_builtin;refine wpList_append_sh _ rfl _ _ 38 rfl 42 ip _ 5 40 Tryz.underlying38 IP.out.1 IP.out.2.1 IP.out.2.2.1 IP.out.2.2.2 rfl (by omega) u k (((l.take k).map (rkP s L q)).flatMap pcC) rfl (by have h9:=HRa.out.own;unfold OPc at h9;rw[HPL.out] at h9;exact h9) ((wr.alloc (.cells #[.int .i64 x0,.int .i64 x1,.int .i64 x2,.int .i64 0,.bool x4] 42)).heap.size+1) (some ⟨(wr.alloc (.cells #[.int .i64 x0,.int .i64 x1,.int .i64 x2,.int .i64 0,.bool x4] 42)).heap.size,0,none⟩) 1 1 (pcC ⟨x0,x1,x2,0,x4⟩) (by simp[Act.eval]) (pc_one_reads (wr.alloc (.cells #[.int .i64 x0,.int .i64 x1,.int .i64 x2,.int .i64 0,.bool x4] 42)) ⟨x0,x1,x2,0,x4⟩ _) (pc_one_cell ⟨x0,x1,x2,0,x4⟩) (by unfold maxLen;omega) (by omega) ?_;intro A5 c5 w5 hown5 hgrow5 hat5;have HP5:=hid (HRa.out.app (k:=[⟨x0,x1,x2,0,x4⟩]) (by rw[HPL.out];rfl) hown5 hgrow5 hat5);clear hown5 hgrow5 hat5)
       go_roundw
       case rel=>exact⟨_,k+1,rfl,by go_num,by omega,by rw[HRK.out,HQ.out];exact HP5.out⟩
       case measure=>simp[intOf];omega
     ·have hke:k=mm:=by omega
      have b4:decide ((k:Int)<(mm:Int))=false:=by simp;omega
      have HPL:=hid (show (l.take k).map (rkP s L q)=rkL s L q l by unfold rkL;rw[List.take_of_length_le (by rw[HMM.out];omega)])
      rw[HPL.out] at HP
      obtain⟨Au,nu,cu,hsu⟩:=HP.out.own.val
      subst hsu
      have HON:=hid (HO.out.len.trans (rkN_len s L q))
      have HLN:=hid (rkN_next (s:=s) HLX.out)
      go_wp2_with (at_builtin;refine wpList_append_sh _ rfl _ _ 25 rfl 38 iq _ 1 24 Tryz.underlying25 IQ.out.1 IQ.out.2.1 IQ.out.2.2.1 IQ.out.2.2.2 rfl (by omega) v q vs rfl (by have h9:=((HO.out.no HP.out.but).no ((But.refl No wr).alloc (.cells #[.slice Au nu cu] 38))).row;rw[HON.out] at h9;exact h9) (wr.heap.size+1) (some ⟨wr.heap.size,0,none⟩) 1 1 [.slice Au nu cu] (by simp[Act.eval]) (v_one_reads wr (.slice Au nu cu) _) (by simp[Value.oneCell']) (by unfold maxLen;omega) (by omega) ?_;intro A5 c5 w5 hown5 hgrow5 hat5;have HO5:=hid (HO.out.app HP.out.but HP.out.own HP.out.new ((But.refl No wr).alloc (.cells #[.slice Au nu cu] 38)) (by rw[HON.out]) hown5 hgrow5 hat5);clear hown5 hgrow5 hat5)
      go_roundw
      case rel=>exact⟨_,_,q+1,rfl,by go_num,by omega,by rw[HLN.out];exact HO5.out⟩
      case measure=>simp[intOf];omega
   ·have hqe:N=q:=by omega
    have b3:decide ((q:Int)<(N:Int))=false:=by simp;omega
    have HV:Hid (rkN s L q=rkV s L):=hid (by unfold rkV;rw[HN.out,hqe])
    rw[HV.out] at HO
    clear hqe
    go_wp2
    go_ret2
    exact Or.inr ⟨by first | rfl | trivial,v,vs,rfl,⟨HB1.out.trans HO.out.but,HO.out.row,fun k e=>Nat.le_trans HB1.out.size (HO.out.new k e),HO.out.len,fun r z l h1 h2=>⟨(HO.out.own r z l h1 h2).1,fun k e=>Nat.le_trans HB1.out.size ((HO.out.own r z l h1 h2).2 k e)⟩,HO.out.nb,HO.out.dis⟩⟩
end Go.Proofs.YtikcigjbhohboaaGreat.pln
end
section
namespace Go.Proofs.YtikcigjbhohboaaGreat.pln
open Go.ChangeShapes Go.WideShapes Go.ChangeAt Go.RowKit Go.Deep val
theorem ov_lt {w:World} {v:Value} {zs:List Int} (h:Ov w v zs) {k:Nat} (hk:v.ownBlock=some k):k<w.heap.size:=(World.ownsRow.lt h k hk).2
theorem vals_ov {w:World} {b m:Nat} {f:Nat→Int} (h:Vals w b 3 m (fun j=>.int .i64 (f j))) (hm:m≤maxLen):Ov w (.slice (some ⟨b,0,none⟩) m m) ((List.range m).map f):=by
 refine⟨by simp,.inr ⟨b,m,((List.range m).map (fun j=>Value.int .i64 (f j))).toArray,by simp,by omega,h,by simp,hm,by simp,?_⟩⟩
 simp only[List.length_map,List.length_range,Nat.mul_one]
 rw[List.take_of_length_le (by simp)]
 simp[List.map_map,Function.comp_def]
theorem RoP.pl {w wr:World} {v:Value} {vs:List Value} {Ls:List (List Pc)} (h:RoP w wr v vs Ls) (hm:Ls.length≤1000) (hl:∀ l ∈ Ls,l.length≤1000) (hf:∀ l ∈ Ls,∀ x ∈ l,inR x.co∧inR x.bu∧inR x.de∧inR x.pr):∃ A c,v=.slice A Ls.length c∧RPl wr A Ls.length Ls:=by
 obtain⟨h1,h2⟩:=h.row
 rcases h2 with⟨h2,e⟩ | ⟨g,cap,cur,hv,_,hh,hc,hcap,hs,ht⟩
 ·rw[h.len] at e
  exact⟨none,0,by rw[e];exact h2,rfl,by omega,fun h9=>absurd h9 (by omega)⟩
 ·rw[h.len] at hv
  refine⟨_,_,hv,rfl,by omega,fun hn=>⟨g,0,rfl,Blk.lt hh,fun k l hx=>?_⟩⟩
  have hk:k<Ls.length:=(List.getElem?_eq_some_iff.1 hx).1
  obtain⟨u,hu⟩:∃ u,vs[k]? = some u:=⟨_,List.getElem?_eq_getElem (by rw[h.len];exact hk)⟩
  have hm9:=List.mem_of_getElem? hx
  have hl9:=hl l hm9
  obtain⟨A',c',e,hc',hp⟩:=(h.own k u l hu hx).1.rd (by omega) (hf l hm9)
  rw[e] at hu
  refine⟨A',c',?_,hc',hp⟩
  rw[Nat.zero_add]
  refine Blk.cell hh ?_
  rw[←ht,List.getElem?_take,if_pos (by rw[h.len];omega)] at hu
  simpa using hu
structure RoI (w wr:World) (v:Value) (vs:List Value) (Ls:List (List Int)):Prop where
 but:But No w wr
 row:wr.ownsRow 0 26 1 v vs.length vs
 new:∀ k,v.ownBlock=some k→w.heap.size≤k
 len:vs.length=Ls.length
 own:∀ (r:Nat) (u:Value) (l:List Int),vs[r]? = some u→Ls[r]? = some l→Ov wr u l∧∀ k,u.ownBlock=some k→w.heap.size≤k
 nb:∀ (r:Nat) (u:Value) (k:Nat),vs[r]? = some u→u.ownBlock=some k→v.ownBlock≠some k
 dis:∀ (r s:Nat) (u z:Value) (k:Nat),vs[r]? = some u→vs[s]? = some z→u.ownBlock=some k→z.ownBlock=some k→r=s
theorem RoI.start (w:World):RoI w w (.slice none 0 0) [] []:=⟨But.refl No w,World.ownsRow_nil _ _ _ _,own_none,rfl,fun r u l h=>by simp at h,fun r u k h=>by simp at h,fun r s u z k h=>by simp at h⟩
theorem RoI.no {w wr w2:World} {v:Value} {vs:List Value} {Ls:List (List Int)} (h:RoI w wr v vs Ls) (hb:But No wr w2):RoI w w2 v vs Ls :=
 ⟨h.but.trans hb,owns_but h.row hb (fun _ _ f=>f),h.new,h.len,fun r u l h1 h2=>⟨(h.own r u l h1 h2).1.but hb (fun _ _ f=>f),(h.own r u l h1 h2).2⟩,h.nb,h.dis⟩
theorem RoI.app {w wr w0 w1 w2:World} {v u:Value} {vs:List Value} {Ls:List (List Int)} {l:List Int} {A:Option Addr} {c n:Nat} (h:RoI w w0 v vs Ls) (hb:But No w0 wr) (hu:Ov wr u l) (hun:∀ k,u.ownBlock=some k→w0.heap.size≤k) (hb1:But No wr w1)
  (hn:n=vs.length+1) (ho:w2.ownsRow 0 26 1 (.slice A n c) n (vs ++ [u])) (hg:w1.grownBy w2 v.ownBlock)
  (hat:(Value.slice A n c).ownBlock=v.ownBlock∨(Value.slice A n c).ownBlock=some w1.heap.size):RoI w w2 (.slice A n c) (vs ++ [u]) (Ls ++ [l]):=by
 have h1:=(h.no hb).no hb1
 have hub:=hu.but hb1 (S:=No) (fun _ _ f=>f)
 have hB:But (fun k=>v.ownBlock=some k) w1 w2:=(But.refl _ w1).grown hg (fun k e=>.inl e)
 have hvlt:∀ k,v.ownBlock=some k→k<w0.heap.size:=fun k e=>(World.ownsRow.lt h.row k e).2
 have hsz:=hb.size
 have hsz1:=hb1.size
 have nth:∀ (r:Nat) (z:Value),(vs ++ [u])[r]? = some z→vs[r]? = some z∨r=vs.length∧z=u:=fun r z e=>by
  by_cases hr:r<vs.length
  ·rw[List.getElem?_append_left hr] at e;exact .inl e
  ·rw[List.getElem?_append_right (by omega)] at e
   have:r-vs.length=0:=by
    have:=(List.getElem?_eq_some_iff.1 e).1
    simp at this;omega
   rw[this] at e
   exact .inr ⟨by omega,by simpa using e.symm⟩
 have elt:∀ (r:Nat) (z:Value) (k:Nat),vs[r]? = some z→z.ownBlock=some k→k<w0.heap.size:=fun r z k hr hk=>by
  have hrl:r<Ls.length:=by rw[←h.len];exact(List.getElem?_eq_some_iff.1 hr).1
  exact(h.own r z Ls[r] hr (List.getElem?_eq_getElem hrl)).1 |> fun h9=>ov_lt h9 hk
 refine⟨h1.but.grown hg (fun k e=>.inr (h.new k e)),by rw[List.length_append,show vs.length + [u].length=n by simp[hn]];exact ho,own_new h.new hat (by have:=h1.but.size;omega),by simp[h.len],?_,?_,?_⟩
 ·intro r z l' hr hl'
  rcases nth r z hr with hr' | ⟨rfl,rfl⟩
  ·have hrl:r<Ls.length:=by rw[←h.len];exact(List.getElem?_eq_some_iff.1 hr').1
   rw[List.getElem?_append_left hrl] at hl'
   obtain⟨a,b⟩:=h1.own r z l' hr' hl'
   exact⟨a.but hB (fun k e1 e2=>h.nb r z k hr' e1 e2),b⟩
  ·rw[h.len,List.getElem?_append_right (Nat.le_refl _)] at hl'
   simp at hl'
   subst hl'
   exact⟨hub.but hB (fun k e1 e2=>by have:=hun k e1;have:=hvlt k e2;omega),fun k e=>by have:=hun k e;have:=h.but.size;omega⟩
 ·intro r z k hr hk e
  rcases hat with ha | ha
  ·rw[ha] at e
   rcases nth r z hr with hr' | ⟨rfl,rfl⟩
   ·exact h.nb r z k hr' hk e
   ·have:=hun k hk;have:=hvlt k e;omega
  ·rw[ha] at e
   have hk2:w1.heap.size=k:=by simpa using e
   rcases nth r z hr with hr' | ⟨rfl,rfl⟩
   ·have:=elt r z k hr' hk;omega
   ·have:=(ov_lt hub hk);omega
 ·intro r s z y k hr hs hk hk'
  rcases nth r z hr with hr' | ⟨rfl,rfl⟩ <;> rcases nth s y hs with hs' | ⟨rfl,rfl⟩
  ·exact h.dis r s z y k hr' hs' hk hk'
  ·have:=elt r z k hr' hk;have:=hun k hk';omega
  ·have:=elt s y k hs' hk';have:=hun k hk;omega
  ·rfl
structure RNs (w:World) (A:Option Addr) (n:Nat) (Z:List (List Int)):Prop where
 len:Z.length=n
 max:n≤9223372036854775807
 at_:0<n→∃ b off,A=some ⟨b,off,none⟩∧b<w.heap.size∧∀ k l,Z[k]? = some l→∃ A' c',w.cell? ⟨b,off+k,none⟩=some (.slice A' l.length c')∧l.length≤c'∧Rl w A' l.length l
theorem RNs.no {w w':World} {A:Option Addr} {n:Nat} {Z:List (List Int)} (h:RNs w A n Z) (hb:But No w w'):RNs w' A n Z :=
 ⟨h.len,h.max,fun hn=>by
  obtain⟨b,off,e,hl,hc⟩:=h.at_ hn
  refine⟨b,off,e,Nat.lt_of_lt_of_le hl hb.size,fun k l hx=>?_⟩
  obtain⟨A',c',h1,h2,h3⟩:=hc k l hx
  exact⟨A',c',by rw[hb.cell hl (fun f=>f)];exact h1,h2,h3.no hb⟩⟩
theorem RNs.at1 {w:World} {A:Option Addr} {n:Nat} {Z:List (List Int)} (h:RNs w A n Z) {k:Nat} {l:List Int} (hx:Z[k]? = some l) :
  ∃ b off A' c',A=some ⟨b,off,none⟩∧b<w.heap.size∧w.cell? ⟨b,off+k,none⟩=some (.slice A' l.length c')∧l.length≤c'∧Rl w A' l.length l:=by
 have hk:k<Z.length:=(List.getElem?_eq_some_iff.1 hx).1
 obtain⟨b,off,e,hl,hc⟩:=h.at_ (by rw[←h.len];omega)
 obtain⟨A',c',h1,h2,h3⟩:=hc k l hx
 exact⟨b,off,A',c',e,hl,h1,h2,h3⟩
theorem RoI.ns {w wr:World} {v:Value} {vs:List Value} {Z:List (List Int)} (h:RoI w wr v vs Z) (hm:Z.length≤1000) (hl:∀ l ∈ Z,l.length≤1000):∃ A c,v=.slice A Z.length c∧RNs wr A Z.length Z:=by
 obtain⟨h1,h2⟩:=h.row
 rcases h2 with⟨h2,e⟩ | ⟨g,cap,cur,hv,_,hh,hc,hcap,hs,ht⟩
 ·rw[h.len] at e
  exact⟨none,0,by rw[e];exact h2,rfl,by omega,fun h9=>absurd h9 (by omega)⟩
 ·rw[h.len] at hv
  refine⟨_,_,hv,rfl,by omega,fun hn=>⟨g,0,rfl,Blk.lt hh,fun k l hx=>?_⟩⟩
  have hk:k<Z.length:=(List.getElem?_eq_some_iff.1 hx).1
  obtain⟨u,hu⟩:∃ u,vs[k]? = some u:=⟨_,List.getElem?_eq_getElem (by rw[h.len];exact hk)⟩
  have hm9:=List.mem_of_getElem? hx
  have hl9:=hl l hm9
  have ho:=(h.own k u l hu hx).1
  obtain⟨A',c',e,hc'⟩:=ho.slice
  rw[e] at hu ho
  refine⟨A',c',?_,hc',(ho.rl (by omega)).1⟩
  rw[Nat.zero_add]
  refine Blk.cell hh ?_
  rw[←ht,List.getElem?_take,if_pos (by rw[h.len];omega)] at hu
  simpa using hu
theorem RoI.from {w0 w wr:World} {v:Value} {vs:List Value} {Z:List (List Int)} (h:RoI w wr v vs Z) (hb:But No w0 w):RoI w0 wr v vs Z :=
 ⟨hb.trans h.but,h.row,fun k e=>Nat.le_trans hb.size (h.new k e),h.len,fun r u l h1 h2=>⟨(h.own r u l h1 h2).1,fun k e=>Nat.le_trans hb.size ((h.own r u l h1 h2).2 k e)⟩,h.nb,h.dis⟩
theorem infoII : (Tryz.prog.info? 26).map (fun i=>(i.zero,i.size,i.bytes))=some (some (.slice none 0 0),1,24):=by kernel_rfl
end Go.Proofs.YtikcigjbhohboaaGreat.pln
end
