/- Part 41 of a proof: TbA TbD. -/
import Derived.Test.YtikcigjbhohboaaGreatM40
section
namespace Go.Proofs.YtikcigjbhohboaaGreat.tbl
open Go.Lib (hid)
set_option linter.unusedSimpArgs false
open Go.ChangeShapes Go.WideShapes Go.ChangeAt Go.RowKit Go.Deep val ter pln
def esV (s:Sys) (L:List (List Pc)) (zs:List Int):List En:=(List.range L.length).map (fun i=>⟨(rkV s L).getD i [],zs.getD i 0⟩)
def mkV (s:Sys) (L:List (List Pc)) (zs:List Int):Bool:=plR s L && (decide (zs.length=s.ts.length) && mkB s (esV s L zs))
theorem infoEn : (Tryz.prog.info? 40).map (fun i=>(i.zero,i.size,i.bytes))=some (some (.agg #[.slice none 0 0,.int .i64 0]),2,32):=by kernel_rfl
theorem zr11 {W:World} {k:Nat} {e:TypeId} (h:Blk W k #[.int .i64 0,.int .i64 0,.int .i64 0,.int .i64 0,.int .i64 0,.int .i64 0,.int .i64 0,.int .i64 0,.slice none 0 0,.slice none 0 0,.slice none 0 0] e):T11 W k sys0 none 0 0 none 0 0 none 0 0:=tb_cells h
theorem rop_form {w wr:World} {v:Value} {vs:List Value} {Ls:List (List Pc)} (h:RoP w wr v vs Ls) (hn:0<Ls.length):∃ g c,v=.slice (some ⟨g,0,none⟩) Ls.length c∧Ls.length≤c∧g<wr.heap.size:=by
 obtain⟨h1,h2⟩:=h.row
 rcases h2 with⟨h2,e⟩ | ⟨g,cap,cur,hv,_,hh,hc,_⟩
 ·rw[h.len] at e;omega
 ·rw[h.len] at hv hc;exact⟨g,cap,hv,hc,Blk.lt hh⟩
theorem rop_old {w w0 w2 W:World} {v:Value} {vs:List Value} {Ls:List (List Pc)} {S:Nat→Prop} (h:RoP w0 w2 v vs Ls) (hb:But S w2 W) (hS:∀ k,S k→k<w0.heap.size) (hw:But No w W) (hs:w.heap.size≤w0.heap.size):RoP w W v vs Ls :=
 ⟨hw,owns_but h.row hb (fun k e f=>by have:=h.new k e;have:=hS k f;omega),fun k e=>Nat.le_trans hs (h.new k e),h.len,fun r u l h1 h2=>⟨(h.own r u l h1 h2).1.but hb (fun k e f=>by have:=(h.own r u l h1 h2).2 k e;have:=hS k f;omega),fun k e=>Nat.le_trans hs ((h.own r u l h1 h2).2 k e)⟩,h.nb,h.dis⟩
theorem fz11 {W:World} {k:Nat} {cs:Array Value} {e:TypeId} (h:Blk W k cs e):W.frozen? ⟨k,0,none⟩=false∧W.frozen? ⟨k,1,none⟩=false∧W.frozen? ⟨k,2,none⟩=false∧W.frozen? ⟨k,3,none⟩=false∧W.frozen? ⟨k,4,none⟩=false∧W.frozen? ⟨k,5,none⟩=false∧W.frozen? ⟨k,6,none⟩=false∧W.frozen? ⟨k,7,none⟩=false∧W.frozen? ⟨k,8,none⟩=false∧W.frozen? ⟨k,9,none⟩=false∧W.frozen? ⟨k,10,none⟩=false :=
 ⟨h.frozen 0,h.frozen 1,h.frozen 2,h.frozen 3,h.frozen 4,h.frozen 5,h.frozen 6,h.frozen 7,h.frozen 8,h.frozen 9,h.frozen 10⟩
structure MkT (w w':World) (s:Sys) (n:Nat) (L:List (List Pc)) (zs:List Int) (g9 c9 g:Nat) (AZ:Option Addr) (q fZ:Nat):Prop where
 but:But No w w'
 sys:RSys w' (some ⟨g9,0,none⟩) n c9 s
 ce:RNs w' AZ q (ceV s (rkV s L))
 rows:∃ v vs,RoP w w' v vs (rkV s L)∧w.heap.size≤g∧Rf w' g 40 (n*2) (fun j=>if j % 2=0 then vs.getD (j/2) (.slice none 0 0) else .int .i64 (zs.getD (j/2) 0))∧∀ u ∈ vs,∀ k,u.ownBlock=some k→k≠g
set_option maxRecDepth 100000 in
set_option maxHeartbeats 8000000 in
theorem make_any (s:Sys) (A:Option Addr) (n c:Nat) (A':Option Addr) (N c':Nat) (L:List (List Pc)) (D:Option Addr) (z cz:Nat) (zs:List Int) (w:World) (hs:RSys w A n c s) (hl:RPl w A' N L) (hz:Rd w D z zs) :
  Calls Tryz.prog 11 #[sysV s A n c,.slice A' N c',.slice D z cz] w fun e w' =>
   (mkV s L zs=false∧e=.returned (.tuple #[tbV sys0 none 0 0 none 0 0 none 0 0,.int .i64 1])∧But No w w') ∨
   (mkV s L zs=true∧∃ g9 c9 g AZ q fZ,e=.returned (.tuple #[tbV s (some ⟨g9,0,none⟩) n c9 (some ⟨g,0,none⟩) n n AZ q fZ,.int .i64 0])∧MkT w w' s n L zs g9 c9 g AZ q fZ):=by
 obtain⟨W1,hW1⟩:∃ W1,(w.alloc (.cells (boxS s A n c) 24)).alloc (.cells #[.int .i64 0,.int .i64 0,.int .i64 0,.int .i64 0,.int .i64 0,.int .i64 0,.int .i64 0,.int .i64 0,.slice none 0 0,.slice none 0 0,.slice none 0 0] 31)=W1:=⟨_,rfl⟩
 have hb1:But No w W1:=by rw[←hW1];exact((But.refl No w).alloc _).alloc _
 have hx1:Blk W1 w.heap.size (boxS s A n c) 24:=by rw[←hW1];exact(Blk.new w _ _).alloc _
 have hr1:Blk W1 (w.heap.size+1) #[.int .i64 0,.int .i64 0,.int .i64 0,.int .i64 0,.int .i64 0,.int .i64 0,.int .i64 0,.int .i64 0,.slice none 0 0,.slice none 0 0,.slice none 0 0] 31:=by rw[←hW1];exact blk2 w _ _ _
 have HB1:=hid hb1
 have HX1:=hid hx1
 have HR1:=hid hr1
 have HS:=hid hs
 have HL:=hid hl
 have HZ:=hid hz
 have CR:=hid (rank_top s A n c A' N c' L W1 (hs.no hb1) (hl.no hb1))
 have HSN:Hid (s.ts.length=n):=hs.ts.len
 have HZN:Hid (zs.length=z):=hz.len
 clear hs hl hz hb1
 obtain⟨B,hB⟩:∃ B,w.heap.size=B:=⟨_,rfl⟩
 have HBW:=hid hB
 rw[hB] at hx1 HX1 HR1
 have bb:=sys_cells hx1
 clear hr1 hx1
 dsimp only[sysV,boxS] at hW1 CR ⊢
 go_enter Tryz.func11,Tryz.ntmps11
 by_cases hpl:plR s L=true
 ·have hLn:L.length=n:=by rw[(plR_parts hpl).2.1];exact HSN.out
  obtain⟨_,_,hn1,hn2,_⟩:=right_len (plR_parts hpl).1
  rw[HSN.out] at hn1 hn2
  have HRT:=hid (plR_parts hpl).1
  have HLN:=hid hLn
  have HRS:=hid (rk_sizes HL.out hpl)
  have HPL:=hid hpl
  clear hLn
  by_cases hzn:z=n
  ·subst hzn
   have d1:((z:Int) != (z:Int))=false:=by simp
   obtain⟨iE,hi0,hz0,hz1,hz2⟩:=info_parts infoEn
   have IE:Hid (Tryz.prog.info? 40=some iE∧iE.zero=some (.agg #[.slice none 0 0,.int .i64 0])∧iE.size=2∧iE.bytes=32):=⟨hi0,hz0,hz1,hz2⟩
   clear hi0 hz0 hz1 hz2 hpl
   go_upto_region 5 with(first | (go_at_call 28;refine CR.out.mono ?_;rintro e w2 (⟨h,_⟩ | ⟨_,v,vs,rfl,hro⟩);(rw[HPL.out] at h;cases h);obtain⟨g1,c1,rfl,hc1,hl1⟩:=rop_form hro (by rw[rkV_len,HLN.out];exact hn1);rw[rkV_len,HLN.out] at hc1 hro ⊢;have HB2:=hid hro.but;have HRO:=hid hro;have bb:=sys_cells (HX1.out.but hro.but (fun f=>f));clear hro) | (at_make;refine wpList_make_full _ rfl _ _ 28 rfl 0 40 iE _ 2 Tryz.underlying28 IE.out.1 IE.out.2.1 IE.out.2.2.1 .i64 .i64 _ _ z rfl rfl rfl rfl (by rw[IE.out.2.2.2];omega) (by unfold maxLen;omega) (Nat.zero_le _) ?_;intro w3 hown hgrow;have HB3:=hid ((But.refl No w2).grown hgrow (fun k e=>by cases e));have HV3:=hid hown;clear hown hgrow))
   obtain⟨g,hg⟩:∃ g,w2.heap.size=g:=⟨_,rfl⟩
   have HC3:Hid (∃ cur,Blk w3 w2.heap.size cur 40∧cur.size=z*2):=hid (by
    obtain⟨h1,h2⟩:=HV3.out
    rcases h2 with⟨h2,_⟩ | ⟨g',cap,cur,hx,_,hh,_,_,hs,_⟩
    ·cases h2
    ·cases hx;exact⟨cur,hh,hs⟩)
   have HG:=hid hg
   rw[hg] at HC3 ⊢
   clear hg HV3 d1 hc1 hl1
   obtain⟨F,hF⟩:∃ F:Nat→Value,(fun j=>if j % 2=0 then vs.getD (j/2) (.slice none 0 0) else .int .i64 (zs.getD (j/2) 0))=F:=⟨_,rfl⟩
   have HFE:Hid (∀ k,F (k*2)=vs.getD k (.slice none 0 0)∧F (k*2+1)=.int .i64 (zs.getD k 0)):=hid (fun k=>by
    rw[←hF]
    refine⟨?_,?_⟩
    ·show (if _ then _ else _)=_;rw[if_pos (by omega),show k*2/2=k by omega]
    ·show (if _ then _ else _)=_;rw[if_neg (by omega),show (k*2+1)/2=k by omega])
   have HFF:=hid hF
   clear hF
   go_wp2
   go_loopw [37] (fun i wr=>∃ k:Nat,k≤z∧i=.int .i64 k∧Hid (But No w2 wr)∧Hid (∃ cur,Blk wr g cur 40∧cur.size=z*2∧∀ j,j<k*2→cur[j]? = some (F j))) (fun i _=>z-(intOf i).toNat)
   case atStart =>
    obtain⟨cur,h1,h2⟩:=HC3.out
    exact⟨0,by omega,rfl,HB3,hid ⟨cur,h1,h2,fun j hj=>by omega⟩⟩
   case round =>
    obtain⟨k,hk,rfl,hbw,hcur⟩:=hrel
    have hk0:(0:Int)≤(k:Int):=Int.natCast_nonneg k
    by_cases hlt:k<z
    ·have kn':(k:Int)<(z:Int):=by omega
     obtain⟨l,hl⟩:∃ l,(rkV s L)[k]? = some l:=⟨_,List.getElem?_eq_getElem (by rw[rkV_len,HLN.out];exact hlt)⟩
     obtain⟨u,hu⟩:∃ u,vs[k]? = some u:=⟨_,List.getElem?_eq_getElem (by rw[HRO.out.len,rkV_len,HLN.out];exact hlt)⟩
     obtain⟨A5,c5,rfl,_,_⟩:=((HRO.out.no hbw.out).own k u l hu hl).1.rd (by have:=HRS.out.2.1 l (List.mem_of_getElem? hl);omega) (HRS.out.2.2 l (List.mem_of_getElem? hl))
     have v1:wr.cell? ⟨g1,k,none⟩=some (.slice A5 l.length c5):=by
      have:=(HRO.out.no hbw.out).row.cells (g:=g1) rfl k _ hu
      rw[add_plain,Nat.zero_add] at this;exact this
     obtain⟨bz,oz,rfl,_,hzc⟩:=(HZ.out.no ((HB1.out.trans HB2.out).trans hbw.out)).at_ (by omega)
     have v2:=hzc k hlt
     obtain⟨cur,q1,q2,q3⟩:=hcur.out
     obtain⟨o0,p0⟩:∃ o,cur[k*2]? = some o:=⟨_,Array.getElem?_eq_getElem (by omega)⟩
     obtain⟨o1,p1⟩:∃ o,cur[k*2+1]? = some o:=⟨_,Array.getElem?_eq_getElem (by omega)⟩
     have j0:=q1.cell p0
     have j1:=q1.cell p1
     have e0:=q1.frozen (k*2)
     have e1:=q1.frozen (k*2+1)
     have HU:=hid hu
     clear hzc p0 p1 hl hu
     obtain⟨bo,hbo⟩:∃ bo,zs.getD k 0=bo:=⟨_,rfl⟩
     rw[hbo] at v2
     have HBO:=hid hbo
     clear hbo
     have Q1:=hid q1
     have Q2:=hid q2
     have Q3:=hid q3
     clear q1 q2 q3
     go_wp2
     refine⟨⟨k+1,by omega,by go_num,hid ((hbw.out.setNew (p:=⟨g,k*2,none⟩) (by rw[HG.out];exact Nat.le_refl _) _).setNew (p:=⟨g,k*2+1,none⟩) (by rw[HG.out];exact Nat.le_refl _) _),hid ⟨_,(Q1.out.set (k*2) (.slice A5 l.length c5)).set (k*2+1) (.int .i64 bo),by simp[Q2.out],fun j hj=>?_⟩⟩,by simp[intOf];omega⟩
     rw[Array.getElem?_setIfInBounds,Array.getElem?_setIfInBounds]
     by_cases h1:k*2+1=j
     ·subst h1
      rw[if_pos rfl,if_pos (by rw[Array.size_setIfInBounds,Q2.out];omega),(HFE.out k).2,HBO.out]
     ·rw[if_neg h1]
      by_cases h2:k*2=j
      ·subst h2
       rw[if_pos rfl,if_pos (by rw[Q2.out];omega),(HFE.out k).1,List.getD,HU.out];rfl
      ·rw[if_neg h2];exact Q3.out j (by omega)
    ·have hkz:k=z:=by omega
     subst hkz
     have HB4:Hid (But No w wr):=hid ((HB1.out.trans HB2.out).trans hbw.out)
     have CCP:=hid (copied_any s A k c wr (HS.out.no HB4.out) HRT.out)
     have hbx:=HX1.out.but (HB2.out.trans hbw.out) (fun f=>f)
     clear bb
     have bb:=sys_cells hbx
     have HEN:Hid (∀ W,But No wr W→REn W (some ⟨g,0,none⟩) k (esV s L zs)):=hid (fun W hb=>by
      obtain⟨cur,q1,q2,q3⟩:=hcur.out
      have q1':=q1.but hb (fun f=>f)
      refine⟨by unfold esV;rw[List.length_map,List.length_range,HLN.out],by omega,fun _=>⟨g,0,rfl,q1'.lt,fun i x hx=>?_⟩,fun x hx=>?_⟩
      ·unfold esV at hx
       rw[List.getElem?_map] at hx
       have hi:i<k:=by
        by_cases hi:i<k
        ·exact hi
        ·rw[List.getElem?_eq_none (by rw[List.length_range,HLN.out];omega)] at hx;cases hx
       obtain⟨l,hl⟩:∃ l,(rkV s L)[i]? = some l:=⟨_,List.getElem?_eq_getElem (by rw[rkV_len,HLN.out];exact hi)⟩
       obtain⟨u,hu⟩:∃ u,vs[i]? = some u:=⟨_,List.getElem?_eq_getElem (by rw[HRO.out.len,rkV_len,HLN.out];exact hi)⟩
       obtain⟨A5,c5,rfl,hc5,hrp⟩:=((HRO.out.no (hbw.out.trans hb)).own i u l hu hl).1.rd (by have:=HRS.out.2.1 l (List.mem_of_getElem? hl);omega) (HRS.out.2.2 l (List.mem_of_getElem? hl))
       have hxe:x=⟨l,zs.getD i 0⟩:=by
        rw[List.getElem?_eq_getElem (by rw[List.length_range,HLN.out];exact hi)] at hx
        simp only[List.getElem_range,Option.map_some,Option.some.injEq] at hx
        rw[←hx,show (rkV s L).getD i []=l by simp[List.getD,hl]]
       subst hxe
       have c0:=q1'.cell (q3 (i*2) (by omega))
       have c1:=q1'.cell (q3 (i*2+1) (by omega))
       rw[(HFE.out i).1,show vs.getD i (.slice none 0 0)=.slice A5 l.length c5 by simp[List.getD,hu]] at c0
       rw[(HFE.out i).2] at c1
       rw[Nat.zero_add]
       exact⟨A5,c5,c0,c1,hc5,hrp⟩
      ·unfold esV at hx
       obtain⟨i,_,rfl⟩:=List.mem_map.1 hx
       exact HZ.out.fit i)
     have HPE:Hid (plE (esV s L zs)=rkV s L):=hid (by
      apply List.ext_getElem?
      intro i
      unfold plE esV
      rw[List.map_map,List.getElem?_map]
      by_cases hi:i<L.length
      ·rw[List.getElem?_eq_getElem (by rw[List.length_range];exact hi),List.getElem?_eq_getElem (by rw[rkV_len];exact hi)]
       simp[List.getD,rkV_len,hi]
      ·rw[List.getElem?_eq_none (by rw[List.length_range];omega),List.getElem?_eq_none (by rw[rkV_len];omega)];rfl)
     have CCM:=hid (fun g9 c9 W (hb:But No wr W) (hs9:RSys W (some ⟨g9,0,none⟩) k c9 s)=>complete_any s (some ⟨g9,0,none⟩) k c9 (some ⟨g,0,none⟩) k k (esV s L zs) W hs9 (HEN.out W hb) (by omega))
     have HMK:Hid (mkV s L zs=mkB s (esV s L zs)):=hid (by unfold mkV;rw[HPL.out,decide_eq_true (by rw[HZN.out,HSN.out])];simp)
     clear hbx CR hlt
     dsimp only[sysV,tbV] at CCP CCM
     by_cases hmk:mkB s (esV s L zs)=true
     ·rw[hmk] at HMK CCM
      clear hmk
      go_wp2_with (first | (go_at_call 30;refine CCP.out.mono ?_;rintro e w4 ⟨g9,c9,rfl,hb4,hc9,hs9⟩;have HBA:=hid hb4;have HS9:=hid hs9;have HC9:=hid hc9;clear hb4 hs9 hc9) | (go_at_call 29;refine(CCM.out g9 c9 _ HBA.out (HS9.out _ (But.refl _ _))).mono ?_;rintro e w5 ⟨AZ,q,fZ,CE,rfl,hb5,hz5,hce⟩;have HZ5:=hid hz5;have HCE:=hid (hce (by trivial));have HB5:=hid hb5;obtain⟨W6,hW6⟩:∃ W6,w5.alloc (.cells #[.int .i64 s.co,.int .i64 s.po,.int .i64 s.pr,.int .i64 s.re,.int .i64 s.sw,.int .i64 s.fi,.int .i64 s.la,.int .i64 s.rs,.slice (some ⟨g9,0,none⟩) k c9,.slice (some ⟨g,0,none⟩) k k,.slice AZ q fZ] 31)=W6:=⟨_,rfl⟩;have hb6:But No w5 W6:=(by rw[←hW6];exact(But.refl No w5).alloc _);have HB56:=hid hb6;have HB6:Hid (But No w2 W6):=hid ((hbw.out.trans HBA.out).trans (hb5.trans hb6));have HR:=hid (HR1.out.but (HB2.out.trans HB6.out) (fun f=>f));have tt:T11 W6 w5.heap.size s (some ⟨g9,0,none⟩) k c9 (some ⟨g,0,none⟩) k k AZ q fZ:=(by rw[←hW6];exact tb_cells (Blk.new w5 _ _));obtain⟨t0,t1,t2,t3,t4,t5,t6,t7,t8,t9,t10⟩:=tt;clear hb5 hb6 hz5 hce;obtain⟨z0,z1,z2,z3,z4,z5,z6,z7,z8,z9,z10⟩:=zr11 HR.out;obtain⟨f0,f1,f2,f3,f4,f5,f6,f7,f8,f9,f10⟩:=fz11 HR.out;obtain⟨hk9,hb9⟩:=blk_set11 HR.out (.int .i64 s.co) (.int .i64 s.po) (.int .i64 s.pr) (.int .i64 s.re) (.int .i64 s.sw) (.int .i64 s.fi) (.int .i64 s.la) (.int .i64 s.rs) (.slice (some ⟨g9,0,none⟩) k c9) (.slice (some ⟨g,0,none⟩) k k) (.slice AZ q fZ);obtain⟨W9,hW9⟩:∃ W9,((((((((((W6.setCell ⟨B+1,0,none⟩ (.int .i64 s.co)).setCell ⟨B+1,1,none⟩ (.int .i64 s.po)).setCell ⟨B+1,2,none⟩ (.int .i64 s.pr)).setCell ⟨B+1,3,none⟩ (.int .i64 s.re)).setCell ⟨B+1,4,none⟩ (.int .i64 s.sw)).setCell ⟨B+1,5,none⟩ (.int .i64 s.fi)).setCell ⟨B+1,6,none⟩ (.int .i64 s.la)).setCell ⟨B+1,7,none⟩ (.int .i64 s.rs)).setCell ⟨B+1,8,none⟩ (.slice (some ⟨g9,0,none⟩) k c9)).setCell ⟨B+1,9,none⟩ (.slice (some ⟨g,0,none⟩) k k)).setCell ⟨B+1,10,none⟩ (.slice AZ q fZ)=W9:=⟨_,rfl⟩;rw[hW9] at hk9 hb9;have HB9:=hid hb9;have rr:T11 W9 (B+1) s (some ⟨g9,0,none⟩) k c9 (some ⟨g,0,none⟩) k k AZ q fZ:=tb_cells hk9;clear hk9 hb9))
      refine bodyPost_ret (v:=.tuple #[tbV s (some ⟨g9,0,none⟩) k c9 (some ⟨g,0,none⟩) k k AZ q fZ,.int .i64 0]) (by simp[results,Tryz.results11,go_sem,tbV,sys0,rr]) rfl ?_
      have hsz:B+1<W1.heap.size:=HR1.out.lt
      have hs2:=HB2.out.size
      have hsw:=hbw.out.size
      have hsa:=HBA.out.size
      have HJ:∀ j,Just (B+1) j→j=B+1:=fun j e=>e
      have hgg:=HG.out
      have hBW:=HBW.out
      have hbN:But No w W9:=((HB1.out.trans HB2.out).trans HB6.out).andThen HB9.out (fun k e=>.inr (by rw[HJ k e];omega))
      refine .inr ⟨HMK.out,g9,c9,g,AZ,q,fZ,rfl,hbN,HS9.out _ ((HB5.out.trans HB56.out).no.trans (HB9.out.mono (fun j _ e=>by rw[HJ j e];omega))),?_,.slice (some ⟨g1,0,none⟩) k c1,vs,rop_old HRO.out (HB6.out.no.trans HB9.out) (fun j e=>by rw[HJ j e];exact hsz) hbN (by omega),by omega,?_,fun u hu j e=>?_⟩
      ·rw[←HPE.out,←HCE.out]
       exact HZ5.out _ (HB56.out.no.trans (HB9.out.mono (fun j _ e=>by rw[HJ j e];omega)))
      ·obtain⟨cur,q1,q2,q3⟩:=hcur.out
       rw[HFF.out]
       exact⟨cur,(q1.but (HBA.out.trans (HB5.out.trans HB56.out)) (fun f=>f)).but HB9.out (fun e=>by have:=HJ _ e;omega),q3⟩
      ·obtain⟨i,hi⟩:=List.mem_iff_getElem?.1 hu
       have hi':i<(rkV s L).length:=by rw[←HRO.out.len];exact(List.getElem?_eq_some_iff.1 hi).1
       have:=(HRO.out.own i u _ hi (List.getElem?_eq_getElem hi')).1.lt e
       omega
     ·have hmf:mkB s (esV s L zs)=false:=by simpa using hmk
      rw[hmf] at HMK CCM
      have HF:=HMK
      clear hmk hmf
      go_wp2_with (first | (go_at_call 30;refine CCP.out.mono ?_;rintro e w4 ⟨g9,c9,rfl,hb4,hc9,hs9⟩;have HBA:=hid hb4;have HS9:=hid hs9;have HC9:=hid hc9;clear hb4 hs9 hc9) | (go_at_call 29;refine(CCM.out g9 c9 _ HBA.out (HS9.out _ (But.refl _ _))).mono ?_;rintro e w5 ⟨AZ,q,fZ,CE,rfl,hb5,_,_⟩;obtain⟨W6,hW6⟩:∃ W6,w5.alloc (.cells #[.int .i64 s.co,.int .i64 s.po,.int .i64 s.pr,.int .i64 s.re,.int .i64 s.sw,.int .i64 s.fi,.int .i64 s.la,.int .i64 s.rs,.slice (some ⟨g9,0,none⟩) k c9,.slice (some ⟨g,0,none⟩) k k,.slice AZ q fZ] 31)=W6:=⟨_,rfl⟩;have HB6:Hid (But No w2 W6):=hid ((hbw.out.trans HBA.out).trans (hb5.trans (by rw[←hW6];exact(But.refl No w5).alloc _)));have HR:=hid (HR1.out.but (HB2.out.trans HB6.out) (fun f=>f));clear hb5;obtain⟨z0,z1,z2,z3,z4,z5,z6,z7,z8,z9,z10⟩:=zr11 HR.out;obtain⟨f0,f1,f2,f3,f4,f5,f6,f7,f8,f9,f10⟩:=fz11 HR.out;obtain⟨hk9,hb9⟩:=blk_set11 HR.out (.int .i64 0) (.int .i64 0) (.int .i64 0) (.int .i64 0) (.int .i64 0) (.int .i64 0) (.int .i64 0) (.int .i64 0) (.slice none 0 0) (.slice none 0 0) (.slice none 0 0);obtain⟨W9,hW9⟩:∃ W9,((((((((((W6.setCell ⟨B+1,0,none⟩ (.int .i64 0)).setCell ⟨B+1,1,none⟩ (.int .i64 0)).setCell ⟨B+1,2,none⟩ (.int .i64 0)).setCell ⟨B+1,3,none⟩ (.int .i64 0)).setCell ⟨B+1,4,none⟩ (.int .i64 0)).setCell ⟨B+1,5,none⟩ (.int .i64 0)).setCell ⟨B+1,6,none⟩ (.int .i64 0)).setCell ⟨B+1,7,none⟩ (.int .i64 0)).setCell ⟨B+1,8,none⟩ (.slice none 0 0)).setCell ⟨B+1,9,none⟩ (.slice none 0 0)).setCell ⟨B+1,10,none⟩ (.slice none 0 0)=W9:=⟨_,rfl⟩;rw[hW9] at hk9 hb9;have HB9:=hid hb9;have rr:T11 W9 (B+1) sys0 none 0 0 none 0 0 none 0 0:=tb_cells hk9;clear hk9 hb9))
      refine bodyPost_ret (v:=.tuple #[tbV sys0 none 0 0 none 0 0 none 0 0,.int .i64 1]) (by simp[results,Tryz.results11,go_sem,tbV,sys0,rr]) rfl ?_
      exact .inl ⟨HF.out,rfl,((HB1.out.trans HB2.out).trans HB6.out).andThen HB9.out (fun k e=>.inr (by have e':k=B+1:=e;have:=HBW.out;omega))⟩
  ·have hne:((z:Int) != (n:Int))=true:=by simp;omega
   have HF:Hid (mkV s L zs=false):=hid (by unfold mkV;rw[decide_eq_false (by rw[HZN.out,HSN.out];exact hzn)];simp)
   clear hzn hpl
   go_wp2_with (go_at_call 28;refine CR.out.mono ?_;rintro e w2 (⟨h,_⟩ | ⟨_,v,vs,rfl,hro⟩);(rw[HPL.out] at h;cases h);obtain⟨g1,c1,rfl,_,_⟩:=rop_form hro (by rw[rkV_len,HLN.out];exact hn1);have HB2:=hid hro.but;have HR:=hid (HR1.out.but hro.but (fun f=>f));have bb:=sys_cells (HX1.out.but hro.but (fun f=>f));clear hro;obtain⟨z0,z1,z2,z3,z4,z5,z6,z7,z8,z9,z10⟩:=zr11 HR.out;obtain⟨f0,f1,f2,f3,f4,f5,f6,f7,f8,f9,f10⟩:=fz11 HR.out;obtain⟨hk9,hb9⟩:=blk_set11 HR.out (.int .i64 0) (.int .i64 0) (.int .i64 0) (.int .i64 0) (.int .i64 0) (.int .i64 0) (.int .i64 0) (.int .i64 0) (.slice none 0 0) (.slice none 0 0) (.slice none 0 0);obtain⟨W9,hW9⟩:∃ W9,((((((((((w2.setCell ⟨B+1,0,none⟩ (.int .i64 0)).setCell ⟨B+1,1,none⟩ (.int .i64 0)).setCell ⟨B+1,2,none⟩ (.int .i64 0)).setCell ⟨B+1,3,none⟩ (.int .i64 0)).setCell ⟨B+1,4,none⟩ (.int .i64 0)).setCell ⟨B+1,5,none⟩ (.int .i64 0)).setCell ⟨B+1,6,none⟩ (.int .i64 0)).setCell ⟨B+1,7,none⟩ (.int .i64 0)).setCell ⟨B+1,8,none⟩ (.slice none 0 0)).setCell ⟨B+1,9,none⟩ (.slice none 0 0)).setCell ⟨B+1,10,none⟩ (.slice none 0 0)=W9:=⟨_,rfl⟩;rw[hW9] at hk9 hb9;have HB9:=hid hb9;have rr:T11 W9 (B+1) sys0 none 0 0 none 0 0 none 0 0:=tb_cells hk9;clear hk9 hb9)
   refine bodyPost_ret (v:=.tuple #[tbV sys0 none 0 0 none 0 0 none 0 0,.int .i64 1]) (by simp[results,Tryz.results11,go_sem,tbV,sys0,rr]) rfl ?_
   exact .inl ⟨HF.out,rfl,(HB1.out.trans HB2.out).andThen HB9.out (fun k e=>.inr (by have e':k=B+1:=e;have:=HBW.out;omega))⟩
 ·have hpf:plR s L=false:=by simpa using hpl
  have HF:Hid (mkV s L zs=false):=hid (by unfold mkV;rw[hpf];rfl)
  go_wp2_with (go_at_call 28;refine CR.out.mono ?_;rintro e w2 (⟨_,rfl,hb2⟩ | ⟨h,_⟩);(have HB2:=hid hb2;have HR:=hid (HR1.out.but hb2 (fun f=>f));clear hb2;obtain⟨z0,z1,z2,z3,z4,z5,z6,z7,z8,z9,z10⟩:=zr11 HR.out;obtain⟨f0,f1,f2,f3,f4,f5,f6,f7,f8,f9,f10⟩:=fz11 HR.out;obtain⟨hk9,hb9⟩:=blk_set11 HR.out (.int .i64 0) (.int .i64 0) (.int .i64 0) (.int .i64 0) (.int .i64 0) (.int .i64 0) (.int .i64 0) (.int .i64 0) (.slice none 0 0) (.slice none 0 0) (.slice none 0 0);obtain⟨W9,hW9⟩:∃ W9,((((((((((w2.setCell ⟨B+1,0,none⟩ (.int .i64 0)).setCell ⟨B+1,1,none⟩ (.int .i64 0)).setCell ⟨B+1,2,none⟩ (.int .i64 0)).setCell ⟨B+1,3,none⟩ (.int .i64 0)).setCell ⟨B+1,4,none⟩ (.int .i64 0)).setCell ⟨B+1,5,none⟩ (.int .i64 0)).setCell ⟨B+1,6,none⟩ (.int .i64 0)).setCell ⟨B+1,7,none⟩ (.int .i64 0)).setCell ⟨B+1,8,none⟩ (.slice none 0 0)).setCell ⟨B+1,9,none⟩ (.slice none 0 0)).setCell ⟨B+1,10,none⟩ (.slice none 0 0)=W9:=⟨_,rfl⟩;rw[hW9] at hk9 hb9;have HB9:=hid hb9;have rr:T11 W9 (B+1) sys0 none 0 0 none 0 0 none 0 0:=tb_cells hk9;clear hk9 hb9);rotate_left;rw[hpf] at h;cases h)
  refine bodyPost_ret (v:=.tuple #[tbV sys0 none 0 0 none 0 0 none 0 0,.int .i64 1]) (by simp[results,Tryz.results11,go_sem,tbV,sys0,rr]) rfl ?_
  exact .inl ⟨HF.out,rfl,(HB1.out.trans HB2.out).andThen HB9.out (fun k e=>.inr (by have e':k=B+1:=e;have:=HBW.out;omega))⟩
end Go.Proofs.YtikcigjbhohboaaGreat.tbl
end
section
namespace Go.Proofs.YtikcigjbhohboaaGreat.tbl
open Go.Lib (hid)
set_option linter.unusedSimpArgs false
open Go.ChangeShapes Go.WideShapes Go.ChangeAt Go.RowKit Go.Deep val ter pln
def slA (w:World) (A:Option Addr) (j:Nat):Value:=match A with
 | some a=>slE w a.block a.off j
 | none=>.slice none 0 0
theorem sl_reads (w:World) (A:Option Addr) (n c:Nat):Reads (w.alloc (.cells #[.slice A n c] 38)) (w.heap.size+1) 1 (some ⟨w.heap.size,0,none⟩) 1 [.slice A n c] :=
 ⟨rfl,fun _=>⟨_,rfl,Nat.lt_succ_self _,World.news_of_block (cs:=#[.slice A n c]) (t:=38) (fr:=(0,0)) (Blk.new w _ _)⟩⟩
theorem sl_cell (A:Option Addr) (n c:Nat):∀ u ∈ [Value.slice A n c],u.oneCell'=true:=by simp[Value.oneCell']
theorem slA_at {w:World} {E:Option Addr} {m:Nat} {es:List En} (h:REn w E m es) {k:Nat} {x:En} (hx:es[k]? = some x):∃ A' c',slA w E k=.slice A' x.ps.length c'∧x.ps.length≤c'∧RPc w A' x.ps.length x.ps:=by
 obtain⟨b,off,A',c',rfl,_,h1,_,h3,h4⟩:=h.at1 hx
 exact⟨A',c',by show slE w b off k=_;unfold slE;rw[h1];rfl,h3,h4⟩
set_option maxRecDepth 100000 in
set_option maxHeartbeats 4000000 in
theorem dplan_any (s:Sys) (A:Option Addr) (n c:Nat) (E:Option Addr) (m d:Nat) (C:Option Addr) (q f:Nat) (es:List En) (w:World) (h:REn w E m es) (hm:m*24≤140737488351232) :
  Calls Tryz.prog 41 #[tbV s A n c E m d C q f] w fun e w'=>∃ A' c',e=.returned (.slice A' m c')∧But No w w'∧RPl w' A' m (plE es):=by
 have HX:=hid (Blk.new w (boxT11 s A n c E m d C q f) 31)
 have HB0:=hid ((But.refl No w).alloc (.cells (boxT11 s A n c E m d C q f) 31))
 have HN:=hid h.len
 have HE:=hid h
 have hmx:=h.max
 obtain⟨i38,hi0,hz0,hz1,hz2⟩:=info_parts (e:=38) (show _=some (some (.slice none 0 0),1,24)by kernel_rfl)
 have I38:Hid (Tryz.prog.info? 38=some i38∧i38.zero=some (.slice none 0 0)∧i38.size=1∧i38.bytes=24):=⟨hi0,hz0,hz1,hz2⟩
 clear hi0 hz0 hz1 hz2 h
 dsimp only[tbV,boxT11] at HX HB0 ⊢
 go_enter Tryz.func41,Tryz.ntmps41
 go_wp2
 obtain⟨W0,hW0⟩:∃ W0,w.alloc (.cells #[.int .i64 s.co,.int .i64 s.po,.int .i64 s.pr,.int .i64 s.re,.int .i64 s.sw,.int .i64 s.fi,.int .i64 s.la,.int .i64 s.rs,.slice A n c,.slice E m d,.slice C q f] 31)=W0:=⟨_,rfl⟩
 rw[hW0] at HX HB0 ⊢
 clear hW0
 obtain⟨B,hB⟩:∃ B,w.heap.size=B:=⟨_,rfl⟩
 have HBW:=hid hB
 rw[hB] at HX ⊢
 clear hB
 go_loopw [3,4] (fun v i wr=>∃ (k:Nat) (A5:Option Addr) (c5:Nat),k≤m∧i=.int .i64 k∧v=.slice A5 k c5∧Hid (But No W0 wr)∧Hid (wr.ownsRow 0 38 1 (.slice A5 k c5) k ((List.range k).map (slA w E)))∧Hid (∀ j,(Value.slice A5 k c5).ownBlock=some j→W0.heap.size≤j)) (fun _ i _=>m-(intOf i).toNat)
 case atStart=>exact⟨0,none,0,by omega,rfl,rfl,But.refl _ _,World.ownsRow_nil _ _ _ _,own_none⟩
 case round =>
  obtain⟨k,A5,c5,hk,rfl,rfl,hbw,hown,hnew⟩:=hrel
  have hk0:(0:Int)≤(k:Int):=Int.natCast_nonneg k
  have hx:=HX.out.but hbw.out (fun f=>f)
  have bb:T11 wr B s A n c E m d C q f:=tb_cells hx
  by_cases hlt:k<m
  ·have kn':(k:Int)<(m:Int):=by omega
   obtain⟨x,hx⟩:∃ x,es[k]? = some x:=⟨_,List.getElem?_eq_getElem (by rw[HN.out];exact hlt)⟩
   obtain⟨b,off,A1,c1,e1,hb,p0,_,_,_⟩:=(HE.out.no (HB0.out.trans hbw.out)).at1 hx
   obtain⟨A2,c2,h2,_,_⟩:=slA_at HE.out hx
   have hsl:slA w E k=.slice A1 x.ps.length c1:=by
    obtain⟨b',off',A',c',e',_,h1,_⟩:=HE.out.at1 hx
    rw[e1] at e';cases e'
    have:=cell_keep h1 (HB0.out.trans hbw.out)
    rw[p0] at this
    rw[e1];show slE w b off k=_;unfold slE;rw[h1];exact(Option.some.inj this).symm
   subst e1
   have HSL:=hid hsl
   clear hsl h2 hx
   generalize x.ps.length=lx at *
   go_upto_region 4 with(at_builtin;refine wpList_append_sh _ rfl _ _ 25 rfl 38 i38 _ 1 24 Tryz.underlying25 I38.out.1 I38.out.2.1 I38.out.2.2.1 I38.out.2.2.2 rfl (by omega) (.slice A5 k c5) k ((List.range k).map (slA w (some ⟨b,off,none⟩))) rfl (owns_but hown.out ((But.refl No wr).alloc _) (fun _ _ f=>f)) (wr.heap.size+1) (some ⟨wr.heap.size,0,none⟩) 1 1 [.slice A1 lx c1] rfl (sl_reads wr A1 lx c1) (sl_cell A1 lx c1) (by unfold maxLen;omega) (by omega) ?_;intro A7 c7 w7 hown7 hgrow7 hat7;have HO7:Hid (w7.ownsRow 0 38 1 (.slice A7 (k+1) c7) (k+1) ((List.range (k+1)).map (slA w (some ⟨b,off,none⟩)))):=hid (by rw[List.range_succ,List.map_append];simpa [HSL.out] using hown7);have HN7:Hid (∀ j,(Value.slice A7 (k+1) c7).ownBlock=some j→W0.heap.size≤j):=hid (own_new hnew.out hat7 (by have:=hbw.out.size;rw[size_alloc1];omega));have HB7:Hid (But No W0 w7):=hid ((hbw.out.alloc _).grown hgrow7 (fun j e=>.inr (hnew.out j e)));clear hown7 hgrow7 hat7)
   go_wp2
   refine⟨⟨k+1,A7,c7,by omega,by go_num,rfl,HB7.out,HO7.out,HN7.out⟩,by simp[intOf];omega⟩
  ·have hkm:k=m:=by omega
   subst hkm
   have HR:Hid (RPl wr A5 k (plE es)):=hid (by
    refine⟨by rw[plE_len,HN.out],hmx,fun h0=>?_⟩
    obtain⟨g,rfl,_,hrf⟩:=Rf.of h0 hown.out
    refine⟨g,0,rfl,hrf.lt,fun j l hl=>?_⟩
    unfold plE at hl
    rw[List.getElem?_map] at hl
    cases hx:es[j]? with
    | none=>rw[hx] at hl;cases hl
    | some x =>
     rw[hx] at hl
     obtain rfl:x.ps=l:=by simpa using hl
     obtain⟨A',c',h1,h3,h4⟩:=slA_at HE.out hx
     have hjn:j<k:=by rw[←HN.out];exact(List.getElem?_eq_some_iff.1 hx).1
     exact⟨A',c',by rw[Nat.zero_add,hrf.cell hjn,h1],h3,h4.no (HB0.out.trans hbw.out)⟩)
   go_wp2
   go_ret
   exact⟨A5,c5,rfl,HB0.out.trans hbw.out,HR.out⟩
end Go.Proofs.YtikcigjbhohboaaGreat.tbl
end
