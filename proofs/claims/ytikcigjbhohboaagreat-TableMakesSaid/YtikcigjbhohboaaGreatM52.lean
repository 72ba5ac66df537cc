/- Part 52 of a proof: TbG. -/
import Derived.StillTailTactics
import Derived.Test.YtikcigjbhohboaaGreatM22
import Derived.Test.YtikcigjbhohboaaGreatM42
import Derived.Test.YtikcigjbhohboaaGreatM51
section
namespace Go.Proofs.YtikcigjbhohboaaGreat.tbl
open Go.Lib (hid)
set_option linter.unusedSimpArgs false
open Go.ChangeShapes Go.WideShapes Go.ChangeAt Go.RowKit Go.Deep val ter pln
theorem esV_pl (s:Sys) (L:List (List Pc)) (zs:List Int):plE (esV s L zs)=rkV s L:=by
 apply List.ext_getElem?
 intro i
 unfold plE esV
 rw[List.map_map,List.getElem?_map]
 by_cases hi:i<L.length
 ·rw[List.getElem?_eq_getElem (by rw[List.length_range];exact hi),List.getElem?_eq_getElem (by rw[rkV_len];exact hi)]
  simp[List.getD,rkV_len,hi]
 ·rw[List.getElem?_eq_none (by rw[List.length_range];omega),List.getElem?_eq_none (by rw[rkV_len];omega)];rfl
theorem mkB_is (s:Sys) (L:List (List Pc)) (zs:List Int):tbR ⟨s,esV s L zs,ceV s L⟩=mkB s (esV s L zs):=by unfold mkB;rw[esV_pl,ceV_rk]
theorem en_reads (w:World) (A:Option Addr) (n c:Nat) (z:Int):Reads (w.alloc (.cells #[.slice A n c,.int .i64 z] 40)) (w.heap.size+1) 2 (some ⟨w.heap.size,0,none⟩) 1 [.slice A n c,.int .i64 z] :=
 ⟨rfl,fun _=>⟨_,rfl,Nat.lt_succ_self _,World.news_of_block (cs:=#[.slice A n c,.int .i64 z]) (t:=40) (fr:=(0,0)) (Blk.new w _ _)⟩⟩
theorem en_cell (A:Option Addr) (n c:Nat) (z:Int):∀ u ∈ [Value.slice A n c,.int .i64 z],u.oneCell'=true:=by simp[Value.oneCell']
def enF (vs:List Value) (zs:List Int) (j:Nat):Value:=if j % 2=0 then vs.getD (j/2) (.slice none 0 0) else .int .i64 (zs.getD (j/2) 0)
theorem enF_0 (vs:List Value) (zs:List Int) (k:Nat):enF vs zs (k*2)=vs.getD k (.slice none 0 0):=by unfold enF;rw[if_pos (by omega),show k*2/2=k by omega]
theorem enF_1 (vs:List Value) (zs:List Int) (k:Nat):enF vs zs (k*2+1)=.int .i64 (zs.getD k 0):=by unfold enF;rw[if_neg (by omega),show (k*2+1)/2=k by omega]
theorem rceil_all {s:Sys} {A:Option Addr} {n c:Nat} {A':Option Addr} {N c':Nat} {L:List (List Pc)} {w:World} (hs:RSys w A n c s) (hl:RPl w A' N L) (hr:plR s L=true):Calls Tryz.prog 27 #[sysV s A n c,.slice A' N c'] w fun e w'=>∃ AZ cZ,e=.returned (.tuple #[.slice AZ s.co.toNat cZ,.bool true])∧But No w w'∧∀ W,But (fun k=>k<w.heap.size) w' W→RNs W AZ s.co.toNat (ceV s L):=by
 refine(rceil_any s A n c A' N c' L w hs hl).mono ?_
 rintro e w' (⟨h,_⟩ | ⟨_,v,vs,rfl,h⟩)
 ·rw[hr] at h;cases h
 obtain⟨hcs,hla,hn24,_⟩:=right_nums (plR_parts hr).1
 obtain⟨_,_,hrs⟩:=right_pr (plR_parts hr).1
 have key:∀ W,But (fun k=>k<w.heap.size) w' W→∃ A c,v=.slice A (ceV s L).length c∧RNs W A (ceV s L).length (ceV s L):=fun W hb =>
  ns_of (owns_but h.row hb (fun k e f=>by have:=h.new k e;omega)) h.len (fun r u l h1 h2=>(h.own r u l h1 h2).1.but hb (fun k e f=>by have:=(h.own r u l h1 h2).2 k e;omega)) (by rw[ceVlen];omega) (fun l hl=>by
   unfold ceV at hl
   obtain⟨k,_,rfl⟩:=List.mem_map.1 hl
   rw[ceRlen];omega)
 rw[ceVlen] at key
 obtain⟨A1,c1,rfl,_⟩:=key w' (But.refl _ _)
 refine⟨A1,c1,rfl,h.but,fun W hb=>?_⟩
 obtain⟨A2,c2,e,h2⟩:=key W hb
 cases e
 exact h2
set_option maxRecDepth 100000 in
set_option maxHeartbeats 8000000 in
theorem dmake_any (s:Sys) (A:Option Addr) (n c:Nat) (A':Option Addr) (N c':Nat) (L:List (List Pc)) (D:Option Addr) (z cz:Nat) (zs:List Int) (w:World) (hs:RSys w A n c s) (hl:RPl w A' N L) (hz:Rd w D z zs) :
  Calls Tryz.prog 10 #[sysV s A n c,.slice A' N c',.slice D z cz] w fun e w' =>
   (mkV s L zs=false∧e=.returned (.tuple #[tbV sys0 none 0 0 none 0 0 none 0 0,.bool false])∧But No w w') ∨
   (mkV s L zs=true∧∃ g d AZ q fZ,e=.returned (.tuple #[tbV s A n c (some ⟨g,0,none⟩) N d AZ q fZ,.bool true])∧But No w w'∧REn w' (some ⟨g,0,none⟩) N (esV s L zs)∧RNs w' AZ q (ceV s L)):=by
 obtain⟨W1,hW1⟩:∃ W1,(w.alloc (.cells (boxS s A n c) 24)).alloc (.cells #[.int .i64 0,.int .i64 0,.int .i64 0,.int .i64 0,.int .i64 0,.int .i64 0,.int .i64 0,.int .i64 0,.slice none 0 0,.slice none 0 0,.slice none 0 0] 31)=W1:=⟨_,rfl⟩
 have hb1:But No w W1:=by rw[←hW1];exact((But.refl No w).alloc _).alloc _
 have hx1:Blk W1 w.heap.size (boxS s A n c) 24:=by rw[←hW1];exact(Blk.new w _ _).alloc _
 have hr1:Blk W1 (w.heap.size+1) #[.int .i64 0,.int .i64 0,.int .i64 0,.int .i64 0,.int .i64 0,.int .i64 0,.int .i64 0,.int .i64 0,.slice none 0 0,.slice none 0 0,.slice none 0 0] 31:=by rw[←hW1];exact blk2 w _ _ _
 have HB1:=hid hb1
 have HX1:=hid hx1
 have HR1:=hid hr1
 have HS:=hid hs
 have HL:=hid hl
 have HZ:=hid hz
 have CR:=hid (rrank_any s A n c A' N c' L W1 (hs.no hb1) (hl.no hb1))
 have HSN:Hid (s.ts.length=n):=hs.ts.len
 have HZN:Hid (zs.length=z):=hz.len
 clear hs hl hz hb1
 obtain⟨B,hB⟩:∃ B,w.heap.size=B:=⟨_,rfl⟩
 have HBW:=hid hB
 rw[hB] at hx1 HX1 HR1
 have bb:=sys_cells hx1
 clear hr1 hx1
 dsimp only[sysV,boxS] at hW1 CR ⊢
 go_enter Tryz.func10,Tryz.ntmps10
 by_cases hpl:plR s L=true
 ·have hNn:N=n:=by rw[←HL.out.len,(plR_parts hpl).2.1];exact HSN.out
  subst hNn
  obtain⟨_,_,hn1,hn2,_⟩:=right_len (plR_parts hpl).1
  rw[HSN.out] at hn1 hn2
  have HLN:Hid (L.length=N):=HL.out.len
  have HRS:=hid (rk_sizes HL.out hpl)
  have HPL:=hid hpl
  by_cases hzn:z=N
  ·subst hzn
   have d1:((z:Int) != (z:Int))=false:=by simp
   obtain⟨iE,hi0,hz0,hz1,hz2⟩:=info_parts infoEn
   have IE:Hid (Tryz.prog.info? 40=some iE∧iE.zero=some (.agg #[.slice none 0 0,.int .i64 0])∧iE.size=2∧iE.bytes=32):=⟨hi0,hz0,hz1,hz2⟩
   clear hi0 hz0 hz1 hz2 hpl
   go_wp2_with (go_at_call 26;refine CR.out.mono ?_;rintro e w2 (⟨h,_⟩ | ⟨_,v,vs,rfl,hro⟩);(rw[HPL.out] at h;cases h);obtain⟨g1,c1,rfl,hc1,hl1⟩:=rop_form hro (by rw[rkV_len,HLN.out];exact hn1);rw[rkV_len,HLN.out] at hc1 hro ⊢;have HB2:=hid hro.but;have HRO:=hid hro;have cc:=rceil_all (c:=c) (c':=c') (HS.out.no (HB1.out.trans hro.but)) (HL.out.no (HB1.out.trans hro.but)) HPL.out;have CC:=hid cc;have bb:=sys_cells (HX1.out.but hro.but (fun f=>f));clear hro cc)
   dsimp only[sysV] at CC
   clear CR
   go_upto_region 5 with(go_at_call 27;refine CC.out.mono ?_;rintro e w3 ⟨AZ,fZ,rfl,hb3,hz3⟩;have HB3:=hid hb3;have HZ3:=hid hz3;clear hb3 hz3)
   clear bb
   have bb:=sys_cells (HX1.out.but (HB2.out.trans HB3.out) (fun f=>f))
   generalize s.co.toNat=q at *
   obtain⟨T,hT⟩:∃ T,w3.heap.size=T:=⟨_,rfl⟩
   obtain⟨W5,hW5⟩:∃ W5,w3.alloc (.cells #[.int .i64 s.co,.int .i64 s.po,.int .i64 s.pr,.int .i64 s.re,.int .i64 s.sw,.int .i64 s.fi,.int .i64 s.la,.int .i64 s.rs,.slice A z c,.slice none 0 0,.slice AZ q fZ] 31)=W5:=⟨_,rfl⟩
   have HX5:Hid (Blk W5 T #[.int .i64 s.co,.int .i64 s.po,.int .i64 s.pr,.int .i64 s.re,.int .i64 s.sw,.int .i64 s.fi,.int .i64 s.la,.int .i64 s.rs,.slice A z c,.slice none 0 0,.slice AZ q fZ] 31):=by rw[←hW5,←hT];exact Blk.new w3 _ _
   have HB5:Hid (But No w3 W5):=by rw[←hW5];exact(But.refl No w3).alloc _
   have HTW:Hid (w3.heap.size=T):=hT
   have hmx:=HL.out.max
   go_wp2_with fail
   clear hW5 hT bb d1
   go_loopw [13] (fun i wr=>∃ (k:Nat) (E:Option Addr) (d:Nat),k≤z∧i=.int .i64 k∧Hid (But (Just T) W5 wr)∧Hid (Blk wr T #[.int .i64 s.co,.int .i64 s.po,.int .i64 s.pr,.int .i64 s.re,.int .i64 s.sw,.int .i64 s.fi,.int .i64 s.la,.int .i64 s.rs,.slice A z c,.slice E k d,.slice AZ q fZ] 31)∧Hid (wr.ownsRow 0 40 2 (.slice E k d) k ((List.range (k*2)).map (enF vs zs)))∧Hid (∀ j,(Value.slice E k d).ownBlock=some j→W5.heap.size≤j)) (fun i _=>z-(intOf i).toNat)
   case atStart=>exact⟨0,none,0,by omega,rfl,But.refl _ _,HX5,World.ownsRow_nil _ _ _ _,own_none⟩
   case round =>
    obtain⟨k,E,d,hk,rfl,hbw,hbx,hown,hnew⟩:=hrel
    have hk0:(0:Int)≤(k:Int):=Int.natCast_nonneg k
    by_cases hlt:k<z
    ·have kn':(k:Int)<(z:Int):=by omega
     have HBN:Hid (But No w3 wr):=hid (HB5.out.andThen hbw.out (fun j e=>.inr (by rw[show j=T from e,←HTW.out];exact Nat.le_refl _)))
     obtain⟨l,hl⟩:∃ l,(rkV s L)[k]? = some l:=⟨_,List.getElem?_eq_getElem (by rw[rkV_len,HLN.out];exact hlt)⟩
     obtain⟨u,hu⟩:∃ u,vs[k]? = some u:=⟨_,List.getElem?_eq_getElem (by rw[HRO.out.len,rkV_len,HLN.out];exact hlt)⟩
     obtain⟨A5,c5,rfl,_,_⟩:=((HRO.out.no (HB3.out.trans HBN.out)).own k u l hu hl).1.rd (by have:=HRS.out.2.1 l (List.mem_of_getElem? hl);omega) (HRS.out.2.2 l (List.mem_of_getElem? hl))
     have v1:wr.cell? ⟨g1,k,none⟩=some (.slice A5 l.length c5):=by
      have:=(HRO.out.no (HB3.out.trans HBN.out)).row.cells (g:=g1) rfl k _ hu
      rw[add_plain,Nat.zero_add] at this;exact this
     obtain⟨bz,oz,rfl,hbzl,hzc0⟩:=HZ.out.at_ (by omega)
     have v2:=cell_keep (hzc0 k hlt) ((HB1.out.trans HB2.out).trans (HB3.out.trans HBN.out))
     have HU:=hid hu
     clear hzc0 hl hu
     obtain⟨bo,hbo⟩:∃ bo,zs.getD k 0=bo:=⟨_,rfl⟩
     rw[hbo] at v2
     have HBO:=hid hbo
     clear hbo
     have v3:=hbx.out.cell (o:=9) rfl
     have v4:=hbx.out.frozen 9
     have HG1:Hid (g1<wr.heap.size∧¬((Value.slice E k d).ownBlock=some g1∨g1=T)):=hid (by
      have h1:=HB3.out.size
      have h2:=HBN.out.size
      have h3:=HTW.out
      have h4:=HB5.out.size
      exact⟨by omega,fun e=>by rcases e with e | e;(have:=hnew.out _ e;omega);omega⟩)
     have HG2:Hid (bz<wr.heap.size∧¬((Value.slice E k d).ownBlock=some bz∨bz=T)):=hid (by
      have h0:=HB2.out.size
      have h1:=HB3.out.size
      have h2:=HBN.out.size
      have h3:=HTW.out
      have h4:=HB5.out.size
      have h5:=HB1.out.size
      exact⟨by omega,fun e=>by rcases e with e | e;(have:=hnew.out _ e;omega);omega⟩)
     generalize l.length=lx at *
     go_wp2_with fail
     have KP:Hid (∀ W,But (fun j=>(Value.slice E k d).ownBlock=some j∨j=T) wr W→W.cell? ⟨g1,k,none⟩=some (.slice A5 lx c5)∧W.cell? ⟨bz,oz+k,none⟩=some (.int .i64 bo)):=hid (fun W hb=>⟨(hb.cell HG1.out.1 HG1.out.2).trans v1,(hb.cell HG2.out.1 HG2.out.2).trans v2⟩)
     refine wp_region_noPanic ?_
     refine wp_region_held_drew (S:=fun W=>W.cell? ⟨g1,k,none⟩=some (.slice A5 lx c5)∧W.cell? ⟨bz,oz+k,none⟩=some (.int .i64 bo)) (by kernel_rfl) (KP.out _ (But.refl _ wr).drew) (fun hHeld=>?_)
     refine wpAnyH_take (i:=0) (oi:=_) (v:=?v1) rfl (by kernel_rfl) (by kernel_rfl) (by kernel_rfl) (fun _ _ _ h=>h) (Or.inl ⟨by rfl,?hy1⟩) (by assumption) ?rest1
     case hy1=>(intro w hSw;(try dsimp only at hSw);go_simp <;> with_reducible rfl)
     simp only[Act.put,List.getElem_toArray,List.getElem_cons_succ,List.getElem_cons_zero,List.setIfInBounds_toArray,List.set_cons_zero,List.set_cons_succ]
     refine wpAnyH_take (i:=2) (oi:=_) (v:=?v2) rfl (by kernel_rfl) (by kernel_rfl) (by kernel_rfl) (fun _ _ _ h=>h) (Or.inl ⟨by rfl,?hy2⟩) (by assumption) ?rest2
     case hy2=>(intro w hSw;(try dsimp only at hSw);go_simp <;> with_reducible rfl)
     simp only[Act.put,List.getElem_toArray,List.getElem_cons_succ,List.getElem_cons_zero,List.setIfInBounds_toArray,List.set_cons_zero,List.set_cons_succ]
     refine wpAnyH_take (i:=3) (oi:=_) (v:=?v3) rfl (by kernel_rfl) (by kernel_rfl) (by kernel_rfl) (fun _ _ _ h=>h) (Or.inl ⟨by rfl,?hy3⟩) (by assumption) ?rest3
     case hy3=>(intro w hSw;(try dsimp only at hSw);go_simp <;> with_reducible rfl)
     simp only[Act.put,List.getElem_toArray,List.getElem_cons_succ,List.getElem_cons_zero,List.setIfInBounds_toArray,List.set_cons_zero,List.set_cons_succ]
     refine wpAnyH_take (i:=4) (oi:=_) (v:=?v4) rfl (by kernel_rfl) (by kernel_rfl) (by kernel_rfl) (fun _ _ _ h=>h) (Or.inl ⟨by rfl,?hy4⟩) (by assumption) ?rest4
     case hy4=>(intro w hSw;(try dsimp only at hSw);go_simp <;> with_reducible rfl)
     simp only[Act.put,List.getElem_toArray,List.getElem_cons_succ,List.getElem_cons_zero,List.setIfInBounds_toArray,List.set_cons_zero,List.set_cons_succ]
     refine wpAnyH_take (i:=5) (oi:=_) (v:=?v5) rfl (by kernel_rfl) (by kernel_rfl) (by kernel_rfl) (fun _ _ _ h=>h) (Or.inl ⟨by rfl,?hy5⟩) (by assumption) ?rest5
     case hy5=>(intro w hSw;(try dsimp only at hSw);go_simp <;> with_reducible rfl)
     simp only[Act.put,List.getElem_toArray,List.getElem_cons_succ,List.getElem_cons_zero,List.setIfInBounds_toArray,List.set_cons_zero,List.set_cons_succ]
     refine wpAnyH_take (i:=6) (oi:=_) (v:=?v6) rfl (by kernel_rfl) (by kernel_rfl) (by kernel_rfl) (fun _ _ _ h=>h) (Or.inl ⟨by rfl,?hy6⟩) (by assumption) ?rest6
     case hy6=>(intro w hSw;(try dsimp only at hSw);go_simp <;> with_reducible rfl)
     simp only[Act.put,List.getElem_toArray,List.getElem_cons_succ,List.getElem_cons_zero,List.setIfInBounds_toArray,List.set_cons_zero,List.set_cons_succ]
     refine wpAnyH_take (i:=7) (oi:=_) (v:=?v7) rfl (by kernel_rfl) (by kernel_rfl) (by kernel_rfl) (fun _ _ _ h=>h) (Or.inl ⟨by rfl,?hy7⟩) (by assumption) ?rest7
     case hy7=>(intro w hSw;(try dsimp only at hSw);go_simp <;> with_reducible rfl)
     simp only[Act.put,List.getElem_toArray,List.getElem_cons_succ,List.getElem_cons_zero,List.setIfInBounds_toArray,List.set_cons_zero,List.set_cons_succ]
     refine wpAnyH_take (i:=8) (oi:=_) (v:=?v8) rfl (by kernel_rfl) (by kernel_rfl) (by kernel_rfl) (fun _ _ _ h=>h) (Or.inl ⟨by rfl,?hy8⟩) (by assumption) ?rest8
     case hy8=>(intro w hSw;(try dsimp only at hSw);go_simp <;> with_reducible rfl)
     simp only[Act.put,List.getElem_toArray,List.getElem_cons_succ,List.getElem_cons_zero,List.setIfInBounds_toArray,List.set_cons_zero,List.set_cons_succ]
     refine wpAnyH_take (i:=9) (oi:=_) (v:=?v9) rfl (by kernel_rfl) (by kernel_rfl) (by kernel_rfl) (fun _ _ _ h=>h) (Or.inl ⟨by rfl,?hy9⟩) (by assumption) ?rest9
     case hy9=>(intro w hSw;(try dsimp only at hSw);go_simp <;> with_reducible rfl)
     simp only[Act.put,List.getElem_toArray,List.getElem_cons_succ,List.getElem_cons_zero,List.setIfInBounds_toArray,List.set_cons_zero,List.set_cons_succ]
     refine wpAnyH_take (i:=10) (oi:=_) (v:=?v10) rfl (by kernel_rfl) (by kernel_rfl) (by kernel_rfl) (fun _ _ _ h=>h) (Or.inl ⟨by rfl,?hy10⟩) (by assumption) ?rest10
     case hy10=>(intro w hSw;(try dsimp only at hSw);go_simp <;> with_reducible rfl)
     simp only[Act.put,List.getElem_toArray,List.getElem_cons_succ,List.getElem_cons_zero,List.setIfInBounds_toArray,List.set_cons_zero,List.set_cons_succ]
     refine wpAnyH_ready (rs:=[1,11]) (by kernel_rfl) (by simp) ?_
     have HTN:Hid (¬(Value.slice E k d).ownBlock=some T):=hid (fun e=>by have:=hnew.out T e;have:=HX5.out.lt;omega)
     have HTL:Hid (T<wr.heap.size):=hid hbx.out.lt
     refine AllReadyH.cons rfl (fun K hK=>?_) (AllReadyH.cons rfl (fun K hK=>?_) AllReadyH.nil)
     ·go_simp
      refine hK.out _ _ (KP.out _ (But.refl _ wr).drew) (fun hHeld=>?_)
      clear hK K
      try simp only[Act.put,List.getElem_toArray,List.getElem_cons_succ,List.getElem_cons_zero,List.setIfInBounds_toArray,List.set_cons_zero,List.set_cons_succ]
      refine wpAnyH_ready (rs:=[11]) (by kernel_rfl) (by simp) ?_
      refine AllReadyH.cons rfl (fun K hK=>?_) AllReadyH.nil
      go_simp
      refine hK.out _ _ (KP.out _ ((But.refl _ wr).drew.alloc _)) (fun hHeld=>?_)
      clear hK K
      try simp only[Act.put,List.getElem_toArray,List.getElem_cons_succ,List.getElem_cons_zero,List.setIfInBounds_toArray,List.set_cons_zero,List.set_cons_succ]
      refine wpAnyH_ready (rs:=[12]) (by kernel_rfl) (by simp) ?_
      refine AllReadyH.cons rfl (fun K hK=>?_) AllReadyH.nil
      refine step_append_sh rfl _ _ 28 rfl 40 iE _ 2 32 Tryz.underlying28 IE.out.1 IE.out.2.1 IE.out.2.2.1 IE.out.2.2.2 rfl (by omega) (.slice E k d) k ((List.range (k*2)).map (enF vs zs)) (by simp[Act.eval]) (owns_but hown.out ((But.refl No wr).drew.alloc _) (fun _ _ f=>f)) (wr.heap.size+1) (some ⟨wr.heap.size,0,none⟩) 1 1 [.slice A5 lx c5,.int .i64 bo] (by simp[Act.eval]) (en_reads wr.drew A5 lx c5 bo) (en_cell A5 lx c5 bo) (by unfold maxLen;omega) (by omega) ?_
      intro A7 d7 w7 hown7 hgrow7 hat7
      have HB7:Hid (But (fun j=>(Value.slice E k d).ownBlock=some j∨j=T) wr w7):=hid (((But.refl _ wr).drew.alloc _).grown hgrow7.out (fun j e=>.inl (.inl e)))
      have HB7':Hid (But (fun j=>(Value.slice E k d).ownBlock=some j) wr w7):=hid (((But.refl _ wr).drew.alloc _).grown hgrow7.out (fun j e=>.inl e))
      refine hK.out _ _ (KP.out _ HB7.out) (fun hHeld=>?_)
      clear hK K
      try simp only[Act.put,List.getElem_toArray,List.getElem_cons_succ,List.getElem_cons_zero,List.setIfInBounds_toArray,List.set_cons_zero,List.set_cons_succ]
      refine wpAnyH_take (i:=13) (oi:=_) (v:=?v13) rfl (by kernel_rfl) (by kernel_rfl) (by kernel_rfl) (fun _ _ _ h=>h) (Or.inl ⟨by rfl,?hy13⟩) (by assumption) ?rest13
      case hy13=>(intro w hSw;(try dsimp only at hSw);go_simp <;> with_reducible rfl)
      try simp only[Act.put,List.getElem_toArray,List.getElem_cons_succ,List.getElem_cons_zero,List.setIfInBounds_toArray,List.set_cons_zero,List.set_cons_succ]
      have hx7:=hbx.out.but HB7'.out HTN.out
      have v5:=hx7.cell (o:=9) rfl
      have v6:=hx7.frozen 9
      have HX7:=hid (hx7.set 9 (.slice A7 (k+1) d7))
      have HB8:=hid (HB7.out.setCell (p:=⟨T,9,none⟩) (.inr rfl) (.slice A7 (k+1) d7))
      refine wpAnyH_ready (rs:=[14]) (by kernel_rfl) (by simp) ?_
      refine AllReadyH.cons rfl (fun K hK=>?_) AllReadyH.nil
      go_simp
      refine hK.out _ _ (KP.out _ HB8.out) (fun hHeld=>?_)
      clear hK K
      try simp only[Act.put,List.getElem_toArray,List.getElem_cons_succ,List.getElem_cons_zero,List.setIfInBounds_toArray,List.set_cons_zero,List.set_cons_succ]
      refine wpAnyH_done (by kernel_rfl) ?_ _
      refine NoPanic.normal ?_
      go_wp2
      have HNT:Hid (¬(Value.slice A7 (k+1) d7).ownBlock=some T):=hid (fun e=>by
       rcases hat7.out with h | h
       ·rw[h] at e;exact HTN.out e
       ·rw[e] at h
        have h2:T=(wr.drew.alloc (.cells #[.slice A5 lx c5,.int .i64 bo] 40)).heap.size:=Option.some.inj h
        have h3:=HTL.out
        rw[size_alloc1] at h2
        have h4:wr.drew.heap.size=wr.heap.size:=rfl
        omega)
      have HLS:Hid ((List.range (k*2)).map (enF vs zs) ++ [.slice A5 lx c5,.int .i64 bo]=(List.range ((k+1)*2)).map (enF vs zs)):=hid (by
       rw[show (k+1)*2=k*2+1+1 by omega,List.range_succ,List.range_succ,List.map_append,List.map_append,List.append_assoc]
       simp only[List.map_cons,List.map_nil,List.cons_append,List.nil_append]
       rw[enF_0,enF_1,HBO.out,show vs.getD k (.slice none 0 0)=.slice A5 lx c5 by simp[List.getD,HU.out]])
      have HOW:Hid ((w7.setCell ⟨T,9,none⟩ (.slice A7 (k+1) d7)).ownsRow 0 40 2 (.slice A7 (k+1) d7) (k+1) ((List.range ((k+1)*2)).map (enF vs zs))):=hid (by
       rw[←HLS.out]
       exact owns_but hown7.out ((But.refl (Just T) w7).setCell (p:=⟨T,9,none⟩) rfl _) (fun j e f=>HNT.out (by rw[e,show j=T from f])))
      have HNN:Hid (∀ j,(Value.slice A7 (k+1) d7).ownBlock=some j→W5.heap.size≤j):=hid (own_new hnew.out hat7.out (by show _≤(wr.alloc _).heap.size;rw[size_alloc1];have:=hbw.out.size;omega))
      have HBB:Hid (But (Just T) W5 (w7.setCell ⟨T,9,none⟩ (.slice A7 (k+1) d7))):=hid (hbw.out.andThen HB8.out (fun j e=>by
       rcases e with e | e
       ·exact .inr (hnew.out j e)
       ·exact .inl e))
      refine⟨⟨k+1,A7,d7,by omega,by go_num,HBB.out,hid (by simpa using HX7.out),HOW.out,HNN.out⟩,by simp[intOf];omega⟩
     ·go_simp
      refine hK.out _ _ (KP.out _ ((But.refl _ wr).drew.alloc _)) (fun hHeld=>?_)
      clear hK K
      try simp only[Act.put,List.getElem_toArray,List.getElem_cons_succ,List.getElem_cons_zero,List.setIfInBounds_toArray,List.set_cons_zero,List.set_cons_succ]
      have v7:=(hbx.out.alloc (.cells #[.slice A5 lx c5,.int .i64 bo] 40)).cell (o:=9) rfl
      refine wpAnyH_ready (rs:=[1]) (by kernel_rfl) (by simp) ?_
      refine AllReadyH.cons rfl (fun K hK=>?_) AllReadyH.nil
      go_simp
      refine hK.out _ _ (KP.out _ ((But.refl _ wr).drew.alloc _)) (fun hHeld=>?_)
      clear hK K
      try simp only[Act.put,List.getElem_toArray,List.getElem_cons_succ,List.getElem_cons_zero,List.setIfInBounds_toArray,List.set_cons_zero,List.set_cons_succ]
      refine wpAnyH_ready (rs:=[12]) (by kernel_rfl) (by simp) ?_
      refine AllReadyH.cons rfl (fun K hK=>?_) AllReadyH.nil
      refine step_append_sh rfl _ _ 28 rfl 40 iE _ 2 32 Tryz.underlying28 IE.out.1 IE.out.2.1 IE.out.2.2.1 IE.out.2.2.2 rfl (by omega) (.slice E k d) k ((List.range (k*2)).map (enF vs zs)) (by simp[Act.eval]) (owns_but hown.out ((But.refl No wr).drew.alloc _) (fun _ _ f=>f)) (wr.heap.size+1) (some ⟨wr.heap.size,0,none⟩) 1 1 [.slice A5 lx c5,.int .i64 bo] (by simp[Act.eval]) (en_reads wr.drew A5 lx c5 bo) (en_cell A5 lx c5 bo) (by unfold maxLen;omega) (by omega) ?_
      intro A7 d7 w7 hown7 hgrow7 hat7
      have HB7:Hid (But (fun j=>(Value.slice E k d).ownBlock=some j∨j=T) wr w7):=hid (((But.refl _ wr).drew.alloc _).grown hgrow7.out (fun j e=>.inl (.inl e)))
      have HB7':Hid (But (fun j=>(Value.slice E k d).ownBlock=some j) wr w7):=hid (((But.refl _ wr).drew.alloc _).grown hgrow7.out (fun j e=>.inl e))
      refine hK.out _ _ (KP.out _ HB7.out) (fun hHeld=>?_)
      clear hK K
      try simp only[Act.put,List.getElem_toArray,List.getElem_cons_succ,List.getElem_cons_zero,List.setIfInBounds_toArray,List.set_cons_zero,List.set_cons_succ]
      refine wpAnyH_take (i:=13) (oi:=_) (v:=?v14) rfl (by kernel_rfl) (by kernel_rfl) (by kernel_rfl) (fun _ _ _ h=>h) (Or.inl ⟨by rfl,?hy14⟩) (by assumption) ?rest14
      case hy14=>(intro w hSw;(try dsimp only at hSw);go_simp <;> with_reducible rfl)
      try simp only[Act.put,List.getElem_toArray,List.getElem_cons_succ,List.getElem_cons_zero,List.setIfInBounds_toArray,List.set_cons_zero,List.set_cons_succ]
      have hx7:=hbx.out.but HB7'.out HTN.out
      have v5:=hx7.cell (o:=9) rfl
      have v6:=hx7.frozen 9
      have HX7:=hid (hx7.set 9 (.slice A7 (k+1) d7))
      have HB8:=hid (HB7.out.setCell (p:=⟨T,9,none⟩) (.inr rfl) (.slice A7 (k+1) d7))
      refine wpAnyH_ready (rs:=[14]) (by kernel_rfl) (by simp) ?_
      refine AllReadyH.cons rfl (fun K hK=>?_) AllReadyH.nil
      go_simp
      refine hK.out _ _ (KP.out _ HB8.out) (fun hHeld=>?_)
      clear hK K
      try simp only[Act.put,List.getElem_toArray,List.getElem_cons_succ,List.getElem_cons_zero,List.setIfInBounds_toArray,List.set_cons_zero,List.set_cons_succ]
      refine wpAnyH_done (by kernel_rfl) ?_ _
      refine NoPanic.normal ?_
      go_wp2
      have HNT:Hid (¬(Value.slice A7 (k+1) d7).ownBlock=some T):=hid (fun e=>by
       rcases hat7.out with h | h
       ·rw[h] at e;exact HTN.out e
       ·rw[e] at h
        have h2:T=(wr.drew.alloc (.cells #[.slice A5 lx c5,.int .i64 bo] 40)).heap.size:=Option.some.inj h
        have h3:=HTL.out
        rw[size_alloc1] at h2
        have h4:wr.drew.heap.size=wr.heap.size:=rfl
        omega)
      have HLS:Hid ((List.range (k*2)).map (enF vs zs) ++ [.slice A5 lx c5,.int .i64 bo]=(List.range ((k+1)*2)).map (enF vs zs)):=hid (by
       rw[show (k+1)*2=k*2+1+1 by omega,List.range_succ,List.range_succ,List.map_append,List.map_append,List.append_assoc]
       simp only[List.map_cons,List.map_nil,List.cons_append,List.nil_append]
       rw[enF_0,enF_1,HBO.out,show vs.getD k (.slice none 0 0)=.slice A5 lx c5 by simp[List.getD,HU.out]])
      have HOW:Hid ((w7.setCell ⟨T,9,none⟩ (.slice A7 (k+1) d7)).ownsRow 0 40 2 (.slice A7 (k+1) d7) (k+1) ((List.range ((k+1)*2)).map (enF vs zs))):=hid (by
       rw[←HLS.out]
       exact owns_but hown7.out ((But.refl (Just T) w7).setCell (p:=⟨T,9,none⟩) rfl _) (fun j e f=>HNT.out (by rw[e,show j=T from f])))
      have HNN:Hid (∀ j,(Value.slice A7 (k+1) d7).ownBlock=some j→W5.heap.size≤j):=hid (own_new hnew.out hat7.out (by show _≤(wr.alloc _).heap.size;rw[size_alloc1];have:=hbw.out.size;omega))
      have HBB:Hid (But (Just T) W5 (w7.setCell ⟨T,9,none⟩ (.slice A7 (k+1) d7))):=hid (hbw.out.andThen HB8.out (fun j e=>by
       rcases e with e | e
       ·exact .inr (hnew.out j e)
       ·exact .inl e))
      refine⟨⟨k+1,A7,d7,by omega,by go_num,HBB.out,hid (by simpa using HX7.out),HOW.out,HNN.out⟩,by simp[intOf];omega⟩
    ·have hkz:k=z:=by omega
     subst hkz
     obtain⟨g,rfl,_,hrf⟩:=Rf.of (by omega) hown.out
     have HGN:=hid (hnew.out g rfl)
     have HRF:=hid hrf
     have HB3r:Hid (But No w3 wr):=hid (HB5.out.andThen hbw.out (fun j e=>.inr (by rw[show j=T from e,←HTW.out];exact Nat.le_refl _)))
     have HB4:Hid (But No w wr):=hid ((HB1.out.trans HB2.out).trans (HB3.out.trans HB3r.out))
     have cr:=dright_any s A k c (some ⟨g,0,none⟩) k d AZ q fZ (esV s L zs) (ceV s L) wr (HS.out.no HB4.out) (ren_of HLN.out (by omega) (HRO.out.no (HB3.out.trans HB3r.out)) HRF.out HRS.out.2 HZ.out.fit) (HZ3.out _ HB3r.out.no) (by omega)
     rw[mkB_is] at cr
     have HMK:Hid (mkV s L zs=mkB s (esV s L zs)):=hid (by unfold mkV;rw[HPL.out,decide_eq_true (by rw[HZN.out,HSN.out])];simp)
     have bb:=tb_cells (s:=s) hbx.out
     have HBX:=hid hbx.out
     dsimp only[tbV] at cr
     clear hrf hlt hown hnew hbx
     by_cases hmk:mkB s (esV s L zs)=true
     ·rw[hmk] at HMK cr
      have CRR:=hid cr
      clear hmk cr
      go_wp2_with (go_at_call 18;refine CRR.out.mono ?_;rintro e w5 ⟨rfl,hb5⟩;have HBR:=hid hb5;have HR:=hid (HR1.out.but (((HB2.out.trans HB3.out).trans HB3r.out).trans hb5) (fun f=>f));clear bb;have bb:T11 w5 T s A k c (some ⟨g,0,none⟩) k d AZ q fZ:=tb_cells (HBX.out.but hb5 (fun f=>f));clear hb5;obtain⟨z0,z1,z2,z3,z4,z5,z6,z7,z8,z9,z10⟩:=zr11 HR.out;obtain⟨f0,f1,f2,f3,f4,f5,f6,f7,f8,f9,f10⟩:=fz11 HR.out;obtain⟨hk9,hb9⟩:=blk_set11 HR.out (.int .i64 s.co) (.int .i64 s.po) (.int .i64 s.pr) (.int .i64 s.re) (.int .i64 s.sw) (.int .i64 s.fi) (.int .i64 s.la) (.int .i64 s.rs) (.slice A k c) (.slice (some ⟨g,0,none⟩) k d) (.slice AZ q fZ);obtain⟨W9,hW9⟩:∃ W9,((((((((((w5.setCell ⟨B+1,0,none⟩ (.int .i64 s.co)).setCell ⟨B+1,1,none⟩ (.int .i64 s.po)).setCell ⟨B+1,2,none⟩ (.int .i64 s.pr)).setCell ⟨B+1,3,none⟩ (.int .i64 s.re)).setCell ⟨B+1,4,none⟩ (.int .i64 s.sw)).setCell ⟨B+1,5,none⟩ (.int .i64 s.fi)).setCell ⟨B+1,6,none⟩ (.int .i64 s.la)).setCell ⟨B+1,7,none⟩ (.int .i64 s.rs)).setCell ⟨B+1,8,none⟩ (.slice A k c)).setCell ⟨B+1,9,none⟩ (.slice (some ⟨g,0,none⟩) k d)).setCell ⟨B+1,10,none⟩ (.slice AZ q fZ)=W9:=⟨_,rfl⟩;rw[hW9] at hk9 hb9;have HB9:=hid hb9;have rr:T11 W9 (B+1) s A k c (some ⟨g,0,none⟩) k d AZ q fZ:=tb_cells hk9;clear hk9 hb9)
      refine bodyPost_ret (v:=.tuple #[tbV s A k c (some ⟨g,0,none⟩) k d AZ q fZ,.bool true]) (by simp[results,Tryz.results10,go_sem,tbV,sys0,rr]) rfl ?_
      have hsz:B+1<W1.heap.size:=HR1.out.lt
      have hs2:=HB2.out.size
      have hs3:=HB3.out.size
      have hs5:=HB5.out.size
      have hgg:=HGN.out
      have hBW:=HBW.out
      have HJ:∀ j,Just (B+1) j→j=B+1:=fun j e=>e
      have hb29:But No w2 w5:=(HB3.out.trans HB3r.out).trans HBR.out
      have hbN:But No w W9:=((HB1.out.trans HB2.out).trans hb29).andThen HB9.out (fun k e=>.inr (by rw[HJ k e];omega))
      exact .inr ⟨HMK.out,g,d,AZ,q,fZ,rfl,hbN,ren_of HLN.out (by omega) (rop_old HRO.out (hb29.no.trans HB9.out) (fun j e=>by rw[HJ j e];exact hsz) hbN (by omega)) ((HRF.out.but HBR.out (fun f=>f)).but HB9.out (fun e=>by have:=HJ _ e;omega)) HRS.out.2 HZ.out.fit,HZ3.out _ ((HB3r.out.trans HBR.out).no.trans (HB9.out.mono (fun j _ e=>by rw[HJ j e];omega)))⟩
     ·have hmf:mkB s (esV s L zs)=false:=by simpa using hmk
      rw[hmf] at HMK cr
      have CRR:=hid cr
      have HF:=HMK
      clear hmk hmf cr
      go_wp2_with (go_at_call 18;refine CRR.out.mono ?_;rintro e w5 ⟨rfl,hb5⟩;have HBR:=hid hb5;have HR:=hid (HR1.out.but (((HB2.out.trans HB3.out).trans HB3r.out).trans hb5) (fun f=>f));clear hb5 bb;obtain⟨z0,z1,z2,z3,z4,z5,z6,z7,z8,z9,z10⟩:=zr11 HR.out;obtain⟨f0,f1,f2,f3,f4,f5,f6,f7,f8,f9,f10⟩:=fz11 HR.out;obtain⟨hk9,hb9⟩:=blk_set11 HR.out (.int .i64 0) (.int .i64 0) (.int .i64 0) (.int .i64 0) (.int .i64 0) (.int .i64 0) (.int .i64 0) (.int .i64 0) (.slice none 0 0) (.slice none 0 0) (.slice none 0 0);obtain⟨W9,hW9⟩:∃ W9,((((((((((w5.setCell ⟨B+1,0,none⟩ (.int .i64 0)).setCell ⟨B+1,1,none⟩ (.int .i64 0)).setCell ⟨B+1,2,none⟩ (.int .i64 0)).setCell ⟨B+1,3,none⟩ (.int .i64 0)).setCell ⟨B+1,4,none⟩ (.int .i64 0)).setCell ⟨B+1,5,none⟩ (.int .i64 0)).setCell ⟨B+1,6,none⟩ (.int .i64 0)).setCell ⟨B+1,7,none⟩ (.int .i64 0)).setCell ⟨B+1,8,none⟩ (.slice none 0 0)).setCell ⟨B+1,9,none⟩ (.slice none 0 0)).setCell ⟨B+1,10,none⟩ (.slice none 0 0)=W9:=⟨_,rfl⟩;rw[hW9] at hk9 hb9;have HB9:=hid hb9;have rr:T11 W9 (B+1) sys0 none 0 0 none 0 0 none 0 0:=tb_cells hk9;clear hk9 hb9)
      refine bodyPost_ret (v:=.tuple #[tbV sys0 none 0 0 none 0 0 none 0 0,.bool false]) (by simp[results,Tryz.results10,go_sem,tbV,sys0,rr]) rfl ?_
      exact .inl ⟨HF.out,rfl,((HB1.out.trans HB2.out).trans ((HB3.out.trans HB3r.out).trans HBR.out)).andThen HB9.out (fun k e=>.inr (by have e':k=B+1:=e;have:=HBW.out;omega))⟩
  ·have hne:((z:Int) != (N:Int))=true:=by simp;omega
   have HF:Hid (mkV s L zs=false):=hid (by unfold mkV;rw[decide_eq_false (by rw[HZN.out,HSN.out];exact hzn)];simp)
   clear hzn hpl
   go_wp2_with (go_at_call 26;refine CR.out.mono ?_;rintro e w2 (⟨h,_⟩ | ⟨_,v,vs,rfl,hro⟩);(rw[HPL.out] at h;cases h);have HB2:=hid hro.but;have HR:=hid (HR1.out.but hro.but (fun f=>f));have bb:=sys_cells (HX1.out.but hro.but (fun f=>f));clear hro;obtain⟨z0,z1,z2,z3,z4,z5,z6,z7,z8,z9,z10⟩:=zr11 HR.out;obtain⟨f0,f1,f2,f3,f4,f5,f6,f7,f8,f9,f10⟩:=fz11 HR.out;obtain⟨hk9,hb9⟩:=blk_set11 HR.out (.int .i64 0) (.int .i64 0) (.int .i64 0) (.int .i64 0) (.int .i64 0) (.int .i64 0) (.int .i64 0) (.int .i64 0) (.slice none 0 0) (.slice none 0 0) (.slice none 0 0);obtain⟨W9,hW9⟩:∃ W9,((((((((((w2.setCell ⟨B+1,0,none⟩ (.int .i64 0)).setCell ⟨B+1,1,none⟩ (.int .i64 0)).setCell ⟨B+1,2,none⟩ (.int .i64 0)).setCell ⟨B+1,3,none⟩ (.int .i64 0)).setCell ⟨B+1,4,none⟩ (.int .i64 0)).setCell ⟨B+1,5,none⟩ (.int .i64 0)).setCell ⟨B+1,6,none⟩ (.int .i64 0)).setCell ⟨B+1,7,none⟩ (.int .i64 0)).setCell ⟨B+1,8,none⟩ (.slice none 0 0)).setCell ⟨B+1,9,none⟩ (.slice none 0 0)).setCell ⟨B+1,10,none⟩ (.slice none 0 0)=W9:=⟨_,rfl⟩;rw[hW9] at hk9 hb9;have HB9:=hid hb9;have rr:T11 W9 (B+1) sys0 none 0 0 none 0 0 none 0 0:=tb_cells hk9;clear hk9 hb9)
   refine bodyPost_ret (v:=.tuple #[tbV sys0 none 0 0 none 0 0 none 0 0,.bool false]) (by simp[results,Tryz.results10,go_sem,tbV,sys0,rr]) rfl ?_
   exact .inl ⟨HF.out,rfl,(HB1.out.trans HB2.out).andThen HB9.out (fun k e=>.inr (by have e':k=B+1:=e;have:=HBW.out;omega))⟩
 ·have hpf:plR s L=false:=by simpa using hpl
  have HF:Hid (mkV s L zs=false):=hid (by unfold mkV;rw[hpf];rfl)
  go_wp2_with (go_at_call 26;refine CR.out.mono ?_;rintro e w2 (⟨_,rfl,hb2⟩ | ⟨h,_⟩);(have HB2:=hid hb2;have HR:=hid (HR1.out.but hb2 (fun f=>f));clear hb2;obtain⟨z0,z1,z2,z3,z4,z5,z6,z7,z8,z9,z10⟩:=zr11 HR.out;obtain⟨f0,f1,f2,f3,f4,f5,f6,f7,f8,f9,f10⟩:=fz11 HR.out;obtain⟨hk9,hb9⟩:=blk_set11 HR.out (.int .i64 0) (.int .i64 0) (.int .i64 0) (.int .i64 0) (.int .i64 0) (.int .i64 0) (.int .i64 0) (.int .i64 0) (.slice none 0 0) (.slice none 0 0) (.slice none 0 0);obtain⟨W9,hW9⟩:∃ W9,((((((((((w2.setCell ⟨B+1,0,none⟩ (.int .i64 0)).setCell ⟨B+1,1,none⟩ (.int .i64 0)).setCell ⟨B+1,2,none⟩ (.int .i64 0)).setCell ⟨B+1,3,none⟩ (.int .i64 0)).setCell ⟨B+1,4,none⟩ (.int .i64 0)).setCell ⟨B+1,5,none⟩ (.int .i64 0)).setCell ⟨B+1,6,none⟩ (.int .i64 0)).setCell ⟨B+1,7,none⟩ (.int .i64 0)).setCell ⟨B+1,8,none⟩ (.slice none 0 0)).setCell ⟨B+1,9,none⟩ (.slice none 0 0)).setCell ⟨B+1,10,none⟩ (.slice none 0 0)=W9:=⟨_,rfl⟩;rw[hW9] at hk9 hb9;have HB9:=hid hb9;have rr:T11 W9 (B+1) sys0 none 0 0 none 0 0 none 0 0:=tb_cells hk9;clear hk9 hb9);rotate_left;rw[hpf] at h;cases h)
  refine bodyPost_ret (v:=.tuple #[tbV sys0 none 0 0 none 0 0 none 0 0,.bool false]) (by simp[results,Tryz.results10,go_sem,tbV,sys0,rr]) rfl ?_
  exact .inl ⟨HF.out,rfl,(HB1.out.trans HB2.out).andThen HB9.out (fun k e=>.inr (by have e':k=B+1:=e;have:=HBW.out;omega))⟩
end Go.Proofs.YtikcigjbhohboaaGreat.tbl
end
