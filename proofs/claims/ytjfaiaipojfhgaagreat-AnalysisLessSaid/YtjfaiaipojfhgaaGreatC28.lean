/- Part 28 of a proof: PlWl PlR14. -/
import Derived.Test.YtjfaiaipojfhgaaGreatC23
import Derived.Test.YtjfaiaipojfhgaaGreatC27
section
namespace Go.Proofs.YtjfaiaipojfhgaaGreat.pln
open Go.Lib (hid)
set_option linter.unusedVariables false
set_option linter.unusedSimpArgs false
open Go.ChangeShapes Go.WideShapes Go.ChangeAt Go.RowKit Go.Deep val
namespace analysisLess
set_option maxRecDepth 100000 in
set_option maxHeartbeats 8000000 in
theorem walk (CK:CheckIs) (s:Sys) (A:Option Addr) (c:Nat) (A':Option Addr) (N c':Nat) (L:List (List Pc)) (_:N≤c') (x0:Int) (hx0:inR x0) (w:World) (hs:RSys w A s.ts.length c s) (hl:RPl w A' N L) :
  Calls Tryz.prog 5 #[sysV s A s.ts.length c,.slice A' N c',.int .i64 x0] w fun e w'=>e=.returned (.bool true)∧But No w w':=by
 have CX:Hid (∀ W,Calls Tryz.prog 10 #[] W fun e w'=>e=.returned (.bool true)∧But No W w'):=hid (fun W=>examples_ok CK W)
 have hlen:=chkV_len s L
 have hN:=hl.len
 have CA:Hid (∀ W,But No w W→Calls Tryz.prog 21 #[sysV s A s.ts.length c,.slice A' N c'] W fun e w'=>∃ B k,e=.returned (.tuple #[.slice B (chkV s L).1.length k,.int .i64 (chkV s L).2.1,.int .i64 (chkV s L).2.2])∧But No W w'∧Rl w' B (chkV s L).1.length (chkV s L).1) :=
  hid (fun W hw=>(CK s A _ c A' N c' L W (hs.no hw) (hl.no hw)).mono fun e w' h=>by
   obtain⟨v,he,hb,ho⟩:=h
   obtain⟨B,k,rfl,hc⟩:=ho.slice
   exact⟨B,k,he,hb,(ho.rl hlen).1⟩)
 have hB0:=(But.refl No w).alloc (.cells (boxS s A s.ts.length c) 24)
 have hS0:=hid (Blk.new w (boxS s A s.ts.length c) 24)
 have HB0:=hid hB0
 have BK:Hid (∀ W,But No (w.alloc (.cells (boxS s A s.ts.length c) 24)) W→S9 W w.heap.size s A s.ts.length c):=hid (fun W hb=>sys_cells (hS0.out.but hb (fun f=>f)))
 have HTS:=hid hs.ts
 by_cases hy:(chkV s L).2.2=0
 ·have hr:=chk_right hy
  have hN1:=(plR_parts hr).2.1
  have hT1:=(plR_small hr).1
  have hT2:=(plR_pos hr)
  have hN0:0<N:=by omega
  have hN24:N≤1000:=by omega
  have HD:Hid (∀ k t,s.ts[k]? = some t→(chkV s L).1.getD k 0≤t.d):=hid (fun k t ht=>chk_dead hl hy ht (by rw[hN1];exact(List.getElem?_eq_some_iff.1 ht).1))
  obtain⟨vs,hvs,hv1,hvr⟩:=pl_reads hl
  have VS:=hid (And.intro hvs (And.intro hv1 hvr))
  clear hvs hv1 hvr
  have CB:Hid (∀ i W D d,But No w W→RPl W D N (L.set i [])→Calls Tryz.prog 21 #[sysV s A s.ts.length c,.slice D N d] W fun e w'=>∃ B k,e=.returned (.tuple #[.slice B (chkV s (L.set i [])).1.length k,.int .i64 (chkV s (L.set i [])).2.1,.int .i64 (chkV s (L.set i [])).2.2])∧But No W w'∧Rl w' B (chkV s (L.set i [])).1.length (chkV s (L.set i [])).1) :=
   hid (fun i W D d hw hD=>(CK s A _ c D N d (L.set i []) W (hs.no hw) hD).mono fun e w' h=>by
    obtain⟨v,he,hb,ho⟩:=h
    obtain⟨B,k,rfl,hc⟩:=ho.slice
    exact⟨B,k,he,hb,(ho.rl (chkV_len s _)).1⟩)
  have HR:Hid (∀ i,(chkV s (L.set i [])).2.2=11∨((chkV s (L.set i [])).2.2=0∧(chkV s (L.set i [])).1.length=L.length∧(chkV s L).1.length=L.length∧∀ k,k<L.length→(k=i→(chkV s (L.set i [])).1.getD k 0=0)∧(chkV s (L.set i [])).1.getD k 0≤(chkV s L).1.getD k 0)):=hid (fun i=>less_rel hl hy i)
  have hlz:=chkV_ok hy
  rw[hN] at hlz
  obtain⟨i40,I0,I1,I2,I3⟩:=info_parts infoPL
  have I40:=hid (And.intro I0 (And.intro I1 (And.intro I2 I3)))
  clear I0 I1 I2 I3
  have hTN:s.ts.length=N:=by omega
  have HSET:Hid (∀ q w3 w4 g c4,q<N→But No w w3→w4.ownsRow 0 40 1 (.slice (some ⟨g,0,none⟩) N c4) N vs→w3.grownBy w4 none→g=w3.heap.size→RPl (w4.setCell ⟨g,q,none⟩ (.slice none 0 0)) (some ⟨g,0,none⟩) N (L.set q [])∧But No w3 (w4.setCell ⟨g,q,none⟩ (.slice none 0 0))):=hid (fun q w3 w4 g c4 hq hb ho hg he=>by
   have h4:But No w3 w4:=(But.refl No w3).grown hg (fun k e=>by cases e)
   exact⟨(pl_set hN (by omega) ho (hb.trans h4) (by have:=hb.size;omega) VS.out.2.2 hq).1,h4.setNew (by rw[he];exact Nat.le_refl _) _⟩)
  rw[hy,hlz] at CA
  generalize (chkV s L).1=zs at CA HR HD hlen
  generalize (chkV s L).2.1=x at CA
  clear hs hl hB0 hS0 CK hr hN1 hT1 hT2 hy hlz hlen
  have dN:decide (N=0)=false:=decide_eq_false (by omega)
  have dN':decide ((N:Int)=0)=false:=decide_eq_false (by omega)
  have dN2:(N:Int)≠0:=by omega
  unfold boxS at BK HB0
  unfold sysV at CA CB ⊢
  unfold inR at hx0
  rw[hTN] at CA CB BK HB0 HTS ⊢
  have HTN:=hid hTN
  clear hTN
  by_cases hneg:x0<0
  ·obtain⟨q,hq,hpl⟩:=place_neg hneg hN0
   have dneg:decide (x0<0)=true:=decide_eq_true hneg
   have hq2:(q:Int)<(N:Int):=by omega
   have CBq:Hid _:=hid (CB.out q)
   have HSq:Hid _:=hid (HSET.out q)
   rcases HR.out q with h11 | ⟨h0,hle,hla,hat⟩
   ·rw[h11] at CBq
    clear HR HD CB HSET
    generalize (chkV s (L.set q [])).1=zs2 at CBq
    generalize (chkV s (L.set q [])).2.1=x2 at CBq
    go_enter Tryz.func5,Tryz.ntmps5
    go_upto_region 2 with(go_at_call 10;(with_reducible refine(CX.out _).mono ?_);rintro e w1 ⟨rfl,h1⟩)
    have H1:=hid h1
    obtain⟨c0,c1,c2,c3,c4,c5,c6,c7,c8⟩:=BK.out _ H1.out
    clear h1
    go_upto_region 3 with(go_at_call 21;(with_reducible refine(CA.out _ (HB0.out.trans H1.out)).mono ?_);rintro e w2 ⟨B,k,rfl,h2,r2⟩)
    have H2:=hid (H1.out.trans h2)
    have R2:=hid r2
    clear c0 c1 c2 c3 c4 c5 c6 c7 c8 h2 r2
    have RV:=hid (VS.out.1.below (HB0.out.trans H2.out).all)
    go_upto_region 9 with(at_builtin;refine wpList_append_sh _ rfl _ _ 25 rfl 40 i40 _ 1 24 Tryz.underlying25 I40.out.1 I40.out.2.1 I40.out.2.2.1 I40.out.2.2.2 rfl (by omega) (.slice none 0 0) 0 [] rfl (World.ownsRow_nil _ _ _ _) w.heap.size A' N c' vs rfl RV.out VS.out.2.1 (by unfold maxLen;omega) (by omega) ?_;intro A5 c5' w3 hown5 hgrow5 hat5;simp only[Nat.zero_add,List.nil_append] at hown5 hat5 ⊢)
    obtain⟨g,c9,hge,_,hgl⟩:=hown5.form hN0
    cases hge
    have hge:g=w2.heap.size:=by rcases hat5 with h | h <;> simp[Value.ownBlock] at h;exact h
    have HST:=hid (HSq.out w2 w3 g _ hq (HB0.out.trans H2.out) hown5 hgrow5 hge)
    have fz:w3.frozen? ⟨g,q,none⟩=false:=pl_thaw hown5 hN0 q
    obtain⟨u5,hu5⟩:=pl_cell hown5 hq
    clear hown5 hgrow5 hat5 hgl hge
    go_upto_region 10 with fail
    obtain⟨w5,hw5⟩:∃ w5,w3.setCell ⟨g,q,none⟩ (.slice none 0 0)=w5:=⟨_,rfl⟩
    rw[hw5] at HST ⊢
    have H32:=hid HST.out.2
    have H3:=hid (H2.out.trans HST.out.2)
    obtain⟨c0,c1,c2,c3,c4,c5,c6,c7,c8⟩:=BK.out _ H3.out
    clear hw5 fz hu5
    go_upto_region 11 with(go_at_call 21;(with_reducible refine(CBq.out w5 _ _ (HB0.out.trans H3.out) HST.out.1).mono ?_);rintro e w6 ⟨D,k',rfl,h4,r4⟩)
    clear c0 c1 c2 c3 c4 c5 c6 c7 c8
    go_wp2
    go_ret
    exact⟨rfl,HB0.out.trans (H3.out.trans h4)⟩
   ·rw[h0,hle,hN] at CBq
    rw[hN] at hat
    have HAT:=hid hat
    clear HR CB HSET h0 hle hla hat
    generalize (chkV s (L.set q [])).1=zs2 at CBq HAT
    generalize (chkV s (L.set q [])).2.1=x2 at CBq
    go_enter Tryz.func5,Tryz.ntmps5
    go_upto_region 2 with(go_at_call 10;(with_reducible refine(CX.out _).mono ?_);rintro e w1 ⟨rfl,h1⟩)
    have H1:=hid h1
    obtain⟨c0,c1,c2,c3,c4,c5,c6,c7,c8⟩:=BK.out _ H1.out
    clear h1
    go_upto_region 3 with(go_at_call 21;(with_reducible refine(CA.out _ (HB0.out.trans H1.out)).mono ?_);rintro e w2 ⟨B,k,rfl,h2,r2⟩)
    have H2:=hid (H1.out.trans h2)
    have R2:=hid r2
    clear c0 c1 c2 c3 c4 c5 c6 c7 c8 h2 r2
    have RV:=hid (VS.out.1.below (HB0.out.trans H2.out).all)
    go_upto_region 9 with(at_builtin;refine wpList_append_sh _ rfl _ _ 25 rfl 40 i40 _ 1 24 Tryz.underlying25 I40.out.1 I40.out.2.1 I40.out.2.2.1 I40.out.2.2.2 rfl (by omega) (.slice none 0 0) 0 [] rfl (World.ownsRow_nil _ _ _ _) w.heap.size A' N c' vs rfl RV.out VS.out.2.1 (by unfold maxLen;omega) (by omega) ?_;intro A5 c5' w3 hown5 hgrow5 hat5;simp only[Nat.zero_add,List.nil_append] at hown5 hat5 ⊢)
    obtain⟨g,c9,hge,_,hgl⟩:=hown5.form hN0
    cases hge
    have hge:g=w2.heap.size:=by rcases hat5 with h | h <;> simp[Value.ownBlock] at h;exact h
    have HST:=hid (HSq.out w2 w3 g _ hq (HB0.out.trans H2.out) hown5 hgrow5 hge)
    have fz:w3.frozen? ⟨g,q,none⟩=false:=pl_thaw hown5 hN0 q
    obtain⟨u5,hu5⟩:=pl_cell hown5 hq
    clear hown5 hgrow5 hat5 hgl hge
    go_upto_region 10 with fail
    obtain⟨w5,hw5⟩:∃ w5,w3.setCell ⟨g,q,none⟩ (.slice none 0 0)=w5:=⟨_,rfl⟩
    rw[hw5] at HST ⊢
    have H32:=hid HST.out.2
    have H3:=hid (H2.out.trans HST.out.2)
    obtain⟨c0,c1,c2,c3,c4,c5,c6,c7,c8⟩:=BK.out _ H3.out
    clear hw5 fz hu5
    go_upto_region 11 with(go_at_call 21;(with_reducible refine(CBq.out w5 _ _ (HB0.out.trans H3.out) HST.out.1).mono ?_);rintro e w6 ⟨D,k',rfl,h4,r4⟩)
    clear c0 c1 c2 c3 c4 c5 c6 c7 c8
    have H4:=hid (H3.out.trans h4)
    have R4:=hid (And.intro (R2.out.no (H32.out.trans h4)) r4)
    clear h4 r4
    go_wp2_with fail
    go_loopw [16] (fun i wr=>∃ k:Nat,k≤N∧i=.int .i64 k∧Hid (But No w6 wr)) (fun i _=>N-(intOf i).toNat)
    case atStart=>exact⟨0,by omega,rfl,But.refl _ _⟩
    case round =>
     obtain⟨j,hj,rfl,hbw⟩:=hrel
     by_cases hlt:j<N
     ·obtain⟨b,off,rfl,hb,hc⟩:=(R4.out.1.no hbw.out).at_ (by omega)
      obtain⟨b',off',rfl,hb',hc'⟩:=(R4.out.2.no hbw.out).at_ (by omega)
      obtain⟨t,ht⟩:∃ t,s.ts[j]? = some t:=⟨_,List.getElem?_eq_getElem (by rw[HTN.out];exact hlt)⟩
      obtain⟨bt,offt,AS,cS,hAe,e0,e1,_,_,_,_⟩:=(HTS.out.no (HB0.out.trans (H4.out.trans hbw.out))).at1 ht
      obtain⟨c0,c1,c2,c3,c4,c5,c6,c7,c8⟩:=BK.out _ (H4.out.trans hbw.out)
      rw[hAe] at c8
      clear c0 c1 c2 c3 c4 c5 c6 c7 e0
      have hck:=hc j hlt
      have hck':=hc' j hlt
      clear hc hc'
      have kn':(j:Int)<(N:Int):=by omega
      have h3:=(HAT.out j hlt).2
      have h1:=(HAT.out j hlt).1
      have h5:=HD.out j t ht
      obtain⟨z,hze⟩:∃ z,z=zs.getD j 0:=⟨_,rfl⟩
      obtain⟨y,hye⟩:∃ y,y=zs2.getD j 0:=⟨_,rfl⟩
      rw[←hze] at hck h3 h5
      rw[←hye] at hck' h3 h1
      obtain⟨d,hde⟩:∃ d,d=t.d:=⟨_,rfl⟩
      rw[←hde] at e1 h5
      have hng:¬z<y:=by omega
      have hng':decide (z<y)=false:=decide_eq_false hng
      have hnd:¬d<z:=by omega
      have hnd':decide (d<z)=false:=decide_eq_false hnd
      clear hze hye hde h3 h5 hAe ht
      by_cases hjq:j=q
      ·have hy0:=h1 hjq
       subst hy0
       subst hjq
       have djq:decide ((j:Int)=(j:Int))=true:=decide_eq_true rfl
       clear h1
       go_wp2_with fail
       go_quiet (fail)
       go_wp2
       go_roundw
       case rel=>exact⟨j+1,by omega,by go_num,hbw.out.drewN _⟩
       case measure=>simp[intOf];omega
      ·have djq:decide ((j:Int)=(q:Int))=false:=decide_eq_false (by omega)
       have djq':¬(j:Int)=(q:Int):=by omega
       have djn:decide (j=q)=false:=decide_eq_false hjq
       clear h1
       go_wp2_with fail
       go_quiet (fail)
       go_wp2
       go_roundw
       case rel=>exact⟨j+1,by omega,by go_num,hbw.out.drewN _⟩
       case measure=>simp[intOf];omega
     ·go_wp2
      go_ret
      exact⟨rfl,HB0.out.trans (H4.out.trans hbw.out)⟩
  ·obtain⟨q,hq,hpl⟩:=place_pos (show 0≤x0 by omega) hN0
   have dneg:decide (x0<0)=false:=decide_eq_false hneg
   have hq2:(q:Int)<(N:Int):=by omega
   have CBq:Hid _:=hid (CB.out q)
   have HSq:Hid _:=hid (HSET.out q)
   rcases HR.out q with h11 | ⟨h0,hle,hla,hat⟩
   ·rw[h11] at CBq
    clear HR HD CB HSET
    generalize (chkV s (L.set q [])).1=zs2 at CBq
    generalize (chkV s (L.set q [])).2.1=x2 at CBq
    go_enter Tryz.func5,Tryz.ntmps5
    go_upto_region 2 with(go_at_call 10;(with_reducible refine(CX.out _).mono ?_);rintro e w1 ⟨rfl,h1⟩)
    have H1:=hid h1
    obtain⟨c0,c1,c2,c3,c4,c5,c6,c7,c8⟩:=BK.out _ H1.out
    clear h1
    go_upto_region 3 with(go_at_call 21;(with_reducible refine(CA.out _ (HB0.out.trans H1.out)).mono ?_);rintro e w2 ⟨B,k,rfl,h2,r2⟩)
    have H2:=hid (H1.out.trans h2)
    have R2:=hid r2
    clear c0 c1 c2 c3 c4 c5 c6 c7 c8 h2 r2
    have RV:=hid (VS.out.1.below (HB0.out.trans H2.out).all)
    go_upto_region 9 with(at_builtin;refine wpList_append_sh _ rfl _ _ 25 rfl 40 i40 _ 1 24 Tryz.underlying25 I40.out.1 I40.out.2.1 I40.out.2.2.1 I40.out.2.2.2 rfl (by omega) (.slice none 0 0) 0 [] rfl (World.ownsRow_nil _ _ _ _) w.heap.size A' N c' vs rfl RV.out VS.out.2.1 (by unfold maxLen;omega) (by omega) ?_;intro A5 c5' w3 hown5 hgrow5 hat5;simp only[Nat.zero_add,List.nil_append] at hown5 hat5 ⊢)
    obtain⟨g,c9,hge,_,hgl⟩:=hown5.form hN0
    cases hge
    have hge:g=w2.heap.size:=by rcases hat5 with h | h <;> simp[Value.ownBlock] at h;exact h
    have HST:=hid (HSq.out w2 w3 g _ hq (HB0.out.trans H2.out) hown5 hgrow5 hge)
    have fz:w3.frozen? ⟨g,q,none⟩=false:=pl_thaw hown5 hN0 q
    obtain⟨u5,hu5⟩:=pl_cell hown5 hq
    clear hown5 hgrow5 hat5 hgl hge
    go_upto_region 10 with fail
    obtain⟨w5,hw5⟩:∃ w5,w3.setCell ⟨g,q,none⟩ (.slice none 0 0)=w5:=⟨_,rfl⟩
    rw[hw5] at HST ⊢
    have H32:=hid HST.out.2
    have H3:=hid (H2.out.trans HST.out.2)
    obtain⟨c0,c1,c2,c3,c4,c5,c6,c7,c8⟩:=BK.out _ H3.out
    clear hw5 fz hu5
    go_upto_region 11 with(go_at_call 21;(with_reducible refine(CBq.out w5 _ _ (HB0.out.trans H3.out) HST.out.1).mono ?_);rintro e w6 ⟨D,k',rfl,h4,r4⟩)
    clear c0 c1 c2 c3 c4 c5 c6 c7 c8
    go_wp2
    go_ret
    exact⟨rfl,HB0.out.trans (H3.out.trans h4)⟩
   ·rw[h0,hle,hN] at CBq
    rw[hN] at hat
    have HAT:=hid hat
    clear HR CB HSET h0 hle hla hat
    generalize (chkV s (L.set q [])).1=zs2 at CBq HAT
    generalize (chkV s (L.set q [])).2.1=x2 at CBq
    go_enter Tryz.func5,Tryz.ntmps5
    go_upto_region 2 with(go_at_call 10;(with_reducible refine(CX.out _).mono ?_);rintro e w1 ⟨rfl,h1⟩)
    have H1:=hid h1
    obtain⟨c0,c1,c2,c3,c4,c5,c6,c7,c8⟩:=BK.out _ H1.out
    clear h1
    go_upto_region 3 with(go_at_call 21;(with_reducible refine(CA.out _ (HB0.out.trans H1.out)).mono ?_);rintro e w2 ⟨B,k,rfl,h2,r2⟩)
    have H2:=hid (H1.out.trans h2)
    have R2:=hid r2
    clear c0 c1 c2 c3 c4 c5 c6 c7 c8 h2 r2
    have RV:=hid (VS.out.1.below (HB0.out.trans H2.out).all)
    go_upto_region 9 with(at_builtin;refine wpList_append_sh _ rfl _ _ 25 rfl 40 i40 _ 1 24 Tryz.underlying25 I40.out.1 I40.out.2.1 I40.out.2.2.1 I40.out.2.2.2 rfl (by omega) (.slice none 0 0) 0 [] rfl (World.ownsRow_nil _ _ _ _) w.heap.size A' N c' vs rfl RV.out VS.out.2.1 (by unfold maxLen;omega) (by omega) ?_;intro A5 c5' w3 hown5 hgrow5 hat5;simp only[Nat.zero_add,List.nil_append] at hown5 hat5 ⊢)
    obtain⟨g,c9,hge,_,hgl⟩:=hown5.form hN0
    cases hge
    have hge:g=w2.heap.size:=by rcases hat5 with h | h <;> simp[Value.ownBlock] at h;exact h
    have HST:=hid (HSq.out w2 w3 g _ hq (HB0.out.trans H2.out) hown5 hgrow5 hge)
    have fz:w3.frozen? ⟨g,q,none⟩=false:=pl_thaw hown5 hN0 q
    obtain⟨u5,hu5⟩:=pl_cell hown5 hq
    clear hown5 hgrow5 hat5 hgl hge
    go_upto_region 10 with fail
    obtain⟨w5,hw5⟩:∃ w5,w3.setCell ⟨g,q,none⟩ (.slice none 0 0)=w5:=⟨_,rfl⟩
    rw[hw5] at HST ⊢
    have H32:=hid HST.out.2
    have H3:=hid (H2.out.trans HST.out.2)
    obtain⟨c0,c1,c2,c3,c4,c5,c6,c7,c8⟩:=BK.out _ H3.out
    clear hw5 fz hu5
    go_upto_region 11 with(go_at_call 21;(with_reducible refine(CBq.out w5 _ _ (HB0.out.trans H3.out) HST.out.1).mono ?_);rintro e w6 ⟨D,k',rfl,h4,r4⟩)
    clear c0 c1 c2 c3 c4 c5 c6 c7 c8
    have H4:=hid (H3.out.trans h4)
    have R4:=hid (And.intro (R2.out.no (H32.out.trans h4)) r4)
    clear h4 r4
    go_wp2_with fail
    go_loopw [16] (fun i wr=>∃ k:Nat,k≤N∧i=.int .i64 k∧Hid (But No w6 wr)) (fun i _=>N-(intOf i).toNat)
    case atStart=>exact⟨0,by omega,rfl,But.refl _ _⟩
    case round =>
     obtain⟨j,hj,rfl,hbw⟩:=hrel
     by_cases hlt:j<N
     ·obtain⟨b,off,rfl,hb,hc⟩:=(R4.out.1.no hbw.out).at_ (by omega)
      obtain⟨b',off',rfl,hb',hc'⟩:=(R4.out.2.no hbw.out).at_ (by omega)
      obtain⟨t,ht⟩:∃ t,s.ts[j]? = some t:=⟨_,List.getElem?_eq_getElem (by rw[HTN.out];exact hlt)⟩
      obtain⟨bt,offt,AS,cS,hAe,e0,e1,_,_,_,_⟩:=(HTS.out.no (HB0.out.trans (H4.out.trans hbw.out))).at1 ht
      obtain⟨c0,c1,c2,c3,c4,c5,c6,c7,c8⟩:=BK.out _ (H4.out.trans hbw.out)
      rw[hAe] at c8
      clear c0 c1 c2 c3 c4 c5 c6 c7 e0
      have hck:=hc j hlt
      have hck':=hc' j hlt
      clear hc hc'
      have kn':(j:Int)<(N:Int):=by omega
      have h3:=(HAT.out j hlt).2
      have h1:=(HAT.out j hlt).1
      have h5:=HD.out j t ht
      obtain⟨z,hze⟩:∃ z,z=zs.getD j 0:=⟨_,rfl⟩
      obtain⟨y,hye⟩:∃ y,y=zs2.getD j 0:=⟨_,rfl⟩
      rw[←hze] at hck h3 h5
      rw[←hye] at hck' h3 h1
      obtain⟨d,hde⟩:∃ d,d=t.d:=⟨_,rfl⟩
      rw[←hde] at e1 h5
      have hng:¬z<y:=by omega
      have hng':decide (z<y)=false:=decide_eq_false hng
      have hnd:¬d<z:=by omega
      have hnd':decide (d<z)=false:=decide_eq_false hnd
      clear hze hye hde h3 h5 hAe ht
      by_cases hjq:j=q
      ·have hy0:=h1 hjq
       subst hy0
       subst hjq
       have djq:decide ((j:Int)=(j:Int))=true:=decide_eq_true rfl
       clear h1
       go_wp2_with fail
       go_quiet (fail)
       go_wp2
       go_roundw
       case rel=>exact⟨j+1,by omega,by go_num,hbw.out.drewN _⟩
       case measure=>simp[intOf];omega
      ·have djq:decide ((j:Int)=(q:Int))=false:=decide_eq_false (by omega)
       have djq':¬(j:Int)=(q:Int):=by omega
       have djn:decide (j=q)=false:=decide_eq_false hjq
       clear h1
       go_wp2_with fail
       go_quiet (fail)
       go_wp2
       go_roundw
       case rel=>exact⟨j+1,by omega,by go_num,hbw.out.drewN _⟩
       case measure=>simp[intOf];omega
     ·go_wp2
      go_ret
      exact⟨rfl,HB0.out.trans (H4.out.trans hbw.out)⟩
 ·have hzs:=chk_none (s:=s) (L:=L) hy
  rw[hzs] at CA
  generalize (chkV s L).2.1=x at CA
  generalize (chkV s L).2.2=y at CA hy
  have hy':(y != 0)=true:=by simp[hy]
  clear hs hl hB0 hS0 CK hlen hy hzs hN HTS
  simp only[List.length_nil] at CA
  unfold boxS at BK HB0
  unfold sysV at CA ⊢
  go_enter Tryz.func5,Tryz.ntmps5
  go_upto_region 2 with(go_at_call 10;(with_reducible refine(CX.out _).mono ?_);rintro e w1 ⟨rfl,h1⟩)
  have H1:=hid h1
  obtain⟨c0,c1,c2,c3,c4,c5,c6,c7,c8⟩:=BK.out _ H1.out
  clear h1
  go_upto_region 3 with(go_at_call 21;(with_reducible refine(CA.out _ (HB0.out.trans H1.out)).mono ?_);rintro e w2 ⟨B,k,rfl,h2,r2⟩)
  have H2:=hid (HB0.out.trans (H1.out.trans h2))
  clear c0 c1 c2 c3 c4 c5 c6 c7 c8 h2 r2
  go_wp2
  go_ret
  exact⟨rfl,H2.out⟩
end analysisLess
end Go.Proofs.YtjfaiaipojfhgaaGreat.pln
end
section
namespace Go.Proofs.YtjfaiaipojfhgaaGreat.pln
open Go.ChangeShapes Go.WideShapes Go.ChangeAt Go.RowKit Go.Deep val ter
def oV (s:Sys) (L:List (List Pc)) (i k:Int):Int × Bool:=if plR s L=true∧0≤i∧0≤k then match L[i.toNat]?.bind (fun l=>l[k.toNat]?)with | some x=>(ownV s L i.toNat x,true) | none=>(0,false) else (0,false)
theorem oV_no {s:Sys} {L:List (List Pc)} {i k:Int} (h:¬(plR s L=true∧0≤i∧0≤k)):oV s L i k=(0,false):=if_neg h
theorem oV_none {s:Sys} {L:List (List Pc)} {i k:Int} (h:L[i.toNat]?.bind (fun l=>l[k.toNat]?)=none):oV s L i k=(0,false):=by
 unfold oV
 split
 ·rw[h]
 ·rfl
theorem oV_some {s:Sys} {L:List (List Pc)} {i k:Nat} {l:List Pc} {x:Pc} (h:plR s L=true) (hi:L[i]? = some l) (hk:l[k]? = some x):oV s L (i:Int) (k:Int)=(ownV s L i x,true):=by
 unfold oV
 rw[if_pos ⟨h,by omega,by omega⟩,Int.toNat_natCast,Int.toNat_natCast,hi]
 show (match l[k]? with | some x=>(ownV s L i x,true) | none=>(0,false))=_
 rw[hk]
theorem pl_bu {s:Sys} {L:List (List Pc)} (h:plR s L=true) {i k:Nat} {l:List Pc} {x:Pc} (hi:L[i]? = some l) (hk:l[k]? = some x):0≤x.bu∧x.bu≤1099511627776:=by
 obtain⟨hr,hlen,hok⟩:=plR_parts h
 obtain⟨t,ht⟩:∃ t,s.ts[i]? = some t:=⟨_,List.getElem?_eq_getElem (by have:=(List.getElem?_eq_some_iff.1 hi).1;omega)⟩
 have h5:=okS_at hok hi
 rw[getT ht] at h5
 have h6:=okL_bu h5 hk
 have h7:=((right_nums hr).2.2.2 t (List.mem_of_getElem? ht)).1
 omega
end Go.Proofs.YtjfaiaipojfhgaaGreat.pln
end
