/- Part 50 of a proof: PlWd. -/
import Derived.Test.YtjfaiaipojfhgaaGreatR14
import Derived.Test.YtjfaiaipojfhgaaGreatR24
import Derived.Test.YtjfaiaipojfhgaaGreatR27
import Derived.Test.YtjfaiaipojfhgaaGreatR48
section
namespace Go.Proofs.YtjfaiaipojfhgaaGreat.pln
open Go.Lib (hid)
set_option linter.unusedVariables false
set_option linter.unusedSimpArgs false
open Go.ChangeShapes Go.WideShapes Go.ChangeAt Go.RowKit Go.Deep val ter
namespace analysisOrder
set_option maxRecDepth 100000 in
set_option maxHeartbeats 8000000 in
theorem walk (s:Sys) (A:Option Addr) (c:Nat) (A':Option Addr) (N c':Nat) (L:List (List Pc)) (_:N≤c') (w:World) (hs:RSys w A s.ts.length c s) (hl:RPl w A' N L) :
  Calls Tryz.prog 6 #[sysV s A s.ts.length c,.slice A' N c'] w fun e w'=>e=.returned (.bool true)∧But No w w':=by
 obtain⟨n,hn⟩:∃ n,s.ts.length=n:=⟨_,rfl⟩
 rw[hn] at hs ⊢
 have CX:Hid (∀ W,Calls Tryz.prog 10 #[] W fun e w'=>e=.returned (.bool true)∧But No W w'):=hid (fun W=>examples_ok check_is W)
 have HS:=hid hs
 have HL:=hid hl
 have HNL:=hid hl.len
 have hB0:=(But.refl No w).alloc (.cells (boxS s A n c) 24)
 have hS0:=hid (Blk.new w (boxS s A n c) 24)
 have HB0:=hid hB0
 have BK:Hid (∀ W,But No (w.alloc (.cells (boxS s A n c) 24)) W→S9 W w.heap.size s A n c):=hid (fun W hb=>sys_cells (hS0.out.but hb (fun f=>f)))
 clear hB0 hS0
 unfold boxS at BK HB0
 cases hp:plR s L with
 | false =>
  have CR:Hid (∀ W,But No w W→Calls Tryz.prog 19 #[sysV s A n c,.slice A' N c'] W fun e w'=>e=.returned (.bool (plR s L))∧But No W w') :=
   hid (fun W hw=>right_is s A _ c A' N c' L W (hs.no hw) (hl.no hw))
  have CK:Hid (∀ W,But No w W→Calls Tryz.prog 13 #[sysV s A n c,.slice A' N c'] W fun e w'=>e=.returned (.tuple #[.slice none 0 0,.int .i64 1])∧But No W w') :=
   hid (fun W hw=>rank_no (HS.out.no hw) (HL.out.no hw) hp)
  rw[hp] at CR
  clear hp hn hs hl
  unfold sysV at CK CR ⊢
  go_enter Tryz.func6,Tryz.ntmps6
  go_upto_region 2 with(go_at_call 10;(with_reducible refine(CX.out _).mono ?_);rintro e w1 ⟨rfl,h1⟩)
  have H1:=hid h1
  obtain⟨c0,c1,c2,c3,c4,c5,c6,c7,c8⟩:=BK.out _ H1.out
  clear h1
  go_upto_region 3 with(go_at_call 13;(with_reducible refine(CK.out _ (HB0.out.trans H1.out)).mono ?_);rintro e w2 ⟨rfl,h2⟩)
  have H2:=hid (H1.out.trans h2)
  clear c0 c1 c2 c3 c4 c5 c6 c7 c8 h2
  obtain⟨c0,c1,c2,c3,c4,c5,c6,c7,c8⟩:=BK.out _ H2.out
  go_wp2_with (go_at_call 19;(with_reducible refine(CR.out _ (HB0.out.trans H2.out)).mono ?_);rintro e w4 ⟨rfl,h4⟩;have H4:=hid (H2.out.trans h4);clear h4)
  go_ret
  exact⟨rfl,HB0.out.trans H4.out⟩
 | true =>
  have CK:Hid (∀ W,But No w W→Calls Tryz.prog 13 #[sysV s A n c,.slice A' N c'] W fun e w'=>∃ A1 c1,e=.returned (.tuple #[.slice A1 N c1,.int .i64 0])∧But No W w'∧RPl w' A1 N (rkV s L)) :=
   hid (fun W hw=>rank_ok (HS.out.no hw) (HL.out.no hw) hp)
  have CK2:Hid (∀ W A1 c1,But No w W→RPl W A1 N (rkV s L)→Calls Tryz.prog 13 #[sysV s A n c,.slice A1 N c1] W fun e w'=>∃ A2 c2,e=.returned (.tuple #[.slice A2 N c2,.int .i64 0])∧But No W w'∧RPl w' A2 N (rkV s L)) :=
   hid (fun W A1 c1 hw h1=>by
    have:=rank_ok (c:=c) (c':=c1) (HS.out.no hw) h1 (by rw[plR_rk];exact hp)
    rwa [rkV_rk] at this)
  have C5:Hid (∀ W B D k q,RPl W B N (rkV s L)→RPl W D N (rkV s L)→Calls Tryz.prog 15 #[.slice B N k,.slice D N q] W fun e w'=>e=.returned (.bool true)∧But No W w'):=hid (fun W B D k q h1 h2=>by have:=plans_any B D N N k q _ _ W h1 h2;rwa [decide_eq_true rfl] at this)
  obtain⟨hr,hL,hok⟩:=plR_parts hp
  obtain⟨hcs,hla,hn24,_⟩:=right_nums hr
  obtain⟨_,hspo,hrs⟩:=right_pr hr
  obtain⟨co,hco⟩:∃ co:Nat,s.co=(co:Int):=⟨s.co.toNat,by omega⟩
  have hN24:N≤24:=by have:=HNL.out;omega
  have hco8:co≤8:=by omega
  have HCO:=hid hco
  have HP:=hid hp
  have HSZ:=hid (rk_sizes hl hp)
  have HPR:Hid (∀ (i:Nat) (x:Pc),0≤(rkP s L i x).pr∧(rkP s L i x).pr≤193):=hid (fun i x=>rk_pr (plR_small hp).1 (plR_small hp).2)
  have HBD:Hid (∀ (cc:Int) (i k:Nat) (l:List Pc),(rkV s L)[i]? = some l→k≤l.length→(0≤(orN cc (rkV s L) i).1+(orL cc l k).1∧(orN cc (rkV s L) i).1+(orL cc l k).1≤200)∧0≤(orN cc (rkV s L) i).2+(orL cc l k).2∧(orN cc (rkV s L) i).2+(orL cc l k).2≤40000):=hid (fun cc i k l h1 h2=>by
   have hall:∀ l ∈ rkV s L,l.length≤8∧∀ x ∈ l,0≤x.pr∧x.pr≤193:=fun l hl=>⟨(rk_sizes HL.out hp).2.1 l hl,fun x hx=>by
    obtain⟨i,l',_,rfl⟩:=rkV_mem hl
    unfold rkL at hx
    obtain⟨y,_,rfl⟩:=List.mem_map.1 hx
    exact rk_pr (plR_small hp).1 (plR_small hp).2⟩
   have hil:=(List.getElem?_eq_some_iff.1 h1).1
   have h24:=(plR_small hp).1
   have hrl:=rkV_len s L
   have h3:=orN_bd (c:=cc) hall i (by omega)
   have h4:=orL_bd (c:=cc) (hall l (List.mem_of_getElem? h1)).2 k h2
   have h5:=(hall l (List.mem_of_getElem? h1)).1
   omega)
  have HBN:Hid (∀ (cc:Int),(0≤(orN cc (rkV s L) N).1∧(orN cc (rkV s L) N).1≤200)∧0≤(orN cc (rkV s L) N).2∧(orN cc (rkV s L) N).2≤40000):=hid (fun cc=>by
   have hall:∀ l ∈ rkV s L,l.length≤8∧∀ x ∈ l,0≤x.pr∧x.pr≤193:=fun l hl=>⟨(rk_sizes HL.out hp).2.1 l hl,fun x hx=>by
    obtain⟨i,l',_,rfl⟩:=rkV_mem hl
    unfold rkL at hx
    obtain⟨y,_,rfl⟩:=List.mem_map.1 hx
    exact rk_pr (plR_small hp).1 (plR_small hp).2⟩
   have hrl:=rkV_len s L
   have:=HNL.out
   have h3:=orN_bd (c:=cc) hall N (by omega)
   omega)
  clear hr hL hok hcs hla hn24 hrs hco hn hs hl
  unfold sysV at CK CK2 ⊢
  rcases hspo with hpo | hpo
  ·have HPO:=hid hpo
   have HSUM:Hid (∀ cc:Int,2*(orN cc (rkV s L) N).2=(orN cc (rkV s L) N).1*((orN cc (rkV s L) N).1+1)):=hid (fun cc=>by have:=or_all hp hpo cc;rwa [HNL.out] at this)
   have q1:(s.po == 1)=true:=by simp[hpo]
   have q2:(s.po == 2)=false:=by simp[hpo]
   have q1':decide (s.po=1)=true:=decide_eq_true hpo
   have q2':decide (s.po=2)=false:=decide_eq_false (by omega)
   clear hp hpo
   go_enter Tryz.func6,Tryz.ntmps6
   go_upto_region 2 with(go_at_call 10;(with_reducible refine(CX.out _).mono ?_);rintro e w1 ⟨rfl,h1⟩)
   have H1:=hid h1
   obtain⟨c0,c1,c2,c3,c4,c5,c6,c7,c8⟩:=BK.out _ H1.out
   clear h1
   go_upto_region 3 with(go_at_call 13;(with_reducible refine(CK.out _ (HB0.out.trans H1.out)).mono ?_);rintro e w2 ⟨B1,d1,rfl,h2,r2⟩)
   have H2:=hid (H1.out.trans h2)
   have R2:=hid r2
   clear c0 c1 c2 c3 c4 c5 c6 c7 c8 h2 r2
   obtain⟨c0,c1,c2,c3,c4,c5,c6,c7,c8⟩:=BK.out _ H2.out
   go_upto_region 6 with(go_at_call 13;(with_reducible refine(CK2.out _ _ _ (HB0.out.trans H2.out) R2.out).mono ?_);rintro e w3 ⟨B2,d2,rfl,h3,r3⟩)
   have H3:=hid (H2.out.trans h3)
   have R3:=hid (And.intro (R2.out.no h3) r3)
   clear c0 c1 c2 c3 c4 c5 c6 c7 c8 h3 r3
   go_upto_region 7 with(go_at_call 15;(with_reducible refine(C5.out _ _ _ _ _ R3.out.1 R3.out.2).mono ?_);rintro e w4 ⟨rfl,h4⟩)
   have H4:=hid (H3.out.trans h4)
   have R4:=hid (R3.out.1.no h4)
   clear h4
   obtain⟨c0,c1,c2,c3,c4,c5,c6,c7,c8⟩:=BK.out _ H4.out
   rw[HCO.out] at c0
   clear c1 c2 c3 c4 c5 c6 c7 c8
   go_wp2_with fail
   clear c0
   go_loopw [11] (fun i wr=>∃ k:Nat,i=.int .i64 (k:Int)∧k≤co∧Hid (But No w4 wr)) (fun i _=>co-(intOf i).toNat)
   case atStart=>exact⟨0,rfl,by omega,But.refl _ _⟩
   case round =>
    obtain⟨k,rfl,hk,hb1⟩:=hrel
    have hk0:(0:Int)≤(k:Int):=Int.natCast_nonneg k
    obtain⟨c0,c1,c2,c3,c4,c5,c6,c7,c8⟩:=BK.out _ (H4.out.trans hb1.out)
    rw[HCO.out] at c0
    clear c1 c2 c3 c4 c5 c6 c7 c8
    by_cases hkc:k<co
    ·have hkc2:(k:Int)<(co:Int):=by omega
     go_wp2_with fail
     clear c0
     go_loopw [12,13,14] (fun u v i wr=>∃ (nn sm:Int) (i':Nat),u=.int .i64 nn∧v=.int .i64 sm∧i=.int .i64 (i':Int)∧i'≤N∧Hid ((nn=(orN (k:Int) (rkV s L) i').1∧sm=(orN (k:Int) (rkV s L) i').2)∧But No w4 wr)) (fun _ _ i _=>N-(intOf i).toNat)
     case atStart=>exact⟨0,0,0,rfl,rfl,rfl,by omega,⟨rfl,rfl⟩,hb1.out⟩
     case round =>
      clear hb1
      obtain⟨nn,sm,i,rfl,rfl,rfl,hi,HI⟩:=hrel
      have hi0:(0:Int)≤(i:Int):=Int.natCast_nonneg i
      by_cases hiN:i<N
      ·have hiN2:(i:Int)<(N:Int):=by omega
       obtain⟨l,hl⟩:∃ l,L[i]? = some l:=⟨_,List.getElem?_eq_getElem (by rw[HNL.out];exact hiN)⟩
       have hrl:=rkV_at (s:=s) hl
       obtain⟨bl,ol,AL,cL,hB,_,e0,hcL,hpc⟩:=R4.out.at1 hrl
       subst hB
       obtain⟨ml,hml⟩:∃ ml,(rkL s L i l).length=ml:=⟨_,rfl⟩
       have HML:=hid hml
       have hm8:ml≤8:=by rw[←hml];exact HSZ.out.2.1 _ (List.mem_of_getElem? hrl)
       rw[hml] at e0 hcL hpc
       have HE0:=hid e0
       have HPC:=hid hpc
       have HLI:=hid hl
       have HRLI:=hid hrl
       have e1:=cell_keep e0 HI.out.2
       clear e0 hpc hl hrl hml
       go_wp2_with fail
       clear e1
       go_loopw [12,13,15] (fun u v q wr=>∃ (nn sm:Int) (q':Nat),u=.int .i64 nn∧v=.int .i64 sm∧q=.int .i64 (q':Int)∧q'≤ml∧Hid ((nn=(orN (k:Int) (rkV s L) i).1+(orL (k:Int) (rkL s L i l) q').1∧sm=(orN (k:Int) (rkV s L) i).2+(orL (k:Int) (rkL s L i l) q').2)∧But No w4 wr)) (fun _ _ q _=>ml-(intOf q).toNat)
       case atStart=>exact⟨nn,sm,0,rfl,rfl,rfl,by omega,⟨by rw[HI.out.1.1,orL];omega,by rw[HI.out.1.2,orL];omega⟩,HI.out.2⟩
       case round =>
        clear HI
        obtain⟨n3,s3,q,rfl,rfl,rfl,hq,H3I⟩:=hrel
        have hq0:(0:Int)≤(q:Int):=Int.natCast_nonneg q
        have e1:=cell_keep HE0.out H3I.out.2
        by_cases hqm:q<ml
        ·have hqm2:(q:Int)<(ml:Int):=by omega
         obtain⟨x,hx⟩:∃ x,l[q]? = some x:=⟨_,List.getElem?_eq_getElem (by have:=HML.out;unfold rkL at this;rw[List.length_map] at this;omega)⟩
         have hy:(rkL s L i l)[q]? = some (rkP s L i x):=by unfold rkL;rw[List.getElem?_map,hx];rfl
         obtain⟨bp,op,hAL,_,p0,p1,p2,p3,p4⟩:=(HPC.out.no H3I.out.2).at1 hy
         subst hAL
         obtain⟨hb1,hb2⟩:=HBD.out (k:Int) i q _ HRLI.out (by have:=HML.out;omega)
         rw[←H3I.out.1.1] at hb1
         rw[←H3I.out.1.2] at hb2
         have HON:=hid (orL_next (c:=(k:Int)) hy)
         have hpr:=HPR.out i x
         have HNT:Hid (x.ti=true∨s.po≠1→(rkP s L i x).pr=0):=hid (fun h=>or_nought h)
         have HTI:Hid ((rkP s L i x).ti=x.ti):=hid rfl
         have HTWO:Hid (∀ (j:Nat) (lj:List Pc) (t:Nat) (o:Pc),j<i→L[j]? = some lj→lj[t]? = some o→(rkP s L j o).co=(rkP s L i x).co→(rkP s L j o).ti=false→(rkP s L i x).ti=false→decide ((rkP s L j o).pr<(rkP s L i x).pr)=decide ((rkP s L j o).de≤(rkP s L i x).de)):=hid (fun j lj t o h1 h2 h3 h4 h5 h6=>or_two HP.out HPO.out h2 HLI.out h3 hx h5 h6 h4 h1)
         generalize rkP s L i x=y at p0 p1 p2 p3 p4 HON hpr HNT HTI HTWO
         generalize x.ti=xt at HNT HTI
         obtain⟨y0,y1,y2,y3,y4⟩:=y
         dsimp only at p0 p1 p2 p3 p4 HON hpr HNT HTI HTWO
         have hxt:=HTI.out
         subst hxt
         have HBX:Hid (But No wr (wr.alloc (.cells #[.int .i64 y0,.int .i64 y1,.int .i64 y2,.int .i64 y3,.bool y4] 42))):=hid ((But.refl No wr).alloc _)
         have HBP:=hid (Blk.new wr #[.int .i64 y0,.int .i64 y1,.int .i64 y2,.int .i64 y3,.bool y4] 42)
         clear hx hy
         go_upto_region 21 with fail
         obtain⟨bz,hbz⟩:∃ bz,wr.heap.size=bz:=⟨_,rfl⟩
         rw[hbz] at HBP ⊢
         have HO:Hid (But No w4 (wr.alloc (.cells #[.int .i64 y0,.int .i64 y1,.int .i64 y2,.int .i64 y3,.bool y4] 42))):=hid (H3I.out.2.trans HBX.out)
         have HVAL:=hid H3I.out.1
         generalize wr.alloc (.cells #[.int .i64 y0,.int .i64 y1,.int .i64 y2,.int .i64 y3,.bool y4] 42)=V at HO HBP ⊢
         clear HBX H3I hbz p0 p1 p2 p3 p4 e1
         have z0:=HBP.out.cell (o:=0) rfl
         have z3:=HBP.out.cell (o:=3) rfl
         have z4:=HBP.out.cell (o:=4) rfl
         by_cases hyc:y0=(k:Int)
         ·subst hyc
          have f0:((k:Int) != (k:Int))=false:=by simp
          have f0':((k:Int) == (k:Int))=true:=by simp
          obtain⟨c0,c1,c2,c3,c4,c5,c6,c7,c8⟩:=BK.out _ (H4.out.trans HO.out)
          clear c0 c2 c3 c4 c5 c6 c7 c8
          cases y4 with
          | true =>
           have h0:=HNT.out (.inl rfl)
           subst h0
           have HNX:Hid (orL (k:Int) (rkL s L i l) (q+1)=orL (k:Int) (rkL s L i l) q):=hid (by rw[HON.out,if_neg (by simp)])
           go_wp2_with fail
           go_loopw [17] (fun j wx=>j=.int .i64 0∧Hid (But No V wx)) (fun _ _=>0)
           case atStart=>exact⟨rfl,But.refl _ _⟩
           case round =>
            clear z0 z3 z4 c1
            obtain⟨rfl,hb4⟩:=hrel
            have z4:=(HBP.out.but hb4.out (fun f=>f)).cell (o:=4) rfl
            by_cases hi1:0<i
            ·have hi2:(0:Int)<(i:Int):=by omega
             go_wp2_with fail
             refine⟨⟨n3,s3,q+1,rfl,rfl,by go_num,by omega,⟨by rw[HNX.out];exact HVAL.out.1,by rw[HNX.out];exact HVAL.out.2⟩,HO.out.trans hb4.out⟩,?_⟩
             simp[intOf];omega
            ·have hi2:i=0:=by omega
             have hi3:¬(0:Int)<(i:Int):=by omega
             go_wp2_with fail
             refine⟨⟨n3,s3,q+1,rfl,rfl,by go_num,by omega,⟨by rw[HNX.out];exact HVAL.out.1,by rw[HNX.out];exact HVAL.out.2⟩,HO.out.trans hb4.out⟩,?_⟩
             simp[intOf];omega
          | false =>
           have HNX:Hid (orL (k:Int) (rkL s L i l) (q+1)=((orL (k:Int) (rkL s L i l) q).1+1,(orL (k:Int) (rkL s L i l) q).2+y3)):=hid (by rw[HON.out,if_pos ⟨rfl,rfl⟩])
           go_wp2_with fail
           clear z0 z3 z4 c1
           go_loopw [17] (fun j wx=>∃ j':Nat,j=.int .i64 (j':Int)∧j'≤i∧Hid (But No V wx)) (fun j _=>i-(intOf j).toNat)
           case atStart=>exact⟨0,rfl,by omega,But.refl _ _⟩
           case round =>
            obtain⟨j,rfl,hj,hb4⟩:=hrel
            have hj0:(0:Int)≤(j:Int):=Int.natCast_nonneg j
            have z4:=(HBP.out.but hb4.out (fun f=>f)).cell (o:=4) rfl
            by_cases hji:j<i
            ·have hji2:(j:Int)<(i:Int):=by omega
             obtain⟨lj,hlj⟩:∃ lj,L[j]? = some lj:=⟨_,List.getElem?_eq_getElem (by rw[HNL.out];omega)⟩
             obtain⟨bj,oj,AJ,cJ,hBj,_,r0,hcJ,hpj⟩:=R4.out.at1 (rkV_at (s:=s) hlj)
             cases hBj
             obtain⟨mj,hmj⟩:∃ mj,(rkL s L j lj).length=mj:=⟨_,rfl⟩
             have HMJ:=hid hmj
             have hmj8:mj≤8:=by rw[←hmj];exact HSZ.out.2.1 _ (List.mem_of_getElem? (rkV_at (s:=s) hlj))
             rw[hmj] at r0 hcJ hpj
             have HR0:=hid r0
             have HPJ:=hid hpj
             have HLJ:=hid hlj
             have hjN2:(j:Int)<(N:Int):=by omega
             clear r0 hpj hlj hmj
             have r1:=cell_keep HR0.out (HO.out.trans hb4.out)
             go_wp2_with fail
             clear r1 z4
             go_loopw [18] (fun t wx=>∃ t':Nat,t=.int .i64 (t':Int)∧t'≤mj∧Hid (But No V wx)) (fun t _=>mj-(intOf t).toNat)
             case atStart=>exact⟨0,rfl,by omega,hb4.out⟩
             case round =>
              clear hb4
              obtain⟨t,rfl,ht,hb5⟩:=hrel
              have ht0:(0:Int)≤(t:Int):=Int.natCast_nonneg t
              have r1:=cell_keep HR0.out (HO.out.trans hb5.out)
              by_cases htm:t<mj
              ·have htm2:(t:Int)<(mj:Int):=by omega
               obtain⟨o,ho⟩:∃ o,lj[t]? = some o:=⟨_,List.getElem?_eq_getElem (by have:=HMJ.out;unfold rkL at this;rw[List.length_map] at this;omega)⟩
               have hoy:(rkL s L j lj)[t]? = some (rkP s L j o):=by unfold rkL;rw[List.getElem?_map,ho];rfl
               obtain⟨bo,oo,hAJ,_,o0,o1,o2,o3,o4⟩:=(HPJ.out.no (HO.out.trans hb5.out)).at1 hoy
               subst hAJ
               have HT2:=hid (HTWO.out j lj t o hji HLJ.out ho)
               generalize rkP s L j o=ow at o0 o1 o2 o3 o4 HT2
               obtain⟨w0,w1',w2',w3',w4'⟩:=ow
               dsimp only at o0 o1 o2 o3 o4 HT2
               clear ho hoy
               have HBO:Hid (But No wr (wr.alloc (.cells #[.int .i64 w0,.int .i64 w1',.int .i64 w2',.int .i64 w3',.bool w4'] 42))):=hid ((But.refl No wr).alloc _)
               have HBQ:=hid (Blk.new wr #[.int .i64 w0,.int .i64 w1',.int .i64 w2',.int .i64 w3',.bool w4'] 42)
               go_upto_region 34 with fail
               obtain⟨bq,hbq⟩:∃ bq,wr.heap.size=bq:=⟨_,rfl⟩
               rw[hbq] at HBQ ⊢
               have HO5:Hid (But No V (wr.alloc (.cells #[.int .i64 w0,.int .i64 w1',.int .i64 w2',.int .i64 w3',.bool w4'] 42))):=hid (hb5.out.trans HBO.out)
               generalize wr.alloc (.cells #[.int .i64 w0,.int .i64 w1',.int .i64 w2',.int .i64 w3',.bool w4'] 42)=V5 at HO5 HBQ ⊢
               clear HBO hbq o0 o1 o2 o3 o4 r1 hb5
               have o0:=HBQ.out.cell (o:=0) rfl
               have o2:=HBQ.out.cell (o:=2) rfl
               have o3:=HBQ.out.cell (o:=3) rfl
               have o4:=HBQ.out.cell (o:=4) rfl
               have z2:=(HBP.out.but HO5.out (fun f=>f)).cell (o:=2) rfl
               have z3:=(HBP.out.but HO5.out (fun f=>f)).cell (o:=3) rfl
               obtain⟨c0,c1,c2,c3,c4,c5,c6,c7,c8⟩:=BK.out _ (H4.out.trans (HO.out.trans HO5.out))
               clear c0 c2 c3 c4 c5 c6 c7 c8
               by_cases hwc:w0=(k:Int)
               ·subst hwc
                cases w4' with
                | true =>
                 go_wp2_with fail
                 go_roundw
                 case rel=>exact⟨t+1,by go_num,by omega,HO5⟩
                 case measure=>simp[intOf];omega
                | false =>
                 have hbb:=HT2.out (by first | rfl | trivial) (by first | rfl | trivial) (by first | rfl | trivial)
                 obtain⟨bb,hb9⟩:∃ bb,decide (w2'≤y2)=bb:=⟨_,rfl⟩
                 rw[hb9] at hbb
                 have hb8:(bb != bb)=false:=by simp
                 have f9:((k:Int) == (k:Int))=true:=by simp
                 go_wp2_with fail
                 go_roundw
                 case rel=>exact⟨t+1,by go_num,by omega,HO5⟩
                 case measure=>simp[intOf];omega
               ·have g0:(w0 == (k:Int))=false:=by simp[hwc]
                have g0':decide (w0=(k:Int))=false:=decide_eq_false hwc
                clear hwc
                go_wp2_with fail
                go_roundw
                case rel=>exact⟨t+1,by go_num,by omega,HO5⟩
                case measure=>simp[intOf];omega
              ·have hte:t=mj:=by omega
               subst hte
               go_wp2_with fail
               refine⟨⟨j+1,by go_num,by omega,hb5⟩,?_⟩
               simp[intOf];omega
            ·have hje:j=i:=by omega
             subst hje
             go_wp2_with fail
             refine⟨⟨n3+1,s3+y3,q+1,rfl,rfl,by go_num,by omega,⟨by rw[HNX.out,HVAL.out.1];dsimp only;omega,by rw[HNX.out,HVAL.out.2];dsimp only;omega⟩,HO.out.trans hb4.out⟩,?_⟩
             simp[intOf];omega
         ·have f0:(y0 != (k:Int))=true:=by simp[hyc]
          have HNX:Hid (orL (k:Int) (rkL s L i l) (q+1)=orL (k:Int) (rkL s L i l) q):=hid (by rw[HON.out,if_neg (fun h=>hyc h.1)])
          clear hyc
          go_wp2_with fail
          go_roundw
          case rel=>exact⟨n3,s3,q+1,rfl,rfl,by go_num,by omega,⟨by rw[HNX.out];exact HVAL.out.1,by rw[HNX.out];exact HVAL.out.2⟩,HO.out⟩
          case measure=>simp[intOf];omega
        ·have hqe:q=ml:=by omega
         subst hqe
         have HNN:Hid (n3=(orN (k:Int) (rkV s L) (i+1)).1∧s3=(orN (k:Int) (rkV s L) (i+1)).2):=hid (by rw[orN_next HRLI.out,HML.out];exact H3I.out.1)
         go_wp2_with fail
         refine⟨⟨n3,s3,i+1,rfl,rfl,by go_num,by omega,HNN.out,H3I.out.2⟩,?_⟩
         simp[intOf];omega
      ·have hie:i=N:=by omega
       subst hie
       obtain⟨c0,c1,c2,c3,c4,c5,c6,c7,c8⟩:=BK.out _ (H4.out.trans HI.out.2)
       clear c0 c2 c3 c4 c5 c6 c7 c8
       have hbn:=HBN.out (k:Int)
       rw[←HI.out.1.1,←HI.out.1.2] at hbn
       have hsum:=HSUM.out (k:Int)
       rw[←HI.out.1.1,←HI.out.1.2] at hsum
       obtain⟨PP,hPP⟩:∃ PP,nn*(nn+1)=PP:=⟨_,rfl⟩
       have hq:=or_quo hsum hbn.1.1
       rw[hPP] at hq hsum
       have hPb:0≤PP∧PP≤80000:=by omega
       have hs0:(sm != sm)=false:=by simp
       go_wp2_with fail
       refine⟨⟨k+1,by go_num,by omega,HI.out.2⟩,?_⟩
       simp[intOf];omega
    ·have hke:k=co:=by omega
     subst hke
     go_wp2_with fail
     go_ret
     exact⟨rfl,HB0.out.trans (H4.out.trans hb1.out)⟩
  ·have HPO:=hid hpo
   have q1:(s.po == 1)=false:=by simp[hpo]
   have q2:(s.po == 2)=true:=by simp[hpo]
   have q1':decide (s.po=1)=false:=decide_eq_false (by omega)
   have q2':decide (s.po=2)=true:=decide_eq_true hpo
   clear hp hpo
   go_enter Tryz.func6,Tryz.ntmps6
   go_upto_region 2 with(go_at_call 10;(with_reducible refine(CX.out _).mono ?_);rintro e w1 ⟨rfl,h1⟩)
   have H1:=hid h1
   obtain⟨c0,c1,c2,c3,c4,c5,c6,c7,c8⟩:=BK.out _ H1.out
   clear h1
   go_upto_region 3 with(go_at_call 13;(with_reducible refine(CK.out _ (HB0.out.trans H1.out)).mono ?_);rintro e w2 ⟨B1,d1,rfl,h2,r2⟩)
   have H2:=hid (H1.out.trans h2)
   have R2:=hid r2
   clear c0 c1 c2 c3 c4 c5 c6 c7 c8 h2 r2
   obtain⟨c0,c1,c2,c3,c4,c5,c6,c7,c8⟩:=BK.out _ H2.out
   go_upto_region 6 with(go_at_call 13;(with_reducible refine(CK2.out _ _ _ (HB0.out.trans H2.out) R2.out).mono ?_);rintro e w3 ⟨B2,d2,rfl,h3,r3⟩)
   have H3:=hid (H2.out.trans h3)
   have R3:=hid (And.intro (R2.out.no h3) r3)
   clear c0 c1 c2 c3 c4 c5 c6 c7 c8 h3 r3
   go_upto_region 7 with(go_at_call 15;(with_reducible refine(C5.out _ _ _ _ _ R3.out.1 R3.out.2).mono ?_);rintro e w4 ⟨rfl,h4⟩)
   have H4:=hid (H3.out.trans h4)
   have R4:=hid (R3.out.1.no h4)
   clear h4
   obtain⟨c0,c1,c2,c3,c4,c5,c6,c7,c8⟩:=BK.out _ H4.out
   rw[HCO.out] at c0
   clear c1 c2 c3 c4 c5 c6 c7 c8
   go_wp2_with fail
   clear c0
   go_loopw [11] (fun i wr=>∃ k:Nat,i=.int .i64 (k:Int)∧k≤co∧Hid (But No w4 wr)) (fun i _=>co-(intOf i).toNat)
   case atStart=>exact⟨0,rfl,by omega,But.refl _ _⟩
   case round =>
    obtain⟨k,rfl,hk,hb1⟩:=hrel
    have hk0:(0:Int)≤(k:Int):=Int.natCast_nonneg k
    obtain⟨c0,c1,c2,c3,c4,c5,c6,c7,c8⟩:=BK.out _ (H4.out.trans hb1.out)
    rw[HCO.out] at c0
    clear c1 c2 c3 c4 c5 c6 c7 c8
    by_cases hkc:k<co
    ·have hkc2:(k:Int)<(co:Int):=by omega
     go_wp2_with fail
     clear c0
     go_loopw [12,13,14] (fun u v i wr=>∃ (nn sm:Int) (i':Nat),u=.int .i64 nn∧v=.int .i64 sm∧i=.int .i64 (i':Int)∧i'≤N∧Hid ((nn=(orN (k:Int) (rkV s L) i').1∧sm=(orN (k:Int) (rkV s L) i').2)∧But No w4 wr)) (fun _ _ i _=>N-(intOf i).toNat)
     case atStart=>exact⟨0,0,0,rfl,rfl,rfl,by omega,⟨rfl,rfl⟩,hb1.out⟩
     case round =>
      clear hb1
      obtain⟨nn,sm,i,rfl,rfl,rfl,hi,HI⟩:=hrel
      have hi0:(0:Int)≤(i:Int):=Int.natCast_nonneg i
      by_cases hiN:i<N
      ·have hiN2:(i:Int)<(N:Int):=by omega
       obtain⟨l,hl⟩:∃ l,L[i]? = some l:=⟨_,List.getElem?_eq_getElem (by rw[HNL.out];exact hiN)⟩
       have hrl:=rkV_at (s:=s) hl
       obtain⟨bl,ol,AL,cL,hB,_,e0,hcL,hpc⟩:=R4.out.at1 hrl
       subst hB
       obtain⟨ml,hml⟩:∃ ml,(rkL s L i l).length=ml:=⟨_,rfl⟩
       have HML:=hid hml
       have hm8:ml≤8:=by rw[←hml];exact HSZ.out.2.1 _ (List.mem_of_getElem? hrl)
       rw[hml] at e0 hcL hpc
       have HE0:=hid e0
       have HPC:=hid hpc
       have HLI:=hid hl
       have HRLI:=hid hrl
       have e1:=cell_keep e0 HI.out.2
       clear e0 hpc hl hrl hml
       go_wp2_with fail
       clear e1
       go_loopw [12,13,15] (fun u v q wr=>∃ (nn sm:Int) (q':Nat),u=.int .i64 nn∧v=.int .i64 sm∧q=.int .i64 (q':Int)∧q'≤ml∧Hid ((nn=(orN (k:Int) (rkV s L) i).1+(orL (k:Int) (rkL s L i l) q').1∧sm=(orN (k:Int) (rkV s L) i).2+(orL (k:Int) (rkL s L i l) q').2)∧But No w4 wr)) (fun _ _ q _=>ml-(intOf q).toNat)
       case atStart=>exact⟨nn,sm,0,rfl,rfl,rfl,by omega,⟨by rw[HI.out.1.1,orL];omega,by rw[HI.out.1.2,orL];omega⟩,HI.out.2⟩
       case round =>
        clear HI
        obtain⟨n3,s3,q,rfl,rfl,rfl,hq,H3I⟩:=hrel
        have hq0:(0:Int)≤(q:Int):=Int.natCast_nonneg q
        have e1:=cell_keep HE0.out H3I.out.2
        by_cases hqm:q<ml
        ·have hqm2:(q:Int)<(ml:Int):=by omega
         obtain⟨x,hx⟩:∃ x,l[q]? = some x:=⟨_,List.getElem?_eq_getElem (by have:=HML.out;unfold rkL at this;rw[List.length_map] at this;omega)⟩
         have hy:(rkL s L i l)[q]? = some (rkP s L i x):=by unfold rkL;rw[List.getElem?_map,hx];rfl
         obtain⟨bp,op,hAL,_,p0,p1,p2,p3,p4⟩:=(HPC.out.no H3I.out.2).at1 hy
         subst hAL
         obtain⟨hb1,hb2⟩:=HBD.out (k:Int) i q _ HRLI.out (by have:=HML.out;omega)
         rw[←H3I.out.1.1] at hb1
         rw[←H3I.out.1.2] at hb2
         have HON:=hid (orL_next (c:=(k:Int)) hy)
         have hpr:=HPR.out i x
         have HNT:Hid (x.ti=true∨s.po≠1→(rkP s L i x).pr=0):=hid (fun h=>or_nought h)
         have HTI:Hid ((rkP s L i x).ti=x.ti):=hid rfl
         have HTWO:Hid (∀ (j:Nat) (lj:List Pc) (t:Nat) (o:Pc),j<i→L[j]? = some lj→lj[t]? = some o→True∨(rkP s L j o).pr=(rkP s L i x).pr):=hid (fun _ _ _ _ _ _ _=>.inl trivial)
         generalize rkP s L i x=y at p0 p1 p2 p3 p4 HON hpr HNT HTI HTWO
         generalize x.ti=xt at HNT HTI
         obtain⟨y0,y1,y2,y3,y4⟩:=y
         dsimp only at p0 p1 p2 p3 p4 HON hpr HNT HTI HTWO
         have hxt:=HTI.out
         subst hxt
         have HBX:Hid (But No wr (wr.alloc (.cells #[.int .i64 y0,.int .i64 y1,.int .i64 y2,.int .i64 y3,.bool y4] 42))):=hid ((But.refl No wr).alloc _)
         have HBP:=hid (Blk.new wr #[.int .i64 y0,.int .i64 y1,.int .i64 y2,.int .i64 y3,.bool y4] 42)
         clear hx hy
         go_upto_region 21 with fail
         obtain⟨bz,hbz⟩:∃ bz,wr.heap.size=bz:=⟨_,rfl⟩
         rw[hbz] at HBP ⊢
         have HO:Hid (But No w4 (wr.alloc (.cells #[.int .i64 y0,.int .i64 y1,.int .i64 y2,.int .i64 y3,.bool y4] 42))):=hid (H3I.out.2.trans HBX.out)
         have HVAL:=hid H3I.out.1
         generalize wr.alloc (.cells #[.int .i64 y0,.int .i64 y1,.int .i64 y2,.int .i64 y3,.bool y4] 42)=V at HO HBP ⊢
         clear HBX H3I hbz p0 p1 p2 p3 p4 e1
         have z0:=HBP.out.cell (o:=0) rfl
         have z3:=HBP.out.cell (o:=3) rfl
         have z4:=HBP.out.cell (o:=4) rfl
         by_cases hyc:y0=(k:Int)
         ·subst hyc
          have f0:((k:Int) != (k:Int))=false:=by simp
          have f0':((k:Int) == (k:Int))=true:=by simp
          obtain⟨c0,c1,c2,c3,c4,c5,c6,c7,c8⟩:=BK.out _ (H4.out.trans HO.out)
          clear c0 c2 c3 c4 c5 c6 c7 c8
          cases y4 with
          | true =>
           have h0:=HNT.out (.inl rfl)
           subst h0
           have HNX:Hid (orL (k:Int) (rkL s L i l) (q+1)=orL (k:Int) (rkL s L i l) q):=hid (by rw[HON.out,if_neg (by simp)])
           go_wp2_with fail
           go_loopw [17] (fun j wx=>j=.int .i64 0∧Hid (But No V wx)) (fun _ _=>0)
           case atStart=>exact⟨rfl,But.refl _ _⟩
           case round =>
            clear z0 z3 z4 c1
            obtain⟨rfl,hb4⟩:=hrel
            have z4:=(HBP.out.but hb4.out (fun f=>f)).cell (o:=4) rfl
            by_cases hi1:0<i
            ·have hi2:(0:Int)<(i:Int):=by omega
             go_wp2_with fail
             refine⟨⟨n3,s3,q+1,rfl,rfl,by go_num,by omega,⟨by rw[HNX.out];exact HVAL.out.1,by rw[HNX.out];exact HVAL.out.2⟩,HO.out.trans hb4.out⟩,?_⟩
             simp[intOf];omega
            ·have hi2:i=0:=by omega
             have hi3:¬(0:Int)<(i:Int):=by omega
             go_wp2_with fail
             refine⟨⟨n3,s3,q+1,rfl,rfl,by go_num,by omega,⟨by rw[HNX.out];exact HVAL.out.1,by rw[HNX.out];exact HVAL.out.2⟩,HO.out.trans hb4.out⟩,?_⟩
             simp[intOf];omega
          | false =>
           have HNX:Hid (orL (k:Int) (rkL s L i l) (q+1)=((orL (k:Int) (rkL s L i l) q).1+1,(orL (k:Int) (rkL s L i l) q).2+y3)):=hid (by rw[HON.out,if_pos ⟨rfl,rfl⟩])
           have h0:=HNT.out (.inr (by have:=HPO.out;omega))
           subst h0
           go_wp2_with fail
           clear z0 z3 z4 c1
           go_loopw [17] (fun j wx=>∃ j':Nat,j=.int .i64 (j':Int)∧j'≤i∧Hid (But No V wx)) (fun j _=>i-(intOf j).toNat)
           case atStart=>exact⟨0,rfl,by omega,But.refl _ _⟩
           case round =>
            obtain⟨j,rfl,hj,hb4⟩:=hrel
            have hj0:(0:Int)≤(j:Int):=Int.natCast_nonneg j
            have z4:=(HBP.out.but hb4.out (fun f=>f)).cell (o:=4) rfl
            by_cases hji:j<i
            ·have hji2:(j:Int)<(i:Int):=by omega
             obtain⟨lj,hlj⟩:∃ lj,L[j]? = some lj:=⟨_,List.getElem?_eq_getElem (by rw[HNL.out];omega)⟩
             obtain⟨bj,oj,AJ,cJ,hBj,_,r0,hcJ,hpj⟩:=R4.out.at1 (rkV_at (s:=s) hlj)
             cases hBj
             obtain⟨mj,hmj⟩:∃ mj,(rkL s L j lj).length=mj:=⟨_,rfl⟩
             have HMJ:=hid hmj
             have hmj8:mj≤8:=by rw[←hmj];exact HSZ.out.2.1 _ (List.mem_of_getElem? (rkV_at (s:=s) hlj))
             rw[hmj] at r0 hcJ hpj
             have HR0:=hid r0
             have HPJ:=hid hpj
             have HLJ:=hid hlj
             have hjN2:(j:Int)<(N:Int):=by omega
             clear r0 hpj hlj hmj
             have r1:=cell_keep HR0.out (HO.out.trans hb4.out)
             go_wp2_with fail
             clear r1 z4
             go_loopw [18] (fun t wx=>∃ t':Nat,t=.int .i64 (t':Int)∧t'≤mj∧Hid (But No V wx)) (fun t _=>mj-(intOf t).toNat)
             case atStart=>exact⟨0,rfl,by omega,hb4.out⟩
             case round =>
              clear hb4
              obtain⟨t,rfl,ht,hb5⟩:=hrel
              have ht0:(0:Int)≤(t:Int):=Int.natCast_nonneg t
              have r1:=cell_keep HR0.out (HO.out.trans hb5.out)
              by_cases htm:t<mj
              ·have htm2:(t:Int)<(mj:Int):=by omega
               obtain⟨o,ho⟩:∃ o,lj[t]? = some o:=⟨_,List.getElem?_eq_getElem (by have:=HMJ.out;unfold rkL at this;rw[List.length_map] at this;omega)⟩
               have hoy:(rkL s L j lj)[t]? = some (rkP s L j o):=by unfold rkL;rw[List.getElem?_map,ho];rfl
               obtain⟨bo,oo,hAJ,_,o0,o1,o2,o3,o4⟩:=(HPJ.out.no (HO.out.trans hb5.out)).at1 hoy
               subst hAJ
               have HT2:=hid (HTWO.out j lj t o hji HLJ.out ho)
               generalize rkP s L j o=ow at o0 o1 o2 o3 o4 HT2
               obtain⟨w0,w1',w2',w3',w4'⟩:=ow
               dsimp only at o0 o1 o2 o3 o4 HT2
               clear ho hoy
               have HBO:Hid (But No wr (wr.alloc (.cells #[.int .i64 w0,.int .i64 w1',.int .i64 w2',.int .i64 w3',.bool w4'] 42))):=hid ((But.refl No wr).alloc _)
               have HBQ:=hid (Blk.new wr #[.int .i64 w0,.int .i64 w1',.int .i64 w2',.int .i64 w3',.bool w4'] 42)
               go_upto_region 34 with fail
               obtain⟨bq,hbq⟩:∃ bq,wr.heap.size=bq:=⟨_,rfl⟩
               rw[hbq] at HBQ ⊢
               have HO5:Hid (But No V (wr.alloc (.cells #[.int .i64 w0,.int .i64 w1',.int .i64 w2',.int .i64 w3',.bool w4'] 42))):=hid (hb5.out.trans HBO.out)
               generalize wr.alloc (.cells #[.int .i64 w0,.int .i64 w1',.int .i64 w2',.int .i64 w3',.bool w4'] 42)=V5 at HO5 HBQ ⊢
               clear HBO hbq o0 o1 o2 o3 o4 r1 hb5
               have o0:=HBQ.out.cell (o:=0) rfl
               have o2:=HBQ.out.cell (o:=2) rfl
               have o3:=HBQ.out.cell (o:=3) rfl
               have o4:=HBQ.out.cell (o:=4) rfl
               have z2:=(HBP.out.but HO5.out (fun f=>f)).cell (o:=2) rfl
               have z3:=(HBP.out.but HO5.out (fun f=>f)).cell (o:=3) rfl
               obtain⟨c0,c1,c2,c3,c4,c5,c6,c7,c8⟩:=BK.out _ (H4.out.trans (HO.out.trans HO5.out))
               clear c0 c2 c3 c4 c5 c6 c7 c8
               by_cases hwc:w0=(k:Int)
               ·subst hwc
                cases w4' with
                | true =>
                 go_wp2_with fail
                 go_roundw
                 case rel=>exact⟨t+1,by go_num,by omega,HO5⟩
                 case measure=>simp[intOf];omega
                | false =>
                 go_wp2_with fail
                 go_roundw
                 case rel=>exact⟨t+1,by go_num,by omega,HO5⟩
                 case measure=>simp[intOf];omega
               ·have g0:(w0 == (k:Int))=false:=by simp[hwc]
                have g0':decide (w0=(k:Int))=false:=decide_eq_false hwc
                clear hwc
                go_wp2_with fail
                go_roundw
                case rel=>exact⟨t+1,by go_num,by omega,HO5⟩
                case measure=>simp[intOf];omega
              ·have hte:t=mj:=by omega
               subst hte
               go_wp2_with fail
               refine⟨⟨j+1,by go_num,by omega,hb5⟩,?_⟩
               simp[intOf];omega
            ·have hje:j=i:=by omega
             subst hje
             go_wp2_with fail
             refine⟨⟨n3+1,s3,q+1,rfl,rfl,by go_num,by omega,⟨by rw[HNX.out,HVAL.out.1];dsimp only;omega,by rw[HNX.out,HVAL.out.2];dsimp only;omega⟩,HO.out.trans hb4.out⟩,?_⟩
             simp[intOf];omega
         ·have f0:(y0 != (k:Int))=true:=by simp[hyc]
          have HNX:Hid (orL (k:Int) (rkL s L i l) (q+1)=orL (k:Int) (rkL s L i l) q):=hid (by rw[HON.out,if_neg (fun h=>hyc h.1)])
          clear hyc
          go_wp2_with fail
          go_roundw
          case rel=>exact⟨n3,s3,q+1,rfl,rfl,by go_num,by omega,⟨by rw[HNX.out];exact HVAL.out.1,by rw[HNX.out];exact HVAL.out.2⟩,HO.out⟩
          case measure=>simp[intOf];omega
        ·have hqe:q=ml:=by omega
         subst hqe
         have HNN:Hid (n3=(orN (k:Int) (rkV s L) (i+1)).1∧s3=(orN (k:Int) (rkV s L) (i+1)).2):=hid (by rw[orN_next HRLI.out,HML.out];exact H3I.out.1)
         go_wp2_with fail
         refine⟨⟨n3,s3,i+1,rfl,rfl,by go_num,by omega,HNN.out,H3I.out.2⟩,?_⟩
         simp[intOf];omega
      ·have hie:i=N:=by omega
       subst hie
       obtain⟨c0,c1,c2,c3,c4,c5,c6,c7,c8⟩:=BK.out _ (H4.out.trans HI.out.2)
       clear c0 c2 c3 c4 c5 c6 c7 c8
       have hbn:=HBN.out (k:Int)
       rw[←HI.out.1.1,←HI.out.1.2] at hbn
       go_wp2_with fail
       refine⟨⟨k+1,by go_num,by omega,HI.out.2⟩,?_⟩
       simp[intOf];omega
    ·have hke:k=co:=by omega
     subst hke
     go_wp2_with fail
     go_ret
     exact⟨rfl,HB0.out.trans (H4.out.trans hb1.out)⟩
end analysisOrder
end Go.Proofs.YtjfaiaipojfhgaaGreat.pln
end
