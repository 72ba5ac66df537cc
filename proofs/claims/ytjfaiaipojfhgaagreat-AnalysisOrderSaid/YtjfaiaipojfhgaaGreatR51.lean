/- Part 51 of a proof: PlWr. -/
import Derived.Test.YtjfaiaipojfhgaaGreatR03
import Derived.Test.YtjfaiaipojfhgaaGreatR14
import Derived.Test.YtjfaiaipojfhgaaGreatR24
import Derived.Test.YtjfaiaipojfhgaaGreatR46
import Derived.Test.YtjfaiaipojfhgaaGreatR49
section
namespace Go.Proofs.YtjfaiaipojfhgaaGreat.pln
open Go.Lib (hid)
set_option linter.unusedVariables false
set_option linter.unusedSimpArgs false
open Go.ChangeShapes Go.WideShapes Go.ChangeAt Go.RowKit Go.Deep val ter
namespace analysisRanks
theorem rceil_no {s:Sys} {A:Option Addr} {n c:Nat} {A':Option Addr} {N c':Nat} {L:List (List Pc)} {w:World} (hs:RSys w A n c s) (hl:RPl w A' N L) (hr:plR s L=false):Calls Tryz.prog 12 #[sysV s A n c,.slice A' N c'] w fun e w'=>e=.returned (.tuple #[.slice none 0 0,.bool false])∧But No w w':=by
 refine(rceil_any s A n c A' N c' L w hs hl).mono ?_
 rintro e w' (⟨_,h⟩ | ⟨h,_⟩)
 ·exact h
 ·rw[hr] at h;cases h
theorem rceil_ok {s:Sys} {A:Option Addr} {n c:Nat} {A':Option Addr} {N c':Nat} {L:List (List Pc)} {w:World} (hs:RSys w A n c s) (hl:RPl w A' N L) (hr:plR s L=true):Calls Tryz.prog 12 #[sysV s A n c,.slice A' N c'] w fun e w'=>∃ AZ cZ,e=.returned (.tuple #[.slice AZ s.co.toNat cZ,.bool true])∧But No w w'∧RNs w' AZ s.co.toNat (ceV s L):=by
 refine(rceil_any s A n c A' N c' L w hs hl).mono ?_
 rintro e w' (⟨h,_⟩ | ⟨_,v,vs,rfl,h⟩)
 ·rw[hr] at h;cases h
 obtain⟨hcs,hla,hn24,_⟩:=right_nums (plR_parts hr).1
 obtain⟨_,_,hrs⟩:=right_pr (plR_parts hr).1
 obtain⟨AZ,cZ,rfl,hz⟩:=h.ns (by rw[ceVlen];omega) (fun l hl=>by
  unfold ceV at hl
  obtain⟨k,_,rfl⟩:=List.mem_map.1 hl
  rw[ceRlen];omega)
 rw[ceVlen] at hz
 exact⟨AZ,cZ,by rw[ceVlen],h.but,hz⟩
theorem oV_er (s:Sys) (L:List (List Pc)) (i k:Int):(erO (oV s L i k).2=0∧(oV s L i k).2=true)∨(erO (oV s L i k).2=1∧(oV s L i k).2=false):=by
 cases h:(oV s L i k).2
 ·exact .inr ⟨rfl,rfl⟩
 ·exact .inl ⟨rfl,rfl⟩
set_option maxRecDepth 100000 in
set_option maxHeartbeats 8000000 in
theorem walk (s:Sys) (A:Option Addr) (c:Nat) (A':Option Addr) (N c':Nat) (L:List (List Pc)) (_:N≤c') (ti pi:Int) (w:World) (hs:RSys w A s.ts.length c s) (hl:RPl w A' N L) :
  Calls Tryz.prog 3 #[sysV s A s.ts.length c,.slice A' N c',.int .i64 ti,.int .i64 pi] w fun e w'=>e=.returned (.bool true)∧But No w w':=by
 obtain⟨n,hn⟩:∃ n,s.ts.length=n:=⟨_,rfl⟩
 rw[hn] at hs ⊢
 have CX:Hid (∀ W,Calls Tryz.prog 10 #[] W fun e w'=>e=.returned (.bool true)∧But No W w'):=hid (fun W=>examples_ok check_is W)
 have CR:Hid (∀ W,But No w W→Calls Tryz.prog 19 #[sysV s A n c,.slice A' N c'] W fun e w'=>e=.returned (.bool (plR s L))∧But No W w') :=
  hid (fun W hw=>right_is s A _ c A' N c' L W (hs.no hw) (hl.no hw))
 have CQ:Hid (∀ W,But No w W→Calls Tryz.prog 20 #[sysV s A n c,.slice A' N c'] W fun e w'=>e=.returned (.bool (plR s L))∧But No W w') :=
  hid (fun W hw=>rplan_any s A _ c A' N c' L W (hs.no hw) (hl.no hw))
 have CA:Hid (∀ W,But No w W→Calls Tryz.prog 17 #[sysV s A n c,.slice A' N c',.int .i64 ti,.int .i64 pi] W fun e w'=>e=.returned (.tuple #[.int .i64 (oV s L ti pi).1,.int .i64 (erO (oV s L ti pi).2)])∧But No W w') :=
  hid (fun W hw=>own_top s A _ c A' N c' L ti pi W (hs.no hw) (hl.no hw))
 have CB:Hid (∀ W,But No w W→Calls Tryz.prog 18 #[sysV s A n c,.slice A' N c',.int .i64 ti,.int .i64 pi] W fun e w'=>e=.returned (.tuple #[.int .i64 (oV s L ti pi).1,.bool (oV s L ti pi).2])∧But No W w') :=
  hid (fun W hw=>rOwn_any s A _ c A' N c' L ti pi W (hs.no hw) (hl.no hw))
 have HER:=hid (oV_er s L ti pi)
 generalize (oV s L ti pi).1=ox at CA CB
 generalize (oV s L ti pi).2=ob at CA CB HER
 generalize erO ob=oe at CA HER
 have HS:=hid hs
 have HL:=hid hl
 have HNL:=hid hl.len
 have hB0:=(But.refl No w).alloc (.cells (boxS s A n c) 24)
 have hS0:=hid (Blk.new w (boxS s A n c) 24)
 have HB0:=hid hB0
 have BK:Hid (∀ W,But No (w.alloc (.cells (boxS s A n c) 24)) W→S9 W w.heap.size s A n c):=hid (fun W hb=>sys_cells (hS0.out.but hb (fun f=>f)))
 clear hs hl hB0 hS0
 unfold boxS at BK HB0
 have a0:(ox == ox)=true:=by simp
 have a0':decide (ox=ox)=true:=by simp
 cases hp:plR s L with
 | false =>
  have C1:Hid (∀ W,But No w W→Calls Tryz.prog 11 #[sysV s A n c,.slice A' N c'] W fun e w'=>e=.returned (.tuple #[.slice none 0 0,.bool false])∧But No W w'):=hid (fun W hw=>rrank_no (HS.out.no hw) (HL.out.no hw) hp)
  have C2:Hid (∀ W,But No w W→Calls Tryz.prog 12 #[sysV s A n c,.slice A' N c'] W fun e w'=>e=.returned (.tuple #[.slice none 0 0,.bool false])∧But No W w'):=hid (fun W hw=>rceil_no (HS.out.no hw) (HL.out.no hw) hp)
  have C3:Hid (∀ W,But No w W→Calls Tryz.prog 13 #[sysV s A n c,.slice A' N c'] W fun e w'=>e=.returned (.tuple #[.slice none 0 0,.int .i64 1])∧But No W w'):=hid (fun W hw=>rank_no (HS.out.no hw) (HL.out.no hw) hp)
  have C4:Hid (∀ W,But No w W→Calls Tryz.prog 14 #[sysV s A n c,.slice A' N c'] W fun e w'=>e=.returned (.tuple #[.slice none 0 0,.int .i64 1])∧But No W w'):=hid (fun W hw=>ceil_no (HS.out.no hw) (HL.out.no hw) hp)
  have C5:Hid (∀ W,Calls Tryz.prog 15 #[.slice none 0 0,.slice none 0 0] W fun e w'=>e=.returned (.bool true)∧But No W w'):=hid (fun W=>by have:=plans_any none none 0 0 0 0 [] [] W (RPl.nil W) (RPl.nil W);simpa using this)
  rw[hp] at CR CQ
  clear hp hn
  unfold sysV at C1 C2 C3 C4 CR CQ CA CB ⊢
  go_enter Tryz.func3,Tryz.ntmps3
  go_upto_region 2 with(go_at_call 10;(with_reducible refine(CX.out _).mono ?_);rintro e w1 ⟨rfl,h1⟩)
  have H1:=hid h1
  obtain⟨c0,c1,c2,c3,c4,c5,c6,c7,c8⟩:=BK.out _ H1.out
  clear h1
  go_upto_region 3 with(go_at_call 11;(with_reducible refine(C1.out _ (HB0.out.trans H1.out)).mono ?_);rintro e w2 ⟨rfl,h2⟩)
  have H2:=hid (H1.out.trans h2)
  clear c0 c1 c2 c3 c4 c5 c6 c7 c8 h2
  obtain⟨c0,c1,c2,c3,c4,c5,c6,c7,c8⟩:=BK.out _ H2.out
  go_upto_region 4 with(go_at_call 12;(with_reducible refine(C2.out _ (HB0.out.trans H2.out)).mono ?_);rintro e w3 ⟨rfl,h3⟩)
  have H3:=hid (H2.out.trans h3)
  clear c0 c1 c2 c3 c4 c5 c6 c7 c8 h3
  go_wp2_with fail
  go_loopw [14] (fun i wr=>∃ k:Nat,i=.int .i64 (k:Int)∧k≤2∧Hid (But No w3 wr)) (fun i _=>2-(intOf i).toNat)
  case atStart=>exact⟨0,rfl,by omega,But.refl _ _⟩
  case round =>
   obtain⟨k,rfl,hk,hb1⟩:=hrel
   have hk0:(0:Int)≤(k:Int):=Int.natCast_nonneg k
   obtain⟨c0,c1,c2,c3,c4,c5,c6,c7,c8⟩:=BK.out _ (H3.out.trans hb1.out)
   by_cases hk2:k<2
   ·have hk3:(k:Int)<2:=by omega
    go_upto_region 8 with(go_at_call 13;(with_reducible refine(C3.out _ (HB0.out.trans (H3.out.trans hb1.out))).mono ?_);rintro e wa ⟨rfl,h4⟩)
    have HA:=hid (hb1.out.trans h4)
    clear c0 c1 c2 c3 c4 c5 c6 c7 c8 h4
    obtain⟨c0,c1,c2,c3,c4,c5,c6,c7,c8⟩:=BK.out _ (H3.out.trans HA.out)
    go_upto_region 9 with(go_at_call 14;(with_reducible refine(C4.out _ (HB0.out.trans (H3.out.trans HA.out))).mono ?_);rintro e wb ⟨rfl,h5⟩)
    have HB:=hid (HA.out.trans h5)
    clear c0 c1 c2 c3 c4 c5 c6 c7 c8 h5
    go_upto_region 10 with(go_at_call 15;(with_reducible refine(C5.out _).mono ?_);rintro e wc ⟨rfl,h6⟩)
    have HC:=hid (HB.out.trans h6)
    clear h6
    go_wp2_with fail
    go_loopw [20] (fun i wx=>i=.int .i64 0∧Hid (But No w3 wx)) (fun i _=>0)
    case atStart=>exact⟨rfl,HC⟩
    case round =>
     obtain⟨rfl,hb2⟩:=hrel
     go_wp2_with fail
     go_loopw [23] (fun i wx=>i=.int .i64 0∧Hid (But No w3 wx)) (fun i _=>0)
     case atStart=>exact⟨rfl,hb2⟩
     case round =>
      obtain⟨rfl,hb3⟩:=hrel
      go_wp2_with fail
      refine⟨⟨k+1,by go_num,by omega,hb3⟩,?_⟩
      simp[intOf];omega
   ·have hke:k=2:=by omega
    subst hke
    have HR:=hb1
    have HOB:=HER.out
    rcases HOB with⟨g1,g2⟩ | ⟨g1,g2⟩
    ·subst g1;subst g2
     clear HER
     go_upto_region 30 with(go_at_call 17;(with_reducible refine(CA.out _ (HB0.out.trans (H3.out.trans HR.out))).mono ?_);rintro e wA ⟨rfl,h7⟩)
     have HX1:=hid (H3.out.trans (HR.out.trans h7))
     clear c0 c1 c2 c3 c4 c5 c6 c7 c8 h7
     obtain⟨c0,c1,c2,c3,c4,c5,c6,c7,c8⟩:=BK.out _ HX1.out
     go_upto_region 31 with(go_at_call 18;(with_reducible refine(CB.out _ (HB0.out.trans HX1.out)).mono ?_);rintro e wB ⟨rfl,h8⟩)
     have HX2:=hid (HX1.out.trans h8)
     clear c0 c1 c2 c3 c4 c5 c6 c7 c8 h8
     obtain⟨c0,c1,c2,c3,c4,c5,c6,c7,c8⟩:=BK.out _ HX2.out
     have CC9:=hid (calls_but (w:=wB) (fun W' hW'=>CR.out W' (HB0.out.trans (HX2.out.trans hW'))))
     have CC0:=hid (calls_but (w:=wB) (fun W' hW'=>CQ.out W' (HB0.out.trans (HX2.out.trans hW'))))
     have y0:=cell_regrown c0
     have y1:=cell_regrown c1
     have y2:=cell_regrown c2
     have y3:=cell_regrown c3
     have y4:=cell_regrown c4
     have y5:=cell_regrown c5
     have y6:=cell_regrown c6
     have y7:=cell_regrown c7
     have y8:=cell_regrown c8
     clear c0 c1 c2 c3 c4 c5 c6 c7 c8
     refine wp_region_quiet_below (by kernel_rfl) (by kernel_rfl) ?_
     repeat (go_big_quiet_step ((first | (go_at_call 19;exact CC9.out _ _) | (go_at_call 20;exact CC0.out _ _))))
     refine wpQuiet_nil ?_
     intro _ hw'
     obtain⟨⟨dq,osq⟩,hw''⟩:=hw'
     subst hw''
     go_wp2
     go_ret
     exact⟨rfl,HB0.out.trans (HX2.out.trans (regrown_but dq osq))⟩
    ·subst g1;subst g2
     clear HER
     go_upto_region 30 with(go_at_call 17;(with_reducible refine(CA.out _ (HB0.out.trans (H3.out.trans HR.out))).mono ?_);rintro e wA ⟨rfl,h7⟩)
     have HX1:=hid (H3.out.trans (HR.out.trans h7))
     clear c0 c1 c2 c3 c4 c5 c6 c7 c8 h7
     obtain⟨c0,c1,c2,c3,c4,c5,c6,c7,c8⟩:=BK.out _ HX1.out
     go_upto_region 31 with(go_at_call 18;(with_reducible refine(CB.out _ (HB0.out.trans HX1.out)).mono ?_);rintro e wB ⟨rfl,h8⟩)
     have HX2:=hid (HX1.out.trans h8)
     clear c0 c1 c2 c3 c4 c5 c6 c7 c8 h8
     obtain⟨c0,c1,c2,c3,c4,c5,c6,c7,c8⟩:=BK.out _ HX2.out
     have CC9:=hid (calls_but (w:=wB) (fun W' hW'=>CR.out W' (HB0.out.trans (HX2.out.trans hW'))))
     have CC0:=hid (calls_but (w:=wB) (fun W' hW'=>CQ.out W' (HB0.out.trans (HX2.out.trans hW'))))
     have y0:=cell_regrown c0
     have y1:=cell_regrown c1
     have y2:=cell_regrown c2
     have y3:=cell_regrown c3
     have y4:=cell_regrown c4
     have y5:=cell_regrown c5
     have y6:=cell_regrown c6
     have y7:=cell_regrown c7
     have y8:=cell_regrown c8
     clear c0 c1 c2 c3 c4 c5 c6 c7 c8
     refine wp_region_quiet_below (by kernel_rfl) (by kernel_rfl) ?_
     repeat (go_big_quiet_step ((first | (go_at_call 19;exact CC9.out _ _) | (go_at_call 20;exact CC0.out _ _))))
     refine wpQuiet_nil ?_
     intro _ hw'
     obtain⟨⟨dq,osq⟩,hw''⟩:=hw'
     subst hw''
     go_wp2
     go_ret
     exact⟨rfl,HB0.out.trans (HX2.out.trans (regrown_but dq osq))⟩
 | true =>
  have C1:Hid (∀ W,But No w W→Calls Tryz.prog 11 #[sysV s A n c,.slice A' N c'] W fun e w'=>∃ A1 c1,e=.returned (.tuple #[.slice A1 N c1,.bool true])∧But No W w'∧RPl w' A1 N (rkV s L)):=hid (fun W hw=>rrank_ok (HS.out.no hw) (HL.out.no hw) hp)
  have C2:Hid (∀ W,But No w W→Calls Tryz.prog 12 #[sysV s A n c,.slice A' N c'] W fun e w'=>∃ AZ cZ,e=.returned (.tuple #[.slice AZ s.co.toNat cZ,.bool true])∧But No W w'∧RNs w' AZ s.co.toNat (ceV s L)):=hid (fun W hw=>rceil_ok (HS.out.no hw) (HL.out.no hw) hp)
  have C3:Hid (∀ W,But No w W→Calls Tryz.prog 13 #[sysV s A n c,.slice A' N c'] W fun e w'=>∃ g d vs,e=.returned (.tuple #[.slice (some ⟨g,0,none⟩) N d,.int .i64 0])∧RoP W w' (.slice (some ⟨g,0,none⟩) N d) vs (rkV s L)):=hid (fun W hw=>(rank_top s A n c A' N c' L W (HS.out.no hw) (HL.out.no hw)).mono fun e w' h=>by
   rcases h with⟨h,_⟩ | ⟨_,v,vs,rfl,h⟩
   ·rw[hp] at h;cases h
   ·have h1:=(rk_sizes HL.out hp).1
    obtain⟨g,d,rfl,_⟩:=h.head (by rw[h1,←HNL.out,(plR_parts hp).2.1];have:=(right_parts (plR_parts hp).1).1;unfold vWhole at this;simp only[Bool.and_eq_true,wi_true] at this;omega)
    rw[h1] at h ⊢
    exact⟨g,d,vs,rfl,h⟩)
  have C4:Hid (∀ W,But No w W→Calls Tryz.prog 14 #[sysV s A n c,.slice A' N c'] W fun e w'=>∃ g d vs,e=.returned (.tuple #[.slice (some ⟨g,0,none⟩) s.co.toNat d,.int .i64 0])∧RoI W w' (.slice (some ⟨g,0,none⟩) s.co.toNat d) vs (ceV s L)):=hid (fun W hw=>(ceil_top s A n c A' N c' L W (HS.out.no hw) (HL.out.no hw)).mono fun e w' h=>by
   rcases h with⟨h,_⟩ | ⟨_,v,vs,rfl,h⟩
   ·rw[hp] at h;cases h
   ·obtain⟨g,d,rfl,_⟩:=h.head (by rw[ceVlen];have:=(right_nums (plR_parts hp).1).1;omega)
    rw[ceVlen] at h ⊢
    exact⟨g,d,vs,rfl,h⟩)
  have C5:Hid (∀ W B D k q,RPl W B N (rkV s L)→RPl W D N (rkV s L)→Calls Tryz.prog 15 #[.slice B N k,.slice D N q] W fun e w'=>e=.returned (.bool true)∧But No W w'):=hid (fun W B D k q h1 h2=>by have:=plans_any B D N N k q _ _ W h1 h2;rwa [decide_eq_true rfl] at this)
  have C6:Hid (∀ (W:World) (B D:Option Addr) (m k q:Nat) (zs:List Int),Rl W B m zs→Rl W D m zs→Calls Tryz.prog 16 #[.slice B m k,.slice D m q] W fun e w'=>e=.returned (.bool true)∧But No W w'):=hid (fun W B D m k q zs h1 h2=>(numbers_any B D m m k q zs zs W h1 h2).mono fun e w' h=>by rw[decide_eq_true rfl] at h;exact h)
  have HRS8:=hid (rk_sizes HL.out hp)
  obtain⟨hr,hL,hok⟩:=plR_parts hp
  obtain⟨hcs,hla,hn24,_⟩:=right_nums hr
  obtain⟨_,_,hrs⟩:=right_pr hr
  obtain⟨co,hco⟩:∃ co:Nat,s.co=(co:Int):=⟨s.co.toNat,by omega⟩
  obtain⟨rs,hrsn⟩:∃ rs:Nat,s.rs=(rs:Int):=⟨s.rs.toNat,by omega⟩
  have hco2:s.co.toNat=co:=by omega
  have hrs2:s.rs.toNat=rs:=by omega
  have hN24:N≤24:=by have:=HNL.out;omega
  have hco8:co≤8:=by omega
  have hrs8:rs≤8:=by omega
  rw[hco2] at C2 C4
  have HCE:Hid (∀ i,i<co→(ceV s L)[i]? = some (ceR s L i)∧(ceR s L i).length=rs):=hid (fun i hi=>⟨ceVat (by omega),by rw[ceRlen,hrs2]⟩)
  have HCL:Hid ((ceV s L).length=co):=hid (by rw[ceVlen,hco2])
  have x1:((co:Int) != (co:Int))=false:=by simp
  generalize ceV s L=ZZ at C2 C4 HCE HCL
  generalize rkV s L=RR at C1 C3 C5 HRS8
  generalize ceR s L=CC at HCE
  rw[hp] at CR CQ
  clear hp hr hL hok hcs hla hn24 hrs hco hrsn hco2 hrs2 hn HL HS HNL
  unfold sysV at C1 C2 C3 C4 CR CQ CA CB ⊢
  go_enter Tryz.func3,Tryz.ntmps3
  go_upto_region 2 with(go_at_call 10;(with_reducible refine(CX.out _).mono ?_);rintro e w1 ⟨rfl,h1⟩)
  have H1:=hid h1
  obtain⟨c0,c1,c2,c3,c4,c5,c6,c7,c8⟩:=BK.out _ H1.out
  clear h1
  go_upto_region 3 with(go_at_call 11;(with_reducible refine(C1.out _ (HB0.out.trans H1.out)).mono ?_);rintro e w2 ⟨B1,d1,rfl,h2,r2⟩)
  have H2:=hid (H1.out.trans h2)
  have R1:=hid r2
  clear c0 c1 c2 c3 c4 c5 c6 c7 c8 h2 r2
  obtain⟨c0,c1,c2,c3,c4,c5,c6,c7,c8⟩:=BK.out _ H2.out
  go_upto_region 4 with(go_at_call 12;(with_reducible refine(C2.out _ (HB0.out.trans H2.out)).mono ?_);rintro e w3 ⟨AZ,cZ,rfl,h3,r3⟩)
  have H3:=hid (H2.out.trans h3)
  have R2:=hid r3
  have HRB:=hid h3
  clear c0 c1 c2 c3 c4 c5 c6 c7 c8 h3 r3
  go_wp2_with fail
  go_loopw [14] (fun i wr=>∃ k:Nat,i=.int .i64 (k:Int)∧k≤2∧Hid (But No w3 wr)) (fun i _=>2-(intOf i).toNat)
  case atStart=>exact⟨0,rfl,by omega,But.refl _ _⟩
  case round =>
   obtain⟨k,rfl,hk,hb1⟩:=hrel
   have hk0:(0:Int)≤(k:Int):=Int.natCast_nonneg k
   obtain⟨c0,c1,c2,c3,c4,c5,c6,c7,c8⟩:=BK.out _ (H3.out.trans hb1.out)
   by_cases hk2:k<2
   ·have hk3:(k:Int)<2:=by omega
    go_upto_region 8 with(go_at_call 13;(with_reducible refine(C3.out _ (HB0.out.trans (H3.out.trans hb1.out))).mono ?_);rintro e wa ⟨ga,da,va,rfl,h4⟩)
    have HA:=hid (hb1.out.trans h4.but)
    have RA0:=hid h4
    obtain⟨w0,hw0⟩:∃ w0,wr=w0:=⟨_,rfl⟩
    have RA:Hid (RoP w0 wa (.slice (some ⟨ga,0,none⟩) N da) va RR):=hid (by rw[←hw0];exact h4)
    have HW0:Hid (But No w3 w0∧w0.heap.size≤wa.heap.size):=hid (by rw[←hw0];exact⟨hb1.out,h4.but.size⟩)
    clear c0 c1 c2 c3 c4 c5 c6 c7 c8 h4
    obtain⟨c0,c1,c2,c3,c4,c5,c6,c7,c8⟩:=BK.out _ (H3.out.trans HA.out)
    go_upto_region 9 with(go_at_call 14;(with_reducible refine(C4.out _ (HB0.out.trans (H3.out.trans HA.out))).mono ?_);rintro e wb ⟨gb,db,vb,rfl,h5⟩)
    have HB:=hid (HA.out.trans h5.but)
    have RB:=hid h5
    have HPA:Hid (RPl wb (some ⟨ga,0,none⟩) N RR):=hid (by
     obtain⟨A1,c1,e1,h6⟩:=(RA.out.no h5.but).pl (by rw[HRS8.out.1];omega) (fun m hm=>by have:=HRS8.out.2.1 m hm;omega) HRS8.out.2.2
     rw[HRS8.out.1] at e1 h6
     cases e1
     exact h6)
    clear c0 c1 c2 c3 c4 c5 c6 c7 c8 h5
    go_upto_region 10 with(go_at_call 15;(with_reducible refine(C5.out _ _ _ _ _ HPA.out (R1.out.no (HRB.out.trans HB.out))).mono ?_);rintro e wc ⟨rfl,h6⟩)
    have HC:=hid (HB.out.trans h6)
    have HBC:=hid h6
    have HGB:Hid (gb<wb.heap.size):=hid (World.ownsRow.lt RB.out.row gb rfl).2
    have HGA:Hid (ga<wa.heap.size):=hid (World.ownsRow.lt RA.out.row ga rfl).2
    have HSZ:Hid (w3.heap.size≤w0.heap.size∧w0.heap.size≤wa.heap.size∧wa.heap.size≤wb.heap.size∧wb.heap.size≤wc.heap.size):=hid ⟨HW0.out.1.size,HW0.out.2,RB.out.but.size,h6.size⟩
    have HNU:Hid (∀ i z,Ud vb i z→wa.heap.size≤z∧z≠gb):=hid (fun i z hz=>by
     obtain⟨h7,h8⟩:=RB.out.ud hz
     exact⟨h7,fun e=>h8 (by rw[e];rfl)⟩)
    clear h6 hw0 RA0
    go_wp2_with fail
    go_loopw [20] (fun i wx=>∃ i':Nat,i=.int .i64 (i':Int)∧i'≤co∧Hid (But (Ud vb i') wc wx)) (fun i _=>co-(intOf i).toNat)
    case atStart=>exact⟨0,rfl,by omega,But.refl _ _⟩
    case round =>
     obtain⟨i,rfl,hi,hb2⟩:=hrel
     have hi0:(0:Int)≤(i:Int):=Int.natCast_nonneg i
     have HO2:Hid (But No w3 wr):=hid (HC.out.andThen' hb2.out (fun z _ hz=>by have:=(HNU.out i z hz).1;have:=HSZ.out;omega))
     by_cases hic:i<co
     ·have hic2:(i:Int)<(co:Int):=by omega
      obtain⟨hz1,hz2⟩:=HCE.out i hic
      obtain⟨AR,cR,e0,hrl,hud,hlv⟩:=RB.out.row_at HCL.out.symm hz1 (by omega)
      obtain⟨bz,oz,AT,cT,hAZ,_,z0,_,hrt⟩:=R2.out.at1 hz1
      subst hAZ
      rw[hz2] at e0 hrl hud hlv z0 hrt
      have HRT:=hid (hrt.no HO2.out)
      have HRL:Hid (Rl wr AR rs (CC i)):=hid (by
       by_cases h0:0<rs
       ·exact Rl.but (hrl.no HBC.out) hb2.out (fun b off e=>(hud b ⟨off,e⟩ h0).1)
       ·exact⟨hrl.len,hrl.max,fun hn=>absurd hn h0⟩)
      have hgn:¬Ud vb i gb:=fun hz=>(HNU.out i gb hz).2 rfl
      have hgb:=HGB.out
      have E0:Hid (∀ W,But (Ud vb (i+1)) wc W→W.cell? ⟨gb,i,none⟩=some (.slice AR rs cR)):=hid (fun W hW=>by
       have hgn1:¬Ud vb (i+1) gb:=fun hz=>(HNU.out (i+1) gb hz).2 rfl
       have h9:=HSZ.out
       rw[hW.cell (by omega) hgn1]
       exact cell_keep e0 HBC.out)
      have HLV:Hid (∀ z,AR=some ⟨z,0,none⟩→0<rs→Lv wr z rs∧Ud vb (i+1) z):=hid (fun z hz h0=>by
       obtain⟨z',h7,h8⟩:=hlv h0
       rw[h7] at hz
       cases hz
       exact⟨(h8.but HBC.out (fun f=>f)).but hb2.out (hud _ ⟨0,h7⟩ h0).1,(hud _ ⟨0,h7⟩ h0).2⟩)
      have HUP:Hid (But (Ud vb (i+1)) wc wr):=hid (hb2.out.mono (fun z _ hz=>hz.more))
      have HAR:Hid (0<rs→∃ z,AR=some ⟨z,0,none⟩):=hid (fun h0=>by obtain⟨z,h7,_⟩:=hlv h0;exact⟨z,h7⟩)
      have e0':=E0.out wr HUP.out
      have z0':=cell_keep z0 HO2.out
      have HZZ:=hid (And.intro e0' z0')
      clear e0 z0 hrl hud hlv hgn hrt hz1 hz2
      go_upto_region 15 with fail
      have KEEP:Hid (∀ W,But No wr W→(W.cell? ⟨gb,i,none⟩=some (.slice AR rs cR)∧W.cell? ⟨bz,oz+i,none⟩=some (.slice AT rs cT))∧But No wr W):=hid (fun W hb=>⟨⟨cell_keep HZZ.out.1 hb,cell_keep HZZ.out.2 hb⟩,hb⟩)
      clear e0' z0'
      go_region_held3 (fun w'=>(w'.cell? ⟨gb,i,none⟩=some (.slice AR rs cR)∧w'.cell? ⟨bz,oz+i,none⟩=some (.slice AT rs cT))∧But No wr w')
       (first | exact KEEP.out _ (But.refl _ _) | exact KEEP.out _ (But.refl _ _).drew | exact KEEP.out _ HND.out)
       (first | (go_at_call 16;(with_reducible refine(C6.out _ _ _ _ _ _ _ (HRL.out.no (But.refl _ _).drew) (HRT.out.no (But.refl _ _).drew)).mono ?_);rintro e wD ⟨rfl,hbD⟩;have HND:Hid (But No wr wD):=hid ((But.refl _ _).drew.trans hbD);clear hbD))
      have HUW:Hid (But (Ud vb (i+1)) wc wD):=hid (HUP.out.trans HND.out.no)
      have HLW:Hid (∀ z,AR=some ⟨z,0,none⟩→0<rs→Lv wD z rs∧Ud vb (i+1) z):=hid (fun z hz h0=>⟨(HLV.out z hz h0).1.but HND.out (fun f=>f),(HLV.out z hz h0).2⟩)
      have e1:=E0.out wD HUW.out
      clear HZZ KEEP HND HRL HRT HUP HLV HO2
      rename_i hHeld
      clear hHeld
      go_wp2_with fail
      clear e1
      go_loopw [22] (fun q wy=>∃ q':Nat,q=.int .i64 (q':Int)∧q'≤rs∧Hid (But (Ud vb (i+1)) wc wy∧∀ z,AR=some ⟨z,0,none⟩→0<rs→Lv wy z rs∧Ud vb (i+1) z)) (fun q _=>rs-(intOf q).toNat)
      case atStart=>exact⟨0,rfl,by omega,HUW.out,HLW.out⟩
      case round =>
       obtain⟨q,rfl,hq,HI3⟩:=hrel
       have hq0:(0:Int)≤(q:Int):=Int.natCast_nonneg q
       have e1:=E0.out wr HI3.out.1
       by_cases hqr:q<rs
       ·have hq2:(q:Int)<(rs:Int):=by omega
        obtain⟨z,hz⟩:=HAR.out (by omega)
        obtain⟨hlv,hudz⟩:=HI3.out.2 z hz (by omega)
        obtain⟨⟨u0,f0⟩,f1⟩:=hlv.cell hqr
        have HNX:Hid (But (Ud vb (i+1)) wc (wr.setCell ⟨z,q,none⟩ (.int .i64 (-1)))∧∀ z',some (⟨z,0,none⟩:Addr)=some ⟨z',0,none⟩→0<rs→Lv (wr.setCell ⟨z,q,none⟩ (.int .i64 (-1))) z' rs∧Ud vb (i+1) z'):=hid ⟨HI3.out.1.setCell (p:=⟨z,q,none⟩) hudz _,fun z' hz' _=>by cases hz';exact⟨hlv.set _,hudz⟩⟩
        subst hz
        clear hlv hudz
        go_wp2_with fail
        go_roundw
        case rel=>exact⟨q+1,by go_num,by omega,HNX⟩
        case measure=>simp[intOf];omega
       ·have hqe:q=rs:=by omega
        subst hqe
        go_wp2_with fail
        refine⟨⟨i+1,by go_num,by omega,HI3.out.1⟩,?_⟩
        simp[intOf];omega
     ·have hie:i=co:=by omega
      subst hie
      have HPW:Hid (RoP w0 wr (.slice (some ⟨ga,0,none⟩) N da) va RR):=hid ((RA.out.no (RB.out.but.trans HBC.out)).turn hb2.out (fun z hz=>by
       have h7:=(HNU.out i z hz).1
       have h8:=HSZ.out
       have h9:=HGA.out
       exact⟨by omega,fun e=>by have e':some ga=some z:=e;injection e';omega,fun r u hu e=>by have:=RA.out.rows hu e;omega⟩))
      have HGW:Hid (ga<wr.heap.size):=hid (World.ownsRow.lt HPW.out.row ga rfl).2
      have HNV:Hid (∀ i z,Ud va i z→w3.heap.size≤z∧z≠ga):=hid (fun i z hz=>by
       obtain⟨h7,h8⟩:=HPW.out.ud hz
       have h9:=HSZ.out
       exact⟨by omega,fun e=>h8 (by rw[e];rfl)⟩)
      obtain⟨wd,hwd⟩:∃ wd,wr=wd:=⟨_,rfl⟩
      have HWD:=hid hwd
      rw[hwd] at HPW HGW HO2
      clear hwd RA RB HPA HBC HNU HGB hb2 HB HC HA HGA
      go_wp2_with fail
      go_loopw [23] (fun q wx=>∃ i':Nat,q=.int .i64 (i':Int)∧i'≤N∧Hid (But (Ud va i') wd wx)) (fun q _=>N-(intOf q).toNat)
      case atStart=>exact⟨0,rfl,by omega,by rw[HWD.out];exact But.refl _ _⟩
      case round =>
       clear HWD
       obtain⟨j,rfl,hj,hb4⟩:=hrel
       have hj0:(0:Int)≤(j:Int):=Int.natCast_nonneg j
       by_cases hjN:j<N
       ·have hj2:(j:Int)<(N:Int):=by omega
        obtain⟨l,hl⟩:∃ l,RR[j]? = some l:=⟨_,List.getElem?_eq_getElem (by rw[HRS8.out.1];exact hjN)⟩
        have hl8:=HRS8.out.2.1 l (List.mem_of_getElem? hl)
        obtain⟨AR,cR,e0,hud,hlv⟩:=HPW.out.row_at HRS8.out.1.symm hl
        obtain⟨ml,hml⟩:∃ ml,l.length=ml:=⟨_,rfl⟩
        rw[hml] at hl8 e0 hud hlv
        have E0:Hid (∀ W,But (Ud va (j+1)) wd W→W.cell? ⟨ga,j,none⟩=some (.slice AR ml cR)):=hid (fun W hW=>by
         rw[hW.cell HGW.out (fun hz=>(HNV.out (j+1) ga hz).2 rfl)]
         exact e0)
        have HLV:Hid (∀ z,AR=some ⟨z,0,none⟩→0<ml→Lv wr z (ml*5)∧Ud va (j+1) z):=hid (fun z hz h0=>by
         obtain⟨z',h7,h8⟩:=hlv h0
         rw[h7] at hz
         cases hz
         exact⟨h8.but hb4.out (hud _ ⟨0,h7⟩ h0).1,(hud _ ⟨0,h7⟩ h0).2⟩)
        have HUP:Hid (But (Ud va (j+1)) wd wr):=hid (hb4.out.mono (fun z _ hz=>hz.more))
        have HAR:Hid (0<ml→∃ z,AR=some ⟨z,0,none⟩):=hid (fun h0=>by obtain⟨z,h7,_⟩:=hlv h0;exact⟨z,h7⟩)
        have e1:=E0.out wr HUP.out
        clear e0 hud hlv hl hml
        go_wp2_with fail
        clear e1
        go_loopw [24] (fun q wy=>∃ q':Nat,q=.int .i64 (q':Int)∧q'≤ml∧Hid (But (Ud va (j+1)) wd wy∧∀ z,AR=some ⟨z,0,none⟩→0<ml→Lv wy z (ml*5)∧Ud va (j+1) z)) (fun q _=>ml-(intOf q).toNat)
        case atStart=>exact⟨0,rfl,by omega,HUP.out,HLV.out⟩
        case round =>
         clear HUP HLV
         obtain⟨q,rfl,hq,HI5⟩:=hrel
         have hq0:(0:Int)≤(q:Int):=Int.natCast_nonneg q
         have e1:=E0.out wr HI5.out.1
         by_cases hqm:q<ml
         ·have hq2:(q:Int)<(ml:Int):=by omega
          obtain⟨z,hz⟩:=HAR.out (by omega)
          obtain⟨hlv,hudz⟩:=HI5.out.2 z hz (by omega)
          obtain⟨⟨u0,f0⟩,g0⟩:=hlv.cell (o:=q*5) (by omega)
          obtain⟨⟨u1,f1⟩,g1⟩:=hlv.cell (o:=q*5+1) (by omega)
          obtain⟨⟨u2,f2⟩,g2⟩:=hlv.cell (o:=q*5+2) (by omega)
          obtain⟨⟨u3,f3⟩,g3⟩:=hlv.cell (o:=q*5+3) (by omega)
          obtain⟨⟨u4,f4⟩,g4⟩:=hlv.cell (o:=q*5+4) (by omega)
          have HNX:=hid (ro_five (v0:=.int .i64 0) (v1:=.int .i64 0) (v2:=.int .i64 0) (v3:=.int .i64 0) (v4:=.bool false) (o:=q*5) HI5.out.1 hlv hudz)
          have HUZ:=hid hudz
          subst hz
          clear hlv hudz
          go_wp2_with fail
          go_roundw
          case rel=>exact⟨q+1,by go_num,by omega,HNX.out.1,fun z' hz' _=>by cases hz';exact⟨HNX.out.2,HUZ.out⟩⟩
          case measure=>simp[intOf];omega
         ·have hqe:q=ml:=by omega
          subst hqe
          go_wp2_with fail
          refine⟨⟨j+1,by go_num,by omega,HI5.out.1⟩,?_⟩
          simp[intOf];omega
       ·have hje:j=N:=by omega
        subst hje
        have HFI:Hid (But No w3 wr):=hid (HO2.out.andThen' hb4.out (fun z _ hz=>(HNV.out j z hz).1))
        go_wp2_with fail
        refine⟨⟨k+1,by go_num,by omega,HFI⟩,?_⟩
        simp[intOf];omega
   ·have hke:k=2:=by omega
    subst hke
    have HR:=hb1
    have HOB:=HER.out
    rcases HOB with⟨g1,g2⟩ | ⟨g1,g2⟩
    ·subst g1;subst g2
     clear HER
     go_upto_region 30 with(go_at_call 17;(with_reducible refine(CA.out _ (HB0.out.trans (H3.out.trans HR.out))).mono ?_);rintro e wA ⟨rfl,h7⟩)
     have HX1:=hid (H3.out.trans (HR.out.trans h7))
     clear c0 c1 c2 c3 c4 c5 c6 c7 c8 h7
     obtain⟨c0,c1,c2,c3,c4,c5,c6,c7,c8⟩:=BK.out _ HX1.out
     go_upto_region 31 with(go_at_call 18;(with_reducible refine(CB.out _ (HB0.out.trans HX1.out)).mono ?_);rintro e wB ⟨rfl,h8⟩)
     have HX2:=hid (HX1.out.trans h8)
     clear c0 c1 c2 c3 c4 c5 c6 c7 c8 h8
     obtain⟨c0,c1,c2,c3,c4,c5,c6,c7,c8⟩:=BK.out _ HX2.out
     have CC9:=hid (calls_but (w:=wB) (fun W' hW'=>CR.out W' (HB0.out.trans (HX2.out.trans hW'))))
     have CC0:=hid (calls_but (w:=wB) (fun W' hW'=>CQ.out W' (HB0.out.trans (HX2.out.trans hW'))))
     have y0:=cell_regrown c0
     have y1:=cell_regrown c1
     have y2:=cell_regrown c2
     have y3:=cell_regrown c3
     have y4:=cell_regrown c4
     have y5:=cell_regrown c5
     have y6:=cell_regrown c6
     have y7:=cell_regrown c7
     have y8:=cell_regrown c8
     clear c0 c1 c2 c3 c4 c5 c6 c7 c8
     refine wp_region_quiet_below (by kernel_rfl) (by kernel_rfl) ?_
     repeat (go_big_quiet_step ((first | (go_at_call 19;exact CC9.out _ _) | (go_at_call 20;exact CC0.out _ _))))
     refine wpQuiet_nil ?_
     intro _ hw'
     obtain⟨⟨dq,osq⟩,hw''⟩:=hw'
     subst hw''
     go_wp2
     go_ret
     exact⟨rfl,HB0.out.trans (HX2.out.trans (regrown_but dq osq))⟩
    ·subst g1;subst g2
     clear HER
     go_upto_region 30 with(go_at_call 17;(with_reducible refine(CA.out _ (HB0.out.trans (H3.out.trans HR.out))).mono ?_);rintro e wA ⟨rfl,h7⟩)
     have HX1:=hid (H3.out.trans (HR.out.trans h7))
     clear c0 c1 c2 c3 c4 c5 c6 c7 c8 h7
     obtain⟨c0,c1,c2,c3,c4,c5,c6,c7,c8⟩:=BK.out _ HX1.out
     go_upto_region 31 with(go_at_call 18;(with_reducible refine(CB.out _ (HB0.out.trans HX1.out)).mono ?_);rintro e wB ⟨rfl,h8⟩)
     have HX2:=hid (HX1.out.trans h8)
     clear c0 c1 c2 c3 c4 c5 c6 c7 c8 h8
     obtain⟨c0,c1,c2,c3,c4,c5,c6,c7,c8⟩:=BK.out _ HX2.out
     have CC9:=hid (calls_but (w:=wB) (fun W' hW'=>CR.out W' (HB0.out.trans (HX2.out.trans hW'))))
     have CC0:=hid (calls_but (w:=wB) (fun W' hW'=>CQ.out W' (HB0.out.trans (HX2.out.trans hW'))))
     have y0:=cell_regrown c0
     have y1:=cell_regrown c1
     have y2:=cell_regrown c2
     have y3:=cell_regrown c3
     have y4:=cell_regrown c4
     have y5:=cell_regrown c5
     have y6:=cell_regrown c6
     have y7:=cell_regrown c7
     have y8:=cell_regrown c8
     clear c0 c1 c2 c3 c4 c5 c6 c7 c8
     refine wp_region_quiet_below (by kernel_rfl) (by kernel_rfl) ?_
     repeat (go_big_quiet_step ((first | (go_at_call 19;exact CC9.out _ _) | (go_at_call 20;exact CC0.out _ _))))
     refine wpQuiet_nil ?_
     intro _ hw'
     obtain⟨⟨dq,osq⟩,hw''⟩:=hw'
     subst hw''
     go_wp2
     go_ret
     exact⟨rfl,HB0.out.trans (HX2.out.trans (regrown_but dq osq))⟩
end analysisRanks
end Go.Proofs.YtjfaiaipojfhgaaGreat.pln
end
