/- PlaceAlone: the walk, and the walk upon the program's own calls. -/
import Derived.Test.YtlecikdjoekknaaGreatM05
import Derived.Test.YtlecikdjoekknaaGreatM17
import Derived.Test.YtlecikdjoekknaaGreatM37
import Derived.Test.YtlecikdjoekknaaGreatM39
import Derived.Test.YtlecikdjoekknaaGreatM42
import Derived.Test.YtlecikdjoekknaaGreatM43
import Derived.Test.YtlecikdjoekknaaGreatM44
import Derived.Test.YtlecikdjoekknaaGreatM52
section
namespace Go.Proofs.YtlecikdjoekknaaGreat.pln
set_option linter.unusedVariables false
set_option linter.unusedSimpArgs false
open Go.ChangeShapes Go.WideShapes Go.ChangeAt Go.RowKit Go.Deep val ter
theorem plc_any1 (s:Sys):((plcV s).2.2 != 0)=true∨(right s=true∧(plcV s).2.2=0∧(plcV s).1.length=s.ts.length):=by
 rcases plc_ans s with⟨x,hx,h0,_⟩ | ⟨hr,R,_,hx,_,hl,_⟩
 ·left;rw[hx];show (!(x == 0))=true;rw[h0];rfl
 ·right;rw[hx];exact⟨hr,rfl,hl⟩
theorem tk_first {w:World} {A:Option Addr} {n:Nat} {ts:List Tsk} (h:RTsk w A n ts) (hn:1≤n):RTsk w A 1 (ts.take 1):=by
 refine⟨by rw[List.length_take,h.len];omega,by omega,fun _=>?_,fun t ht=>h.fit t (List.mem_of_mem_take ht)⟩
 obtain⟨b,off,e,hl,hc⟩:=h.at_ (by omega)
 refine⟨b,off,e,hl,fun k t ht=>hc k t ?_⟩
 rw[List.getElem?_take] at ht
 split at ht
 ·exact ht
 ·cases ht
namespace placeAlone
set_option maxRecDepth 100000 in
set_option maxHeartbeats 16000000 in
theorem walk (P:PlaceIs) (s:Sys) (A:Option Addr) (c:Nat) (w:World) (hs:RSys w A s.ts.length c s) :
  Calls Tryz.prog 5 #[sysV s A s.ts.length c] w fun e w'=>e=.returned (.bool true)∧But No w w':=by
 have CX:Hid (∀ W,Calls Tryz.prog 10 #[] W fun e w'=>e=.returned (.bool true)∧But No W w'):=Lib.hid (fun W=>examples_ok P W)
 have hB0:=(But.refl No w).alloc (.cells (boxS s A s.ts.length c) 24)
 have HX0:=Lib.hid (Blk.new w (boxS s A s.ts.length c) 24)
 have HB0:=Lib.hid hB0
 clear hB0
 obtain⟨ts1,hts1⟩:∃ ts1,s.ts.take 1=ts1:=⟨_,rfl⟩
 obtain⟨n1,hn1⟩:∃ n1,ts1.length=n1:=⟨_,rfl⟩
 have hn1m:n1=min 1 s.ts.length:=by rw[←hn1,←hts1,List.length_take]
 have RS1:RSys w A n1 c { s with ts:=ts1 }:=by
  rcases Nat.eq_zero_or_pos s.ts.length with h | h
  ·have e:ts1=s.ts:=by rw[←hts1,List.take_of_length_le (by omega)]
   rw[e,show n1=s.ts.length by omega]
   exact hs
  ·refine⟨by have:=hs.cap;omega,?_,hs.fit⟩
   show RTsk w A n1 ts1
   rw[←hts1,show n1=1 by omega]
   exact tk_first hs.ts h
 have CR:Hid (∀ W,But No w W→Calls Tryz.prog 16 #[.agg #[.int .i64 s.co,.int .i64 s.po,.int .i64 s.pr,.int .i64 s.re,.int .i64 s.sw,.int .i64 s.fi,.int .i64 s.la,.int .i64 s.rs,.slice A n1 c]] W fun e w'=>e=.returned (.bool (right { s with ts:=ts1 }))∧But No W w'):=Lib.hid (fun W hb=>right_any { s with ts:=ts1 } A _ c W (RS1.no hb))
 have CP:Hid (∀ W,But No w W→Calls Tryz.prog 14 #[.agg #[.int .i64 s.co,.int .i64 s.po,.int .i64 s.pr,.int .i64 s.re,.int .i64 s.sw,.int .i64 s.fi,.int .i64 s.la,.int .i64 s.rs,.slice A n1 c]] W fun e w'=>∃ A1 N1 c1 B N2 k,e=.returned (.tuple #[.slice A1 N1 c1,.slice B N2 k,.int .i64 (plcV { s with ts:=ts1 }).2.2])∧But No W w'∧RPl w' A1 N1 (plcV { s with ts:=ts1 }).1):=Lib.hid (fun W hb=>(P { s with ts:=ts1 } A _ c W (RS1.no hb)).mono fun e w' ⟨A1,N1,c1,B,k,h1,h2,h3,_⟩=>⟨A1,N1,c1,B,_,k,h1,h2,h3⟩)
 have HTK:Hid (∀ W,But No w W→RTsk W A n1 ts1):=Lib.hid (fun W hb=>(RS1.no hb).ts)
 have HANY:=Lib.hid (plc_any1 { s with ts:=ts1 })
 have HFIT:Hid (right { s with ts:=ts1 }=true→∀ t,ts1 = [t]→∀ m:Int,(∀ x ∈ t.secs,x.2.2≤m)→0≤m→t.w+m+3*s.fi+4*s.sw+3*s.re≤t.d→2*(t.w+m+3*s.fi+4*s.sw+3*s.re)≤t.p→(plcV { s with ts:=ts1 }).2.2=0∧∃ q:Pc,(plcV { s with ts:=ts1 }).1 = [[q]]∧q.co=0∧q.bu=t.w):=Lib.hid (fun h t ht m h1 h2 h3 h4=>by
  rw[plc_alone h ht h1 h2 h3 h4]
  exact⟨rfl,_,rfl,rfl,rfl⟩)
 have HR:Hid (right { s with ts:=ts1 }=true→∃ t,ts1 = [t]∧(0≤s.fi∧s.fi≤50)∧(0≤s.sw∧s.sw≤50)∧(0≤s.re∧s.re≤50)∧(1≤t.p∧t.p≤1099511627776)∧(1≤t.d∧t.d≤1099511627776)∧(1≤t.w∧t.w≤1099511627776)∧∀ x ∈ t.secs,1≤x.2.2∧x.2.2≤1099511627776):=Lib.hid (fun h=>by
  have hl:=(right_len h).2.2.1
  have hl:1≤ts1.length:=hl
  match ts1,hl,hn1,h with
  | [],hl,_,_=>cases hl
  | t :: u :: r,_,e,_=>rw[List.length_cons,List.length_cons] at e;omega
  | [t],_,_,h =>
   obtain⟨_,h1,h2,h3⟩:=al_nums h rfl
   have hw:=(right_parts h).1
   unfold vWhole at hw
   simp only[Bool.and_eq_true,wi_true] at hw
   refine⟨t,rfl,by omega,by omega,by omega,h1,by omega,by omega,fun x hx=>(right_sec h (t:=t) List.mem_cons_self hx).2⟩)
 clear hts1 hn1 RS1 P
 have hnl:s.ts.length≤1∧s.ts.length=n1∨1<s.ts.length∧n1=1:=by omega
 have HAT:Hid (1<s.ts.length→∃ b off,A=some ⟨b,off,none⟩):=Lib.hid (fun h=>by
  obtain⟨b,off,e,_⟩:=hs.ts.at_ (by omega)
  exact⟨b,off,e⟩)
 have hsm:=hs.ts.max
 have hcap:=hs.cap
 generalize hnn:s.ts.length=n at *
 clear hnn hs hn1m
 generalize right { s with ts:=ts1 }=rb at CR HR HFIT HANY
 generalize (plcV { s with ts:=ts1 }).2.2=er at CP HFIT HANY
 generalize (plcV { s with ts:=ts1 }).1=L at CP HFIT HANY
 unfold sysV
 unfold boxS at HX0 HB0
 have hn0:(0:Int)≤(n:Int):=Int.natCast_nonneg n
 go_enter Tryz.func5,Tryz.ntmps5
 go_upto_region 2 with(go_at_call 10;(with_reducible refine(CX.out _).mono ?_);rintro e w1 ⟨rfl,h1⟩)
 have HX1:=Lib.hid (HX0.out.but h1 (fun f=>f))
 have HB1:Hid (But No w w1):=Lib.hid (HB0.out.trans h1)
 clear h1 CX HX0 HB0
 have y8:w1.cell? ⟨w.heap.size,8,none⟩=some (.slice A n c):=HX1.out.cell rfl
 have z8:=HX1.out.frozen 8
 have HPRE:Hid (∀ W,(W=w1∧n=n1∨W=w1.setCell ⟨w.heap.size,8,none⟩ (.slice A n1 c))→But No w W∧Blk W w.heap.size #[.int .i64 s.co,.int .i64 s.po,.int .i64 s.pr,.int .i64 s.re,.int .i64 s.sw,.int .i64 s.fi,.int .i64 s.la,.int .i64 s.rs,.slice A n1 c] 24):=Lib.hid (fun W h=>by
  rcases h with⟨rfl,e⟩ | rfl
  ·rw[←e];exact⟨HB1.out,HX1.out⟩
  ·exact⟨HB1.out.setNew (p:=⟨w.heap.size,8,none⟩) (Nat.le_refl _) _,HX1.out.set 8 _⟩)
 rcases hnl with⟨hnl,hnn⟩ | ⟨hnl,hnn⟩
 ·have k1:¬(1:Int)<(n:Int):=by omega
  have k2:decide ((1:Int)<(n:Int))=false:=by simp;omega
  subst hnn
  go_upto_region 4 with fail
  have HW:=HPRE.out (w1) (.inl ⟨rfl,rfl⟩)
  obtain⟨W1,hW1⟩:∃ W1,w1=W1:=⟨_,rfl⟩
  rw[hW1] at HW ⊢
  have HBW:=Lib.hid HW.1
  have HXW:=Lib.hid HW.2
  clear HW hW1 y8 z8 HPRE HB1 HX1 k1 k2
  have y0:W1.cell? ⟨w.heap.size,0,none⟩=some (.int .i64 s.co):=HXW.out.cell rfl
  have y1:W1.cell? ⟨w.heap.size,1,none⟩=some (.int .i64 s.po):=HXW.out.cell rfl
  have y2:W1.cell? ⟨w.heap.size,2,none⟩=some (.int .i64 s.pr):=HXW.out.cell rfl
  have y3:W1.cell? ⟨w.heap.size,3,none⟩=some (.int .i64 s.re):=HXW.out.cell rfl
  have y4:W1.cell? ⟨w.heap.size,4,none⟩=some (.int .i64 s.sw):=HXW.out.cell rfl
  have y5:W1.cell? ⟨w.heap.size,5,none⟩=some (.int .i64 s.fi):=HXW.out.cell rfl
  have y6:W1.cell? ⟨w.heap.size,6,none⟩=some (.int .i64 s.la):=HXW.out.cell rfl
  have y7:W1.cell? ⟨w.heap.size,7,none⟩=some (.int .i64 s.rs):=HXW.out.cell rfl
  have y8:W1.cell? ⟨w.heap.size,8,none⟩=some (.slice A n c):=HXW.out.cell rfl
  cases rb with
  | false =>
   go_wp2_with (go_at_call 16;(with_reducible refine(CR.out _ HBW.out).mono ?_);rintro e w2 ⟨rfl,h2⟩;have H2:=Lib.hid h2;clear h2)
   go_ret
   exact⟨rfl,HBW.out.trans H2.out⟩
  | true =>
   obtain⟨t,hts1,hfi,hsw,hre,htp,htd,htw,hsec⟩:=HR.out (by first | exact rfl | trivial)
   subst hts1
   go_upto_region 6 with(go_at_call 16;(with_reducible refine(CR.out _ HBW.out).mono ?_);rintro e w2 ⟨rfl,h2⟩)
   have HB2:Hid (But No w w2):=Lib.hid (HBW.out.trans h2)
   have HX2:=Lib.hid (HXW.out.but h2 (fun f=>f))
   have hl1:=(HTK.out w2 HB2.out).len
   rw[List.length_singleton] at hl1
   obtain⟨bt,ot,At,ct,eT,t0,t1,t2,t3,_,hrs⟩:=(HTK.out w2 HB2.out).at1 (k:=0) rfl
   rw[Nat.zero_mul,Nat.add_zero] at t0 t1 t2 t3
   have HS:=Lib.hid hrs
   have hFIT:=HFIT.out (by first | exact rfl | trivial) t rfl
   have HF:=Lib.hid hFIT
   clear y0 y1 y2 y3 y4 y5 y6 y7 y8 h2 HBW HXW hFIT HFIT HR CR HTK
   subst hl1
   have y8:w2.cell? ⟨w.heap.size,8,none⟩=some (.slice A 1 c):=HX2.out.cell rfl
   cases eT
   go_upto_region 9 with fail
   obtain⟨W4,hW4⟩:∃ W4,w2.alloc (.cells #[.int .i64 t.p,.int .i64 t.d,.int .i64 t.w,.slice At t.secs.length ct] 47)=W4:=⟨_,rfl⟩
   obtain⟨bu,hbu⟩:∃ bu,w2.heap.size=bu:=⟨_,rfl⟩
   have HX4:Hid (Blk W4 bu #[.int .i64 t.p,.int .i64 t.d,.int .i64 t.w,.slice At t.secs.length ct] 47):=Lib.hid (by rw[←hW4,←hbu];exact Blk.new w2 _ _)
   have hb4:But No w2 W4:=by rw[←hW4];exact(But.refl No w2).alloc _
   rw[hW4,hbu]
   have HB4:Hid (But No w W4):=Lib.hid (HB2.out.trans hb4)
   have HS4:=Lib.hid (HS.out.no hb4)
   have HX5:=Lib.hid (HX2.out.but hb4 (fun f=>f))
   have hsx:=hrs.max
   clear t0 t1 t2 t3 y8 hW4 hbu hb4 HX2 HS HB2 hrs
   obtain⟨ns,hns⟩:∃ ns,t.secs.length=ns:=⟨_,rfl⟩
   rw[hns] at HX4 HS4 hsx ⊢
   have HNS:=Lib.hid hns
   clear hns
   go_wp2_with fail
   go_loopw [5,6] (fun x y wr=>∃ (m:Int) (k:Nat),x=.int .i64 m∧y=.int .i64 (k:Int)∧k≤ns∧(0≤m∧m≤1099511627776)∧Hid (∀ j z,j<k→t.secs[j]? = some z→z.2.2≤m)∧Hid (But No W4 wr)) (fun _ y _=>ns-(intOf y).toNat)
   case atStart=>exact⟨0,0,rfl,rfl,by omega,by omega,fun j z hj=>absurd hj (by omega),But.refl No _⟩
   case round =>
    obtain⟨m,k,rfl,rfl,hk,hm,HM,HBR⟩:=hrel
    have hk0:(0:Int)≤(k:Int):=Int.natCast_nonneg k
    have HXR:=Lib.hid (HX4.out.but HBR.out (fun f=>f))
    have v3:wr.cell? ⟨bu,3,none⟩=some (.slice At ns ct):=HXR.out.cell rfl
    by_cases hkn:k<ns
    ·have hkn2:(k:Int)<(ns:Int):=by omega
     obtain⟨z,hz⟩:∃ z,t.secs[k]? = some z:=⟨_,List.getElem?_eq_getElem (by rw[HNS.out];exact hkn)⟩
     obtain⟨bc,oc,eS,p0,p1,p2⟩:=(HS4.out.no HBR.out).at1 hz
     subst eS
     have hzb:=hsec z (List.mem_of_getElem? hz)
     have HZ:=Lib.hid hz
     clear hz
     obtain⟨z0,z1,z2⟩:=z
     dsimp only at p0 p1 p2 hzb
     go_wp2_with fail
     go_roundw
     case rel =>
      refine⟨max m z2,k+1,rfl,by first | rfl | go_num,by omega,by omega,fun j z hj he=>?_,HBR.out⟩
      by_cases e:j=k
      ·subst e
       rw[HZ.out] at he
       cases he
       exact Int.le_max_right _ _
      ·have:=HM.out j z (by omega) he
       have h2:=Int.le_max_left m z2
       omega
     case measure=>simp[intOf];omega
    ·have hkn2:¬(k:Int)<(ns:Int):=by omega
     obtain rfl:k=ns:=by omega
     have HBQ:Hid (But No w wr):=Lib.hid (HB4.out.trans HBR.out)
     have hM:∀ x ∈ t.secs,x.2.2≤m:=fun x hx=>by
      obtain⟨j,hj⟩:=List.mem_iff_getElem?.1 hx
      exact HM.out j x (by rw[←HNS.out];exact(List.getElem?_eq_some_iff.1 hj).1) hj
     have hF2:=HF.out m hM hm.1
     obtain⟨al,hal⟩:∃ al,t.w+m+3*s.fi+4*s.sw+3*s.re=al:=⟨_,rfl⟩
     rw[hal] at hF2
     have HF2:=Lib.hid hF2
     have HXS:=Lib.hid (HX5.out.but HBR.out (fun f=>f))
     have v0:wr.cell? ⟨bu,0,none⟩=some (.int .i64 t.p):=HXR.out.cell rfl
     have v1:wr.cell? ⟨bu,1,none⟩=some (.int .i64 t.d):=HXR.out.cell rfl
     have v2:wr.cell? ⟨bu,2,none⟩=some (.int .i64 t.w):=HXR.out.cell rfl
     have y0:wr.cell? ⟨w.heap.size,0,none⟩=some (.int .i64 s.co):=HXS.out.cell rfl
     have y1:wr.cell? ⟨w.heap.size,1,none⟩=some (.int .i64 s.po):=HXS.out.cell rfl
     have y2:wr.cell? ⟨w.heap.size,2,none⟩=some (.int .i64 s.pr):=HXS.out.cell rfl
     have y3:wr.cell? ⟨w.heap.size,3,none⟩=some (.int .i64 s.re):=HXS.out.cell rfl
     have y4:wr.cell? ⟨w.heap.size,4,none⟩=some (.int .i64 s.sw):=HXS.out.cell rfl
     have y5:wr.cell? ⟨w.heap.size,5,none⟩=some (.int .i64 s.fi):=HXS.out.cell rfl
     have y6:wr.cell? ⟨w.heap.size,6,none⟩=some (.int .i64 s.la):=HXS.out.cell rfl
     have y7:wr.cell? ⟨w.heap.size,7,none⟩=some (.int .i64 s.rs):=HXS.out.cell rfl
     have y8:wr.cell? ⟨w.heap.size,8,none⟩=some (.slice (some ⟨bt,ot,none⟩) 1 c):=HXS.out.cell rfl
     have hal0:0≤al∧al≤4398046511104:=by omega
     clear hF2 HM hM HS4 HNS hsec HF
     go_upto_region 15 with fail
     try rw[hal]
     clear hal
     go_upto_region 16 with(go_at_call 14;(with_reducible refine(CP.out _ HBQ.out).mono ?_);rintro e w5 ⟨A1,N1,c1,B,N2,k2,rfl,h5,r5⟩)
     have HB5:Hid (But No w w5):=Lib.hid (HBQ.out.trans h5)
     have HX6:=Lib.hid (HXR.out.but h5 (fun f=>f))
     have R5:=Lib.hid r5
     have hN1:=r5.len
     clear v0 v1 v2 v3 y0 y1 y2 y3 y4 y5 y6 y7 y8 h5 r5 CP HXR HXS HBQ
     have v0:w5.cell? ⟨bu,0,none⟩=some (.int .i64 t.p):=HX6.out.cell rfl
     have v1:w5.cell? ⟨bu,1,none⟩=some (.int .i64 t.d):=HX6.out.cell rfl
     have v2:w5.cell? ⟨bu,2,none⟩=some (.int .i64 t.w):=HX6.out.cell rfl
     have hcs:(al≤t.d∧2*al≤t.p)∨t.d<al∨(¬t.d<al∧t.p<al*2):=by omega
     rcases hcs with⟨g1,g2⟩ | g1 | ⟨g1,g2⟩
     ·obtain⟨he,q,hL,hq0,hq1⟩:=HF2.out g1 g2
      subst he hL
      obtain rfl:N1=1:=by rw[←hN1];rfl
      have g3:¬t.d<al:=by omega
      have g4:¬t.p<al*2:=by omega
      obtain⟨ba,oa,Aa,ca,eA,_,e0,_,ra⟩:=R5.out.at1 (k:=0) rfl
      obtain⟨bc,oc,eC,_,p0,p1,p2,p3,p4⟩:=ra.at1 (k:=0) rfl
      rw[Nat.add_zero] at e0
      rw[Nat.zero_mul,Nat.add_zero] at p0 p1
      rw[hq0] at p0
      rw[hq1] at p1
      rw[List.length_singleton] at e0
      subst eC
      cases eA
      have b1:(t.w == t.w)=true:=by simp
      clear p2 p3 p4 ra HANY HF2 hq0 hq1
      go_upto_region 18 with fail
      go_quiet (fail)
      go_wp2
      go_ret
      exact⟨rfl,by first | exact HB5.out | exact HB5.out.drew | exact HB5.out.drewN _⟩
     ·rcases HANY.out with h9 | ⟨_,h9,h8⟩
      ·clear HANY HF2
       go_wp2_with fail
       go_ret
       exact⟨rfl,HB5.out⟩
      ·subst h9
       obtain rfl:N1=1:=by rw[←hN1,h8];rfl
       clear HANY HF2 h8
       go_wp2_with fail
       go_ret
       exact⟨rfl,HB5.out⟩
     ·rcases HANY.out with h9 | ⟨_,h9,h8⟩
      ·clear HANY HF2
       go_wp2_with fail
       go_ret
       exact⟨rfl,HB5.out⟩
      ·subst h9
       obtain rfl:N1=1:=by rw[←hN1,h8];rfl
       clear HANY HF2 h8
       go_wp2_with fail
       go_ret
       exact⟨rfl,HB5.out⟩
 ·have k1:(1:Int)<(n:Int):=by omega
  have k2:decide ((1:Int)<(n:Int))=true:=by simp;omega
  obtain⟨b,off,rfl⟩:=HAT.out hnl
  subst hnn
  go_upto_region 4 with fail
  have HW:=HPRE.out (w1.setCell ⟨w.heap.size,8,none⟩ (.slice (some ⟨b,off,none⟩) 1 c)) (.inr rfl)
  obtain⟨W1,hW1⟩:∃ W1,w1.setCell ⟨w.heap.size,8,none⟩ (.slice (some ⟨b,off,none⟩) 1 c)=W1:=⟨_,rfl⟩
  rw[hW1] at HW ⊢
  have HBW:=Lib.hid HW.1
  have HXW:=Lib.hid HW.2
  clear HW hW1 y8 z8 HPRE HB1 HX1 k1 k2
  have y0:W1.cell? ⟨w.heap.size,0,none⟩=some (.int .i64 s.co):=HXW.out.cell rfl
  have y1:W1.cell? ⟨w.heap.size,1,none⟩=some (.int .i64 s.po):=HXW.out.cell rfl
  have y2:W1.cell? ⟨w.heap.size,2,none⟩=some (.int .i64 s.pr):=HXW.out.cell rfl
  have y3:W1.cell? ⟨w.heap.size,3,none⟩=some (.int .i64 s.re):=HXW.out.cell rfl
  have y4:W1.cell? ⟨w.heap.size,4,none⟩=some (.int .i64 s.sw):=HXW.out.cell rfl
  have y5:W1.cell? ⟨w.heap.size,5,none⟩=some (.int .i64 s.fi):=HXW.out.cell rfl
  have y6:W1.cell? ⟨w.heap.size,6,none⟩=some (.int .i64 s.la):=HXW.out.cell rfl
  have y7:W1.cell? ⟨w.heap.size,7,none⟩=some (.int .i64 s.rs):=HXW.out.cell rfl
  have y8:W1.cell? ⟨w.heap.size,8,none⟩=some (.slice (some ⟨b,off,none⟩) 1 c):=HXW.out.cell rfl
  cases rb with
  | false =>
   go_wp2_with (go_at_call 16;(with_reducible refine(CR.out _ HBW.out).mono ?_);rintro e w2 ⟨rfl,h2⟩;have H2:=Lib.hid h2;clear h2)
   go_ret
   exact⟨rfl,HBW.out.trans H2.out⟩
  | true =>
   obtain⟨t,hts1,hfi,hsw,hre,htp,htd,htw,hsec⟩:=HR.out (by first | exact rfl | trivial)
   subst hts1
   go_upto_region 6 with(go_at_call 16;(with_reducible refine(CR.out _ HBW.out).mono ?_);rintro e w2 ⟨rfl,h2⟩)
   have HB2:Hid (But No w w2):=Lib.hid (HBW.out.trans h2)
   have HX2:=Lib.hid (HXW.out.but h2 (fun f=>f))
   have hl1:=(HTK.out w2 HB2.out).len
   rw[List.length_singleton] at hl1
   obtain⟨bt,ot,At,ct,eT,t0,t1,t2,t3,_,hrs⟩:=(HTK.out w2 HB2.out).at1 (k:=0) rfl
   rw[Nat.zero_mul,Nat.add_zero] at t0 t1 t2 t3
   have HS:=Lib.hid hrs
   have hFIT:=HFIT.out (by first | exact rfl | trivial) t rfl
   have HF:=Lib.hid hFIT
   clear y0 y1 y2 y3 y4 y5 y6 y7 y8 h2 HBW HXW hFIT HFIT HR CR HTK
   clear hl1
   have y8:w2.cell? ⟨w.heap.size,8,none⟩=some (.slice (some ⟨b,off,none⟩) 1 c):=HX2.out.cell rfl
   cases eT
   go_upto_region 9 with fail
   obtain⟨W4,hW4⟩:∃ W4,w2.alloc (.cells #[.int .i64 t.p,.int .i64 t.d,.int .i64 t.w,.slice At t.secs.length ct] 47)=W4:=⟨_,rfl⟩
   obtain⟨bu,hbu⟩:∃ bu,w2.heap.size=bu:=⟨_,rfl⟩
   have HX4:Hid (Blk W4 bu #[.int .i64 t.p,.int .i64 t.d,.int .i64 t.w,.slice At t.secs.length ct] 47):=Lib.hid (by rw[←hW4,←hbu];exact Blk.new w2 _ _)
   have hb4:But No w2 W4:=by rw[←hW4];exact(But.refl No w2).alloc _
   rw[hW4,hbu]
   have HB4:Hid (But No w W4):=Lib.hid (HB2.out.trans hb4)
   have HS4:=Lib.hid (HS.out.no hb4)
   have HX5:=Lib.hid (HX2.out.but hb4 (fun f=>f))
   have hsx:=hrs.max
   clear t0 t1 t2 t3 y8 hW4 hbu hb4 HX2 HS HB2 hrs
   obtain⟨ns,hns⟩:∃ ns,t.secs.length=ns:=⟨_,rfl⟩
   rw[hns] at HX4 HS4 hsx ⊢
   have HNS:=Lib.hid hns
   clear hns
   go_wp2_with fail
   go_loopw [5,6] (fun x y wr=>∃ (m:Int) (k:Nat),x=.int .i64 m∧y=.int .i64 (k:Int)∧k≤ns∧(0≤m∧m≤1099511627776)∧Hid (∀ j z,j<k→t.secs[j]? = some z→z.2.2≤m)∧Hid (But No W4 wr)) (fun _ y _=>ns-(intOf y).toNat)
   case atStart=>exact⟨0,0,rfl,rfl,by omega,by omega,fun j z hj=>absurd hj (by omega),But.refl No _⟩
   case round =>
    obtain⟨m,k,rfl,rfl,hk,hm,HM,HBR⟩:=hrel
    have hk0:(0:Int)≤(k:Int):=Int.natCast_nonneg k
    have HXR:=Lib.hid (HX4.out.but HBR.out (fun f=>f))
    have v3:wr.cell? ⟨bu,3,none⟩=some (.slice At ns ct):=HXR.out.cell rfl
    by_cases hkn:k<ns
    ·have hkn2:(k:Int)<(ns:Int):=by omega
     obtain⟨z,hz⟩:∃ z,t.secs[k]? = some z:=⟨_,List.getElem?_eq_getElem (by rw[HNS.out];exact hkn)⟩
     obtain⟨bc,oc,eS,p0,p1,p2⟩:=(HS4.out.no HBR.out).at1 hz
     subst eS
     have hzb:=hsec z (List.mem_of_getElem? hz)
     have HZ:=Lib.hid hz
     clear hz
     obtain⟨z0,z1,z2⟩:=z
     dsimp only at p0 p1 p2 hzb
     go_wp2_with fail
     go_roundw
     case rel =>
      refine⟨max m z2,k+1,rfl,by first | rfl | go_num,by omega,by omega,fun j z hj he=>?_,HBR.out⟩
      by_cases e:j=k
      ·subst e
       rw[HZ.out] at he
       cases he
       exact Int.le_max_right _ _
      ·have:=HM.out j z (by omega) he
       have h2:=Int.le_max_left m z2
       omega
     case measure=>simp[intOf];omega
    ·have hkn2:¬(k:Int)<(ns:Int):=by omega
     obtain rfl:k=ns:=by omega
     have HBQ:Hid (But No w wr):=Lib.hid (HB4.out.trans HBR.out)
     have hM:∀ x ∈ t.secs,x.2.2≤m:=fun x hx=>by
      obtain⟨j,hj⟩:=List.mem_iff_getElem?.1 hx
      exact HM.out j x (by rw[←HNS.out];exact(List.getElem?_eq_some_iff.1 hj).1) hj
     have hF2:=HF.out m hM hm.1
     obtain⟨al,hal⟩:∃ al,t.w+m+3*s.fi+4*s.sw+3*s.re=al:=⟨_,rfl⟩
     rw[hal] at hF2
     have HF2:=Lib.hid hF2
     have HXS:=Lib.hid (HX5.out.but HBR.out (fun f=>f))
     have v0:wr.cell? ⟨bu,0,none⟩=some (.int .i64 t.p):=HXR.out.cell rfl
     have v1:wr.cell? ⟨bu,1,none⟩=some (.int .i64 t.d):=HXR.out.cell rfl
     have v2:wr.cell? ⟨bu,2,none⟩=some (.int .i64 t.w):=HXR.out.cell rfl
     have y0:wr.cell? ⟨w.heap.size,0,none⟩=some (.int .i64 s.co):=HXS.out.cell rfl
     have y1:wr.cell? ⟨w.heap.size,1,none⟩=some (.int .i64 s.po):=HXS.out.cell rfl
     have y2:wr.cell? ⟨w.heap.size,2,none⟩=some (.int .i64 s.pr):=HXS.out.cell rfl
     have y3:wr.cell? ⟨w.heap.size,3,none⟩=some (.int .i64 s.re):=HXS.out.cell rfl
     have y4:wr.cell? ⟨w.heap.size,4,none⟩=some (.int .i64 s.sw):=HXS.out.cell rfl
     have y5:wr.cell? ⟨w.heap.size,5,none⟩=some (.int .i64 s.fi):=HXS.out.cell rfl
     have y6:wr.cell? ⟨w.heap.size,6,none⟩=some (.int .i64 s.la):=HXS.out.cell rfl
     have y7:wr.cell? ⟨w.heap.size,7,none⟩=some (.int .i64 s.rs):=HXS.out.cell rfl
     have y8:wr.cell? ⟨w.heap.size,8,none⟩=some (.slice (some ⟨b,off,none⟩) 1 c):=HXS.out.cell rfl
     have hal0:0≤al∧al≤4398046511104:=by omega
     clear hF2 HM hM HS4 HNS hsec HF
     go_upto_region 15 with fail
     try rw[hal]
     clear hal
     go_upto_region 16 with(go_at_call 14;(with_reducible refine(CP.out _ HBQ.out).mono ?_);rintro e w5 ⟨A1,N1,c1,B,N2,k2,rfl,h5,r5⟩)
     have HB5:Hid (But No w w5):=Lib.hid (HBQ.out.trans h5)
     have HX6:=Lib.hid (HXR.out.but h5 (fun f=>f))
     have R5:=Lib.hid r5
     have hN1:=r5.len
     clear v0 v1 v2 v3 y0 y1 y2 y3 y4 y5 y6 y7 y8 h5 r5 CP HXR HXS HBQ
     have v0:w5.cell? ⟨bu,0,none⟩=some (.int .i64 t.p):=HX6.out.cell rfl
     have v1:w5.cell? ⟨bu,1,none⟩=some (.int .i64 t.d):=HX6.out.cell rfl
     have v2:w5.cell? ⟨bu,2,none⟩=some (.int .i64 t.w):=HX6.out.cell rfl
     have hcs:(al≤t.d∧2*al≤t.p)∨t.d<al∨(¬t.d<al∧t.p<al*2):=by omega
     rcases hcs with⟨g1,g2⟩ | g1 | ⟨g1,g2⟩
     ·obtain⟨he,q,hL,hq0,hq1⟩:=HF2.out g1 g2
      subst he hL
      obtain rfl:N1=1:=by rw[←hN1];rfl
      have g3:¬t.d<al:=by omega
      have g4:¬t.p<al*2:=by omega
      obtain⟨ba,oa,Aa,ca,eA,_,e0,_,ra⟩:=R5.out.at1 (k:=0) rfl
      obtain⟨bc,oc,eC,_,p0,p1,p2,p3,p4⟩:=ra.at1 (k:=0) rfl
      rw[Nat.add_zero] at e0
      rw[Nat.zero_mul,Nat.add_zero] at p0 p1
      rw[hq0] at p0
      rw[hq1] at p1
      rw[List.length_singleton] at e0
      subst eC
      cases eA
      have b1:(t.w == t.w)=true:=by simp
      clear p2 p3 p4 ra HANY HF2 hq0 hq1
      go_upto_region 18 with fail
      go_quiet (fail)
      go_wp2
      go_ret
      exact⟨rfl,by first | exact HB5.out | exact HB5.out.drew | exact HB5.out.drewN _⟩
     ·rcases HANY.out with h9 | ⟨_,h9,h8⟩
      ·clear HANY HF2
       go_wp2_with fail
       go_ret
       exact⟨rfl,HB5.out⟩
      ·subst h9
       obtain rfl:N1=1:=by rw[←hN1,h8];rfl
       clear HANY HF2 h8
       go_wp2_with fail
       go_ret
       exact⟨rfl,HB5.out⟩
     ·rcases HANY.out with h9 | ⟨_,h9,h8⟩
      ·clear HANY HF2
       go_wp2_with fail
       go_ret
       exact⟨rfl,HB5.out⟩
      ·subst h9
       obtain rfl:N1=1:=by rw[←hN1,h8];rfl
       clear HANY HF2 h8
       go_wp2_with fail
       go_ret
       exact⟨rfl,HB5.out⟩
end placeAlone
end Go.Proofs.YtlecikdjoekknaaGreat.pln
end
section
namespace Go.Proofs.YtlecikdjoekknaaGreat.placeAlone
open val pln
theorem walk (s:Sys) (A:Option Addr) (c:Nat) (w:World) (hs:RSys w A s.ts.length c s) :
  Calls Tryz.prog 5 #[sysV s A s.ts.length c] w fun e w'=>e=.returned (.bool true)∧But No w w' :=
 pln.placeAlone.walk place_is s A c w hs
end Go.Proofs.YtlecikdjoekknaaGreat.placeAlone
end
