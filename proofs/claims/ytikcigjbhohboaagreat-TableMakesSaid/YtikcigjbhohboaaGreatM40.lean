/- Part 40 of a proof: TbR TbC TbK. -/
import Derived.Laws.Tables
import Derived.Lib.QuietBelow
import Derived.Test.YtikcigjbhohboaaGreatM11
import Derived.Test.YtikcigjbhohboaaGreatM39
section
namespace Go.Proofs.YtikcigjbhohboaaGreat.tbl
open Go.Lib (hid)
open Go.ChangeShapes Go.WideShapes Go.ChangeAt Go.RowKit Go.Deep val ter pln
def enB (s:Sys) (es:List En) (i:Nat):Bool:=endV (es.getD i en0).ps && (decide (1≤(es.getD i en0).bo) && decide ((es.getD i en0).bo≤(s.ts.getD i ts0).d))
def enN (s:Sys) (es:List En):Nat→Bool
 | 0=>true
 | i+1=>enN s es i && enB s es i
theorem enN_bad {s:Sys} {es:List En} {i:Nat} (h:enB s es i=false):∀ m,i<m→enN s es m=false
 | 0,e=>absurd e (by omega)
 | m+1,e=>by
  rw[enN]
  by_cases e2:i=m
  ·rw[←e2,h,Bool.and_false]
  ·rw[enN_bad h m (by omega),Bool.false_and]
def tbR (t:Tb):Bool:=plR t.s (plE t.es) && (decide (plE t.es=rkV t.s (plE t.es)) && (decide (t.ce=ceV t.s (plE t.es)) && enN t.s t.es t.es.length))
theorem getE {es:List En} {i:Nat} {x:En} (h:es[i]? = some x):es.getD i en0=x:=by simp[List.getD,h]
abbrev T11 (W:World) (k:Nat) (s:Sys) (A:Option Addr) (n c:Nat) (E:Option Addr) (m d:Nat) (C:Option Addr) (q f:Nat):Prop :=
  W.cell? ⟨k,0,none⟩=some (.int .i64 s.co)∧W.cell? ⟨k,1,none⟩=some (.int .i64 s.po)∧W.cell? ⟨k,2,none⟩=some (.int .i64 s.pr)∧W.cell? ⟨k,3,none⟩=some (.int .i64 s.re)∧W.cell? ⟨k,4,none⟩=some (.int .i64 s.sw)∧W.cell? ⟨k,5,none⟩=some (.int .i64 s.fi)∧W.cell? ⟨k,6,none⟩=some (.int .i64 s.la)∧W.cell? ⟨k,7,none⟩=some (.int .i64 s.rs)∧W.cell? ⟨k,8,none⟩=some (.slice A n c)∧W.cell? ⟨k,9,none⟩=some (.slice E m d)∧W.cell? ⟨k,10,none⟩=some (.slice C q f)
def boxT11 (s:Sys) (A:Option Addr) (n c:Nat) (E:Option Addr) (m d:Nat) (C:Option Addr) (q f:Nat):Array Value:=#[.int .i64 s.co,.int .i64 s.po,.int .i64 s.pr,.int .i64 s.re,.int .i64 s.sw,.int .i64 s.fi,.int .i64 s.la,.int .i64 s.rs,.slice A n c,.slice E m d,.slice C q f]
theorem tb_cells {W:World} {k:Nat} {s:Sys} {A:Option Addr} {n c:Nat} {E:Option Addr} {m d:Nat} {C:Option Addr} {q f:Nat} {e:TypeId} (h:Blk W k (boxT11 s A n c E m d C q f) e):T11 W k s A n c E m d C q f :=
 ⟨h.cell rfl,h.cell rfl,h.cell rfl,h.cell rfl,h.cell rfl,h.cell rfl,h.cell rfl,h.cell rfl,h.cell rfl,h.cell rfl,h.cell rfl⟩
set_option maxRecDepth 100000 in
set_option maxHeartbeats 8000000 in
theorem right_any (s:Sys) (A:Option Addr) (n c:Nat) (E:Option Addr) (m d:Nat) (C:Option Addr) (q f:Nat) (es:List En) (ce:List (List Int)) (w:World) (hs:RSys w A n c s) (he:REn w E m es) (hc:RNs w C q ce) (hm:m*24≤140737488351232) :
  Calls Tryz.prog 17 #[tbV s A n c E m d C q f] w fun e w'=>e=.returned (.bool (tbR ⟨s,es,ce⟩))∧But No w w':=by
 have hb0:But No w (w.alloc (.cells #[.int .i64 s.co,.int .i64 s.po,.int .i64 s.pr,.int .i64 s.re,.int .i64 s.sw,.int .i64 s.fi,.int .i64 s.la,.int .i64 s.rs,.slice A n c,.slice E m d,.slice C q f] 31)):=(But.refl No w).alloc _
 have HBX:=hid (Blk.new w #[.int .i64 s.co,.int .i64 s.po,.int .i64 s.pr,.int .i64 s.re,.int .i64 s.sw,.int .i64 s.fi,.int .i64 s.la,.int .i64 s.rs,.slice A n c,.slice E m d,.slice C q f] 31)
 have bb:=tb_cells HBX.out
 have CP:=hid (fun W (hb:But No w W)=>planOf_any E m d es W (he.no hb) hm)
 have HM:=hid he.len
 have HB0:=hid hb0
 have HS:=hid hs
 have HE:=hid he
 have HC:=hid hc
 have HT:Hid (plR s (plE es)=false→tbR ⟨s,es,ce⟩=false):=hid (fun h=>by unfold tbR;rw[h];rfl)
 clear hs he hc hm hb0
 dsimp only[tbV]
 obtain⟨B,hB⟩:∃ B,w.heap.size=B:=⟨_,rfl⟩
 rw[hB] at HBX bb
 go_enter Tryz.func17,Tryz.ntmps17
 go_wp2_with (go_at_call 42;refine(CP.out _ HB0.out).mono ?_;rintro e w2 ⟨g,rfl,hb2,hp2⟩;have HB2:=hid (HB0.out.trans hb2);have HX2:=hid (HBX.out.but hb2 (fun f=>f));have HP2:=hid hp2;clear hb2 hp2 bb;have bb:=tb_cells HX2.out)
 by_cases hpl:plR s (plE es)=true
 ·have CR:=hid (rank_ok (c:=c) (c':=m) (HS.out.no HB2.out) HP2.out hpl)
  go_wp2_with (go_at_call 28;refine CR.out.mono ?_;rintro e w3 ⟨A1,c1,rfl,hb3,hp3⟩;have HB3:=hid (HB2.out.trans hb3);have HX3:=hid (HX2.out.but hb3 (fun f=>f));have CE:=hid (eqfP_any (some ⟨g,0,none⟩) A1 m m m c1 (plE es) (rkV s (plE es)) w3 (HP2.out.no hb3) hp3);have HP3:=hid (HP2.out.no hb3);clear hb3 hp3 bb;have bb:=tb_cells HX3.out)
  by_cases hrk:plE es=rkV s (plE es)
  ·rw[decide_eq_true hrk] at CE
   go_wp2_with (go_at_call 43;refine CE.out.mono ?_;rintro e w4 ⟨rfl,hb4⟩;have HB4:=hid (HB3.out.trans hb4);have HX4:=hid (HX3.out.but hb4 (fun f=>f));have CC:=hid (ceil_ok (c:=c) (c':=m) (HS.out.no HB4.out) (HP3.out.no hb4) hpl);clear hb4 bb;have bb:=tb_cells HX4.out)
   go_wp2_with (go_at_call 45;refine CC.out.mono ?_;rintro e w5 ⟨AZ,cZ,rfl,hb5,hz5⟩;have HB5:=hid (HB4.out.trans hb5);have HX5:=hid (HX4.out.but hb5 (fun f=>f));have CF:=hid (eqfI_any C AZ q s.co.toNat f cZ ce (ceV s (plE es)) w5 (HC.out.no HB5.out) hz5);clear hb5 hz5 bb;have bb:=tb_cells HX5.out)
   by_cases hce:ce=ceV s (plE es)
   ·rw[decide_eq_true hce] at CF
    go_wp2_with (go_at_call 46;refine CF.out.mono ?_;rintro e w6 ⟨rfl,hb6⟩;have HB6:=hid (HB5.out.trans hb6);have HX6:=hid (HX5.out.but hb6 (fun f=>f));clear hb6 bb;have bb:=tb_cells HX6.out)
    have HV:Hid (tbR ⟨s,es,ce⟩=enN s es es.length):=hid (by unfold tbR;dsimp only;rw[hpl,decide_eq_true hrk,decide_eq_true hce];simp)
    have HTL:Hid (m=s.ts.length):=hid (by have:=(plR_parts hpl).2.1;rw[plE_len,HM.out] at this;exact this)
    have hmx:=HE.out.max
    clear hpl hrk hce CR CE CC CF
    go_loopw [43] (fun i wr=>∃ k:Nat,k≤m∧i=.int .i64 k∧Hid (enN s es k=true)∧Hid (But No w6 wr)) (fun i _=>m-(intOf i).toNat)
    case atStart=>exact⟨0,by omega,rfl,rfl,But.refl _ _⟩
    case round =>
     obtain⟨k,hk,rfl,hen,hbw⟩:=hrel
     have hk0:(0:Int)≤(k:Int):=Int.natCast_nonneg k
     by_cases hlt:k<m
     ·have kn':(k:Int)<(m:Int):=by omega
      obtain⟨x,hx⟩:∃ x,es[k]? = some x:=⟨_,List.getElem?_eq_getElem (by rw[HM.out];exact hlt)⟩
      obtain⟨t,ht⟩:∃ t,s.ts[k]? = some t:=⟨_,List.getElem?_eq_getElem (by rw[←HTL.out];exact hlt)⟩
      have hB:=HB6.out.trans hbw.out
      obtain⟨b,off,A2,c2,rfl,hb,p0,p1,_,hp⟩:=(HE.out.no hB).at1 hx
      obtain⟨b',off',A',c',rfl,_,t1,_⟩:=(HS.out.no hB).ts.at1 ht
      have kn2:(k:Int)<(n:Int):=by rw[←HS.out.ts.len,←HTL.out];exact kn'
      clear bb
      have bb:=tb_cells (HX6.out.but hbw.out (fun f=>f))
      have HNX:Hid (enN s es (k+1)=(endV x.ps && (decide (1≤x.bo) && decide (x.bo≤t.d)))):=hid (by rw[enN,hen.out];unfold enB;rw[getE hx,getT ht];rfl)
      have HBD:Hid (enN s es (k+1)=false→tbR ⟨s,es,ce⟩=false):=hid (fun e=>by rw[HV.out];rw[enN,hen.out,Bool.true_and] at e;exact enN_bad e _ (by rw[HM.out];exact hlt))
      have HR:=hid hp
      have CD:Hid (∀ nn,Calls Tryz.prog 48 #[.slice A2 x.ps.length c2] ((wr.alloc (.cells #[.slice A2 x.ps.length c2,.int .i64 x.bo] 40)).drewN nn) fun e w'=>e=.returned (.bool (endV x.ps))∧w'=(wr.alloc (.cells #[.slice A2 x.ps.length c2,.int .i64 x.bo] 40)).drewN nn):=hid (fun nn=>ends_any A2 x.ps.length c2 x.ps _ (HR.out.no (((But.refl No wr).alloc _).drewN nn)))
      have k0:(wr.alloc (.cells #[.slice A2 x.ps.length c2,.int .i64 x.bo] 40)).cell? ⟨b',off'+k*4+1,none⟩=some (.int .i64 t.d):=cell_keep t1 ((But.refl No wr).alloc _)
      have kb:=tb_cells ((HX6.out.but hbw.out (fun f=>f)).alloc (.cells #[.slice A2 x.ps.length c2,.int .i64 x.bo] 40))
      clear hp hx ht
      generalize endV x.ps=v at CD HNX
      cases v
      ·go_wp2_with fail
       go_quiet ((go_at_call 48;exact Calls.quiet_of_same (CD.out _)))
       go_wp2
       go_ret
       exact⟨retb (HBD.out (by rw[HNX.out];rfl)).symm,((HB6.out.trans hbw.out).alloc _).drewN _⟩
      ·by_cases h1:x.bo<1
       ·have a1:decide (x.bo<1)=true:=decide_eq_true h1
        have HF:=hid (show (true && (decide (1≤x.bo) && decide (x.bo≤t.d)))=false by rw[decide_eq_false (show ¬1≤x.bo by omega)];rfl)
        clear h1
        go_wp2_with fail
        go_quiet ((go_at_call 48;exact Calls.quiet_of_same (CD.out _)))
        go_wp2
        go_ret
        exact⟨retb (HBD.out (by rw[HNX.out];exact HF.out)).symm,((HB6.out.trans hbw.out).alloc _).drewN _⟩
       ·have a1:decide (x.bo<1)=false:=decide_eq_false h1
        have HF1:=hid (show decide (1≤x.bo)=true by rw[decide_eq_true_eq];omega)
        clear h1
        by_cases h2:t.d<x.bo
        ·have a2:decide (t.d<x.bo)=true:=decide_eq_true h2
         have HF:=hid (show (true && (decide (1≤x.bo) && decide (x.bo≤t.d)))=false by rw[decide_eq_false (show ¬x.bo≤t.d by omega),Bool.and_false];rfl)
         clear h2
         go_wp2_with fail
         go_quiet ((go_at_call 48;exact Calls.quiet_of_same (CD.out _)))
         go_wp2
         go_ret
         exact⟨retb (HBD.out (by rw[HNX.out];exact HF.out)).symm,((HB6.out.trans hbw.out).alloc _).drewN _⟩
        ·have a2:decide (t.d<x.bo)=false:=decide_eq_false h2
         have HF2:=hid (show decide (x.bo≤t.d)=true by rw[decide_eq_true_eq];omega)
         clear h2
         go_wp2_with fail
         go_quiet ((go_at_call 48;exact Calls.quiet_of_same (CD.out _)))
         go_wp2
         go_roundw
         case rel=>exact⟨k+1,by omega,by go_num,hid (by rw[HNX.out,HF1.out,HF2.out];rfl),hid ((hbw.out.alloc _).drewN _)⟩
         case measure=>simp[intOf];omega
     ·have hkm:k=m:=by omega
      subst hkm
      go_wp2
      go_ret
      exact⟨retb (by rw[HV.out,HM.out];exact hen.out.symm),HB6.out.trans hbw.out⟩
   ·have HV:Hid (tbR ⟨s,es,ce⟩=false):=hid (by unfold tbR;dsimp only;rw[decide_eq_false hce];simp)
    rw[decide_eq_false hce] at CF
    go_wp2_with (go_at_call 46;refine CF.out.mono ?_;rintro e w6 ⟨rfl,hb6⟩;have HB6:=hid (HB5.out.trans hb6);clear hb6)
    go_ret
    exact⟨retb HV.out.symm,HB6.out⟩
  ·have HV:Hid (tbR ⟨s,es,ce⟩=false):=hid (by unfold tbR;dsimp only;rw[decide_eq_false hrk];simp)
   rw[decide_eq_false hrk] at CE
   go_wp2_with (go_at_call 43;refine CE.out.mono ?_;rintro e w4 ⟨rfl,hb4⟩;have HB4:=hid (HB3.out.trans hb4);clear hb4)
   go_ret
   exact⟨retb HV.out.symm,HB4.out⟩
 ·have hpf:plR s (plE es)=false:=by simpa using hpl
  have HV:=hid (HT.out hpf)
  have CR:=hid (rank_no (c:=c) (c':=m) (HS.out.no HB2.out) HP2.out hpf)
  go_wp2_with (go_at_call 28;refine CR.out.mono ?_;rintro e w3 ⟨rfl,hb3⟩;have HB3:=hid (HB2.out.trans hb3);clear hb3 bb)
  go_ret
  exact⟨retb HV.out.symm,HB3.out⟩
end Go.Proofs.YtikcigjbhohboaaGreat.tbl
end
section
namespace Go.Proofs.YtikcigjbhohboaaGreat.tbl
open Go.Lib (hid)
open Go.ChangeShapes Go.WideShapes Go.ChangeAt Go.RowKit Go.Deep val ter pln
def mkB (s:Sys) (es:List En):Bool:=tbR ⟨s,es,ceV s (plE es)⟩
theorem RNs.nil (w:World):RNs w none 0 []:=⟨rfl,by omega,fun h=>absurd h (by omega)⟩
theorem ns_of {W:World} {v:Value} {vs:List Value} {Z:List (List Int)} (hr:W.ownsRow 0 26 1 v vs.length vs) (len:vs.length=Z.length) (own:∀ (r:Nat) (u:Value) (l:List Int),vs[r]? = some u→Z[r]? = some l→Ov W u l) (hm:Z.length≤1000) (hl:∀ l ∈ Z,l.length≤1000):∃ A c,v=.slice A Z.length c∧RNs W A Z.length Z:=by
 obtain⟨h1,h2⟩:=hr
 rcases h2 with⟨h2,e⟩ | ⟨g,cap,cur,hv,_,hh,hc,hcap,hs,ht⟩
 ·rw[len] at e
  exact⟨none,0,by rw[e];exact h2,rfl,by omega,fun h9=>absurd h9 (by omega)⟩
 ·rw[len] at hv
  refine⟨_,_,hv,rfl,by omega,fun hn=>⟨g,0,rfl,Blk.lt hh,fun k l hx=>?_⟩⟩
  have hk:k<Z.length:=(List.getElem?_eq_some_iff.1 hx).1
  obtain⟨u,hu⟩:∃ u,vs[k]? = some u:=⟨_,List.getElem?_eq_getElem (by rw[len];exact hk)⟩
  have hl9:=hl l (List.mem_of_getElem? hx)
  have ho:=own k u l hu hx
  obtain⟨A',c',e,hc'⟩:=ho.slice
  rw[e] at hu ho
  refine⟨A',c',?_,hc',(ho.rl (by omega)).1⟩
  rw[Nat.zero_add]
  refine Blk.cell hh ?_
  rw[←ht,List.getElem?_take,if_pos (by rw[len];omega)] at hu
  simpa using hu
theorem ceil_all {s:Sys} {A:Option Addr} {n c:Nat} {A':Option Addr} {N c':Nat} {L:List (List Pc)} {w:World} (hs:RSys w A n c s) (hl:RPl w A' N L):Calls Tryz.prog 45 #[sysV s A n c,.slice A' N c'] w fun e w'=>∃ AZ q cZ er CE,e=.returned (.tuple #[.slice AZ q cZ,.int .i64 er])∧But No w w'∧(∀ W,But (fun k=>k<w.heap.size) w' W→RNs W AZ q CE)∧(plR s L=true→CE=ceV s L):=by
 refine(ceil_top s A n c A' N c' L w hs hl).mono ?_
 rintro e w' (⟨h,rfl,hb⟩ | ⟨hr,v,vs,rfl,h⟩)
 ·exact⟨none,0,0,1, [],rfl,hb,fun _ _=>RNs.nil _,fun e=>by rw[h] at e;cases e⟩
 ·obtain⟨hcs,hla,hn24,_⟩:=right_nums (plR_parts hr).1
  obtain⟨_,_,hrs⟩:=right_pr (plR_parts hr).1
  have key:∀ W,But (fun k=>k<w.heap.size) w' W→∃ A c,v=.slice A (ceV s L).length c∧RNs W A (ceV s L).length (ceV s L):=fun W hb =>
   ns_of (owns_but h.row hb (fun k e f=>by have:=h.new k e;omega)) h.len (fun r u l h1 h2=>(h.own r u l h1 h2).1.but hb (fun k e f=>by have:=(h.own r u l h1 h2).2 k e;omega)) (by rw[ceVlen];omega) (fun l hl=>by
    unfold ceV at hl
    obtain⟨k,_,rfl⟩:=List.mem_map.1 hl
    rw[ceRlen];omega)
  obtain⟨A1,c1,rfl,_⟩:=key w' (But.refl _ _)
  refine⟨A1,_,c1,0,_,rfl,h.but,fun W hb=>?_,fun _=>rfl⟩
  obtain⟨A2,c2,e,h2⟩:=key W hb
  cases e
  exact h2
theorem row_but {w:World} {g:Nat} (cs:Array Value):But (Just g) w (w.setRow g cs):=⟨rfl,rfl,rfl,by rw[size_setRow];exact Nat.le_refl _,fun k _ hk=>setRow_other w g k cs hk⟩
theorem row_blk {w:World} {g:Nat} {old:Array Value} {e:TypeId} (h:Blk w g old e) (cs:Array Value):Blk (w.setRow g cs) g cs e:=setRow_heap w g old cs e (0,0) h
set_option linter.unusedSimpArgs false
set_option maxRecDepth 100000 in
set_option maxHeartbeats 8000000 in
theorem complete_any (s:Sys) (A:Option Addr) (n c:Nat) (E:Option Addr) (m d:Nat) (es:List En) (w:World) (hs:RSys w A n c s) (he:REn w E m es) (hm:m*24≤140737488351232) :
  Calls Tryz.prog 29 #[sysV s A n c,.slice E m d] w fun e w'=>∃ AZ q f CE,e=.returned (.tuple #[tbV s A n c E m d AZ q f,.bool (mkB s es)])∧But No w w'∧(∀ W,But (fun k=>k<w.heap.size) w' W→RNs W AZ q CE)∧(mkB s es=true→CE=ceV s (plE es)):=by
 obtain⟨W1,hW1⟩:∃ W1,(w.alloc (.cells (boxS s A n c) 24)).alloc (.cells #[.int .i64 0,.int .i64 0,.int .i64 0,.int .i64 0,.int .i64 0,.int .i64 0,.int .i64 0,.int .i64 0,.slice none 0 0,.slice none 0 0,.slice none 0 0] 31)=W1:=⟨_,rfl⟩
 have hb1:But No w W1:=by rw[←hW1];exact((But.refl No w).alloc _).alloc _
 have hx1:Blk W1 w.heap.size (boxS s A n c) 24:=by rw[←hW1];exact(Blk.new w _ _).alloc _
 have hr1:Blk W1 (w.heap.size+1) #[.int .i64 0,.int .i64 0,.int .i64 0,.int .i64 0,.int .i64 0,.int .i64 0,.int .i64 0,.int .i64 0,.slice none 0 0,.slice none 0 0,.slice none 0 0] 31:=by rw[←hW1];exact blk2 w _ _ _
 have HB1:=hid hb1
 have HS:=hid hs
 have HE:=hid he
 have CP:=hid (fun W (hb:But No w W)=>planOf_any E m d es W (he.no hb) hm)
 have CC:=hid (fun W (hb:But No w W) g (hp:RPl W (some ⟨g,0,none⟩) m (plE es))=>ceil_all (c:=c) (c':=m) (hs.no hb) hp)
 have KS:=hid (fun W (hb:But No W1 W)=>sys_cells (hx1.but hb (fun f=>f)))
 have HR1:=hid hr1
 have HX1:=hid hx1
 clear hs he
 dsimp only[sysV,boxS] at CC hW1 ⊢
 go_enter Tryz.func29,Tryz.ntmps29
 go_wp2_with fail
 clear hW1 hb1 hx1 hr1
 obtain⟨B,hB⟩:∃ B,w.heap.size=B:=⟨_,rfl⟩
 have HBW:=hid hB
 rw[hB] at KS HR1 HX1 ⊢
 have bb:=KS.out W1 (But.refl _ _)
 go_region_held3 (fun W=>(W.cell? ⟨B,0,none⟩=some (.int .i64 s.co)∧W.cell? ⟨B,1,none⟩=some (.int .i64 s.po)∧W.cell? ⟨B,2,none⟩=some (.int .i64 s.pr)∧W.cell? ⟨B,3,none⟩=some (.int .i64 s.re)∧W.cell? ⟨B,4,none⟩=some (.int .i64 s.sw)∧W.cell? ⟨B,5,none⟩=some (.int .i64 s.fi)∧W.cell? ⟨B,6,none⟩=some (.int .i64 s.la)∧W.cell? ⟨B,7,none⟩=some (.int .i64 s.rs)∧W.cell? ⟨B,8,none⟩=some (.slice A n c)))
  (first | exact KS.out _ (But.refl _ _) | exact KS.out _ (But.refl _ _).drew | exact KS.out _ HB2.out | exact KS.out _ HB3.out)
  (first | (go_at_call 42;(with_reducible refine(CP.out _ HB1.out.drew).mono ?_);rintro e w2 ⟨g,rfl,hb2,hp2⟩;have HB2:Hid (But No W1 w2):=hid ((But.refl No W1).drew.trans hb2);have HP2:=hid hp2;clear hb2 hp2) | (go_at_call 45;(with_reducible refine(CC.out _ (HB1.out.trans HB2.out) _ HP2.out).mono ?_);rintro e w3 ⟨AZ,q,cZ,er,CE,rfl,hb3,hz3,hce⟩;have HB3:=hid (HB2.out.trans hb3);have HZ3:=hid hz3;have HCE:=hid hce;have HSZ:=hid HB2.out.size;clear hb3 hz3 hce))
 rename_i hH
 clear hH bb
 have bb:=KS.out w3 HB3.out
 obtain⟨W4,hW4⟩:∃ W4,w3.alloc (.cells #[.int .i64 s.co,.int .i64 s.po,.int .i64 s.pr,.int .i64 s.re,.int .i64 s.sw,.int .i64 s.fi,.int .i64 s.la,.int .i64 s.rs,.slice A n c,.slice E m d,.slice AZ q cZ] 31)=W4:=⟨_,rfl⟩
 have hb4:But No w3 W4:=by rw[←hW4];exact(But.refl No w3).alloc _
 have HX4:Hid (Blk W4 w3.heap.size #[.int .i64 s.co,.int .i64 s.po,.int .i64 s.pr,.int .i64 s.re,.int .i64 s.sw,.int .i64 s.fi,.int .i64 s.la,.int .i64 s.rs,.slice A n c,.slice E m d,.slice AZ q cZ] 31):=by rw[←hW4];exact Blk.new w3 _ _
 go_wp2_with fail
 have K4:=hid (fun W (hb:But No W4 W)=>tb_cells (HX4.out.but hb (fun f=>f)))
 have tt:=K4.out W4 (But.refl _ _)
 have CR:=hid (fun W (hb:But No W4 W)=>right_any s A n c E m d AZ q cZ es CE W (HS.out.no ((HB1.out.trans (HB3.out.trans hb4)).trans hb)) (HE.out.no ((HB1.out.trans (HB3.out.trans hb4)).trans hb)) (HZ3.out _ (hb4.trans hb).no) hm)
 have HR4:=hid (HR1.out.but (HB3.out.trans hb4) (fun f=>f))
 have HB4:=hid (HB3.out.trans hb4)
 have HB43:=hid hb4
 obtain⟨T,hT⟩:∃ T,w3.heap.size=T:=⟨_,rfl⟩
 rw[hT] at HX4 K4 tt ⊢
 have HNE:Hid (¬Just (B+1) T):=by have:=(HR1.out.but HB3.out (fun f=>f)).lt;intro e;have:T=B+1:=e;omega
 clear hT hW4 hb4 bb
 dsimp only[tbV] at CR
 refine wp_region_noPanic ?_
 refine wp_region_held_drew (S:=fun W=>T11 W T s A n c E m d AZ q cZ) (by kernel_rfl) (K4.out _ (But.refl _ _).drew) (fun hHeld=>?_)
 refine wpAnyH_take (i:=0) (oi:=_) (v:=?v1) rfl (by kernel_rfl) (by kernel_rfl) (by kernel_rfl) (fun _ _ _ h=>h) (Or.inl ⟨by rfl,?hy1⟩) (by assumption) ?rest1
 case hy1=>(intro w hSw;(try dsimp only at hSw);go_simp <;> with_reducible rfl)
 simp only[Act.put,List.setIfInBounds_toArray,List.set_cons_zero,List.set_cons_succ]
 refine wpAnyH_take (i:=1) (oi:=_) (v:=?v2) rfl (by kernel_rfl) (by kernel_rfl) (by kernel_rfl) (fun _ _ _ h=>h) (Or.inl ⟨by rfl,?hy2⟩) (by assumption) ?rest2
 case hy2=>(intro w hSw;(try dsimp only at hSw);go_simp <;> with_reducible rfl)
 simp only[Act.put,List.setIfInBounds_toArray,List.set_cons_zero,List.set_cons_succ]
 refine wpAnyH_ready (rs:=[2]) (by kernel_rfl) (by simp) ?_
 refine AllReadyH.cons rfl (fun K hK=>?_) AllReadyH.nil
 go_simp
 go_at_call 17
 refine(CR.out _ (But.refl No W4).drew).mono ?_
 rintro e w5 ⟨rfl,hb5⟩
 have HB5:Hid (But No W4 w5):=hid ((But.refl No W4).drew.trans hb5)
 have HR5:=hid (HR4.out.but HB5.out (fun f=>f))
 have HX5:=hid (HX4.out.but HB5.out (fun f=>f))
 clear hb5
 refine hK.out _ _ (K4.out _ HB5.out) (fun hHeld=>?_)
 clear hK K
 refine wpAnyH_ready (rs:=[3]) (by kernel_rfl) (by simp) ?_
 refine AllReadyH.cons rfl (fun K hK=>?_) AllReadyH.nil
 rw[if_pos (by rfl)]
 refine wp_store_row 31 _ _ rfl (B+1) _ rfl rfl 31 _ HR5.out (by kernel_rfl) rfl (by simp[Value.oneCell']) ?_
 have HR6:=hid (row_blk HR5.out (boxT11 s A n c E m d AZ q cZ))
 have HB6:=hid (HB5.out.no.trans (row_but (w:=w5) (g:=B+1) (boxT11 s A n c E m d AZ q cZ)))
 refine hK.out _ _ (tb_cells (HX4.out.but HB6.out HNE.out)) (fun hHeld=>?_)
 clear hK K
 simp only[Act.put,List.getElem_toArray,List.getElem_cons_succ,List.getElem_cons_zero,List.setIfInBounds_toArray,List.set_cons_zero,List.set_cons_succ]
 refine wpAnyH_take (i:=4) (oi:=_) (v:=?v5) rfl (by kernel_rfl) (by kernel_rfl) (by kernel_rfl) (fun _ _ _ h=>h) (Or.inl ⟨by rfl,?hy5⟩) (by assumption) ?rest5
 case hy5=>(intro w hSw;(try dsimp only at hSw);go_simp <;> with_reducible rfl)
 simp only[Act.put,List.getElem_toArray,List.getElem_cons_succ,List.getElem_cons_zero,List.setIfInBounds_toArray,List.set_cons_zero,List.set_cons_succ]
 refine wpAnyH_done (by kernel_rfl) ?_ _
 refine NoPanic.normal ?_
 have HZF:Hid (∀ W,But (fun k=>k<w.heap.size) (w5.setRow (B+1) (boxT11 s A n c E m d AZ q cZ)) W→RNs W AZ q CE):=hid (fun W hb=>HZ3.out _ ((HB43.out.trans HB5.out).no.trans (((row_but _).mono (fun k _ e=>by rw[show k=B+1 from e];have:=HR1.out.lt;have:=HSZ.out;omega)).trans (hb.mono (fun k _ e=>by have e':k<w.heap.size:=e;have:=HB1.out.size;have:=HSZ.out;omega)))))
 have rr:=tb_cells HR6.out
 dsimp only[boxT11] at rr
 have HO:Hid (tbR ⟨s,es,CE⟩=mkB s es∧(mkB s es=true→CE=ceV s (plE es))):=hid (by
  unfold mkB
  by_cases h:plR s (plE es)=true
  ·rw[HCE.out h];exact⟨rfl,fun _=>rfl⟩
  ·have h1:∀ ce,tbR ⟨s,es,ce⟩=false:=fun ce=>by unfold tbR;dsimp only;rw[show plR s (plE es)=false by simpa using h];rfl
   rw[h1,h1];exact⟨rfl,fun e=>by cases e⟩)
 have HBF:Hid (But No w (w5.setRow (B+1) (boxT11 s A n c E m d AZ q cZ))):=hid ((HB1.out.trans (HB4.out.trans HB5.out)).andThen (row_but _) (fun k e=>.inr (by rw[show k=B+1 from e,←HBW.out];omega)))
 rw[HO.out.1]
 go_wp2
 exact bodyPost_ret (v:=.tuple #[tbV s A n c E m d AZ q cZ,.bool (mkB s es)]) (by simp[results,Tryz.results29,go_sem,tbV,rr]) rfl ⟨AZ,q,cZ,CE,rfl,HBF.out,HZF.out,HO.out.2⟩
end Go.Proofs.YtikcigjbhohboaaGreat.tbl
end
section
namespace Go.Proofs.YtikcigjbhohboaaGreat.tbl
open Go.Lib (hid)
open Go.ChangeShapes Go.WideShapes Go.ChangeAt Go.RowKit Go.Deep val ter pln
def Rf (w:World) (g:Nat) (e:TypeId) (N:Nat) (f:Nat→Value):Prop:=∃ cur,Blk w g cur e∧∀ j,j<N→cur[j]? = some (f j)
section
variable {w w':World} {g N n c:Nat} {e:TypeId} {f:Nat→Value} {A:Option Addr}
theorem Rf.cell (h:Rf w g e N f) {j:Nat} (hj:j<N):w.cell? ⟨g,j,none⟩=some (f j):=by
 obtain⟨cur,h1,h2⟩:=h;exact h1.cell (h2 j hj)
theorem Rf.frozen (h:Rf w g e N f) (j:Nat):w.frozen? ⟨g,j,none⟩=false:=by
 obtain⟨cur,h1,_⟩:=h;exact h1.frozen j
theorem Rf.lt (h:Rf w g e N f):g<w.heap.size:=by obtain⟨cur,h1,_⟩:=h;exact h1.lt
theorem Rf.but {S:Nat→Prop} (h:Rf w g e N f) (hb:But S w w') (hs:¬S g):Rf w' g e N f:=by
 obtain⟨cur,h1,h2⟩:=h;exact⟨cur,h1.but hb hs,h2⟩
theorem Rf.congr (h:Rf w g e N f) {f':Nat→Value} (hf:∀ j,j<N→f' j=f j):Rf w g e N f':=by
 obtain⟨cur,h1,h2⟩:=h;exact⟨cur,h1,fun j hj=>by rw[hf j hj];exact h2 j hj⟩
theorem Rf.set (h:Rf w g e N f) (i:Nat) (v:Value):Rf (w.setCell ⟨g,i,none⟩ v) g e N (fun j=>if j=i then v else f j):=by
 obtain⟨cur,h1,h2⟩:=h
 refine⟨_,h1.set i v,fun j hj=>?_⟩
 rw[Array.getElem?_setIfInBounds]
 have:=h2 j hj
 by_cases e:j=i
 ·subst e
  rw[if_pos rfl,if_pos (Array.getElem?_eq_some_iff.1 this).1]
  show _=some (if j=j then v else f j);rw[if_pos rfl]
 ·rw[if_neg (fun x=>e x.symm)]
  show _=some (if j=i then v else f j);rw[if_neg e];exact this
theorem Rf.of {m k:Nat} (hn:0<n) (h:w.ownsRow 0 e m (.slice A n c) n ((List.range k).map f)):∃ g,A=some ⟨g,0,none⟩∧n≤c∧Rf w g e k f:=by
 obtain⟨h1,h2⟩:=h
 rcases h2 with⟨h2,e0⟩ | ⟨g,cap,cur,hx,_,hh,hc,_,hs,ht⟩
 ·omega
 ·cases hx
  refine⟨g,rfl,hc,cur,hh,fun j hj=>?_⟩
  have hk:k=n*m:=by rw[←h1];simp
  have:(cur.toList.take (n*m))[j]? = some (f j):=by rw[ht];simp[hj]
  rw[List.getElem?_take,if_pos (by omega)] at this
  simpa using this
end
theorem tsk_cells {w:World} {b off n:Nat} {ts:List Tsk} (hn:ts.length=n) (h:∀ k t,ts[k]? = some t→w.cell? ⟨b,off+k*4,none⟩=some (.int .i64 t.p)∧w.cell? ⟨b,off+k*4+1,none⟩=some (.int .i64 t.d)∧w.cell? ⟨b,off+k*4+2,none⟩=some (.int .i64 t.w)∧∃ A' c',w.cell? ⟨b,off+k*4+3,none⟩=some (.slice A' t.secs.length c')∧t.secs.length≤c'∧RSec w A' t.secs.length t.secs) :
  ∀ j,j<n*4→∃ u,w.cell? ⟨b,off+j,none⟩=some u∧u.oneCell'=true:=by
 intro j hj
 obtain⟨h0,h1,h2,A',c',h3,_⟩:=h (j/4) ts[j/4] (List.getElem?_eq_getElem (by omega))
 have hr:j % 4=0∨j % 4=1∨j % 4=2∨j % 4=3:=by omega
 rcases hr with e | e | e | e
 ·rw[show off+j=off+j/4*4 by omega];exact⟨_,h0,rfl⟩
 ·rw[show off+j=off+j/4*4+1 by omega];exact⟨_,h1,rfl⟩
 ·rw[show off+j=off+j/4*4+2 by omega];exact⟨_,h2,rfl⟩
 ·rw[show off+j=off+j/4*4+3 by omega];exact⟨_,h3,by simp[Value.oneCell']⟩
def clF (w:World) (b off:Nat) (j:Nat):Value:=(w.cell? ⟨b,off+j,none⟩).getD (.bool false)
theorem cl_reads {w:World} {b off n m:Nat} (hb:b<w.heap.size) (h:∀ j,j<n*m→∃ u,w.cell? ⟨b,off+j,none⟩=some u∧u.oneCell'=true):Reads w w.heap.size m (some ⟨b,off,none⟩) n ((List.range (n*m)).map (clF w b off))∧∀ u ∈ (List.range (n*m)).map (clF w b off),u.oneCell'=true:=by
 have key:∀ j,j<n*m→w.cell? ⟨b,off+j,none⟩=some (clF w b off j)∧(clF w b off j).oneCell'=true:=fun j hj=>by
  obtain⟨u,h1,h2⟩:=h j hj
  have e:clF w b off j=u:=by unfold clF;rw[h1];rfl
  rw[e];exact⟨h1,h2⟩
 refine⟨⟨by simp,fun _=>⟨⟨b,off,none⟩,rfl,hb,fun j u hu=>?_⟩⟩,fun u hu=>?_⟩
 ·rw[List.getElem?_map] at hu
  have hj:j<n*m:=by
   by_cases hj:j<n*m
   ·exact hj
   ·rw[List.getElem?_eq_none (by simp;omega)] at hu;cases hu
  have hu2:clF w b off j=u:=by simpa [hj] using hu
  rw[add_plain,←hu2];exact(key j hj).1
 ·obtain⟨j,hj,rfl⟩:=List.mem_map.1 hu
  exact(key j (List.mem_range.1 hj)).2
theorem infoTk : (Tryz.prog.info? 97).map (fun i=>(i.zero,i.size,i.bytes))=some (some (.agg #[.int .i64 0,.int .i64 0,.int .i64 0,.slice none 0 0]),4,48):=by kernel_rfl
theorem infoSc : (Tryz.prog.info? 120).map (fun i=>(i.zero,i.size,i.bytes))=some (some (.agg #[.int .i64 0,.int .i64 0,.int .i64 0]),3,24):=by kernel_rfl
theorem rsec_but {w w':World} {A:Option Addr} {n:Nat} {l:List (Int × Int × Int)} {S:Nat→Prop} (h:RSec w A n l) (hb:But S w w') (hs:0<n→∀ b off,A=some ⟨b,off,none⟩→¬S b):RSec w' A n l :=
 ⟨h.len,h.max,fun hn=>by
  obtain⟨b,off,e,hl,hc⟩:=h.at_ hn
  have h9:=hs hn b off e
  exact⟨b,off,e,Nat.lt_of_lt_of_le hl hb.size,fun k x hx=>by rw[hb.cell hl h9,hb.cell hl h9,hb.cell hl h9];exact hc k x hx⟩,h.fit⟩
theorem sec_reads {w:World} {A:Option Addr} {n:Nat} {l:List (Int × Int × Int)} (h:RSec w A n l):∃ xs,Reads w w.heap.size 3 A n xs∧(∀ u ∈ xs,u.oneCell'=true)∧∀ w' A' c',w'.ownsRow 0 120 3 (.slice A' n c') n xs→RSec w' A' n l∧n≤c':=by
 by_cases h0:n=0
 ·subst h0
  obtain rfl:l = []:=List.eq_nil_of_length_eq_zero h.len
  exact⟨[],Reads.none_,by simp,fun w' A' c' _=>⟨⟨rfl,by omega,fun h=>absurd h (by omega),by simp⟩,Nat.zero_le _⟩⟩
 ·obtain⟨b,off,rfl,hb,hc⟩:=h.at_ (by omega)
  have hq:∀ k x,l[k]? = some x→k<n:=fun k x hx=>by have:=(List.getElem?_eq_some_iff.1 hx).1;rw[h.len] at this;exact this
  obtain⟨r1,r2⟩:=cl_reads (w:=w) (b:=b) (off:=off) (n:=n) (m:=3) hb (fun j hj=>by
   obtain⟨h0,h1,h2⟩:=hc (j/3) (l[j/3]'(by rw[h.len];omega)) (List.getElem?_eq_getElem (by rw[h.len];omega))
   have hr:j % 3=0∨j % 3=1∨j % 3=2:=by omega
   rcases hr with e | e | e
   ·rw[show off+j=off+j/3*3 by omega];exact⟨_,h0,rfl⟩
   ·rw[show off+j=off+j/3*3+1 by omega];exact⟨_,h1,rfl⟩
   ·rw[show off+j=off+j/3*3+2 by omega];exact⟨_,h2,rfl⟩)
  refine⟨_,r1,r2,fun w' A' c' ho=>?_⟩
  obtain⟨g,rfl,hgc,hrf⟩:=Rf.of (by omega) ho
  refine⟨⟨h.len,h.max,fun _=>⟨g,0,rfl,hrf.lt,fun k x hx=>?_⟩,h.fit⟩,hgc⟩
  have hk:=hq k x hx
  obtain⟨h0,h1,h2⟩:=hc k x hx
  have cf:∀ j v,w.cell? ⟨b,off+j,none⟩=some v→clF w b off j=v:=fun j v e=>by unfold clF;rw[e];rfl
  rw[Nat.zero_add,hrf.cell (by omega),hrf.cell (by omega),hrf.cell (by omega),cf _ _ h0,cf (k*3+1) _ (by rw[←Nat.add_assoc];exact h1),cf (k*3+2) _ (by rw[←Nat.add_assoc];exact h2)]
  exact⟨rfl,rfl,rfl⟩
def cpF (f:Nat→Value) (nv:Nat→Value) (k j:Nat):Value:=if j % 4=3∧j/4<k then nv (j/4) else f j
set_option maxRecDepth 100000 in
set_option maxHeartbeats 8000000 in
theorem copied_any (s:Sys) (A:Option Addr) (n c:Nat) (w:World) (hs:RSys w A n c s) (hr:right s=true) :
  Calls Tryz.prog 30 #[sysV s A n c] w fun e w'=>∃ g c',e=.returned (sysV s (some ⟨g,0,none⟩) n c')∧But No w w'∧(n≤c'∧∀ W,But (fun j=>j<w.heap.size) w' W→RSys W (some ⟨g,0,none⟩) n c' s):=by
 obtain⟨_,_,hn1,hn2,hn4⟩:=right_len hr
 have hlen:=hs.ts.len
 rw[hlen] at hn1 hn2
 obtain⟨b,off,rfl,hb,hcells⟩:=hs.ts.at_ (by omega)
 obtain⟨W1,hW1⟩:∃ W1,(w.alloc (.cells (boxS s (some ⟨b,off,none⟩) n c) 24)).alloc (.cells #[.int .i64 0,.int .i64 0,.int .i64 0,.int .i64 0,.int .i64 0,.int .i64 0,.int .i64 0,.int .i64 0,.slice none 0 0] 24)=W1:=⟨_,rfl⟩
 have hb1:But No w W1:=by rw[←hW1];exact((But.refl No w).alloc _).alloc _
 have hx1:Blk W1 w.heap.size (boxS s (some ⟨b,off,none⟩) n c) 24:=by rw[←hW1];exact(Blk.new w _ _).alloc _
 have hr1:Blk W1 (w.heap.size+1) #[.int .i64 0,.int .i64 0,.int .i64 0,.int .i64 0,.int .i64 0,.int .i64 0,.int .i64 0,.int .i64 0,.slice none 0 0] 24:=by rw[←hW1];exact blk2 w _ _ _
 have HB1:=hid hb1
 have HX1:=hid hx1
 have HR1:=hid hr1
 have HSF:=hid hs.fit
 have HTS:=hid (hs.ts.no hb1)
 have HTF:=hid hs.ts.fit
 have HLN:=hid hlen
 have HN4:=hid hn4
 have hb2:b<W1.heap.size:=Nat.lt_of_lt_of_le hb hb1.size
 have hcl:=tsk_cells hlen (w:=W1) (b:=b) (off:=off) (by
  obtain⟨b',off',e,_,h⟩:=(hs.ts.no hb1).at_ (by omega)
  cases e;exact h)
 obtain⟨rd,oc⟩:=cl_reads hb2 hcl
 have RD:=hid rd
 have OC:=hid oc
 obtain⟨i0,hi0,hz0,hz1,hz2⟩:=info_parts infoTk
 have I0:Hid (Tryz.prog.info? 97=some i0∧i0.zero=some (.agg #[.int .i64 0,.int .i64 0,.int .i64 0,.slice none 0 0])∧i0.size=4∧i0.bytes=48):=⟨hi0,hz0,hz1,hz2⟩
 obtain⟨i1,hi1,hy0,hy1,hy2⟩:=info_parts infoSc
 have I1:Hid (Tryz.prog.info? 120=some i1∧i1.zero=some (.agg #[.int .i64 0,.int .i64 0,.int .i64 0])∧i1.size=3∧i1.bytes=24):=⟨hi1,hy0,hy1,hy2⟩
 clear hs hr hcells hcl rd oc hi0 hz0 hz1 hz2 hi1 hy0 hy1 hy2 hlen hn4
 have bb:=sys_cells hx1
 dsimp only[sysV,boxS] at hW1 ⊢
 go_enter Tryz.func30,Tryz.ntmps30
 go_upto_region 2 with(at_builtin;refine wpList_append_sh _ rfl _ _ 22 rfl 97 i0 _ 4 48 Tryz.underlying22 I0.out.1 I0.out.2.1 I0.out.2.2.1 I0.out.2.2.2 rfl (by omega) (.slice none 0 0) 0 [] rfl (World.ownsRow_nil _ _ _ _) W1.heap.size (some ⟨b,off,none⟩) n c _ rfl RD.out OC.out (by unfold maxLen;omega) (by omega) ?_;intro A4 c4 w4 hown4 hgrow4 hat4;simp only[Nat.zero_add,List.nil_append] at hown4 hat4 ⊢;have HB4:=hid ((But.refl No W1).grown hgrow4 (fun k e=>by simp[Value.ownBlock] at e));obtain⟨g,rfl,hgc,hrf⟩:=Rf.of (by omega) hown4;have HRF:=hid hrf;have HG:=hid (show g=W1.heap.size by rcases hat4 with h | h <;> simp[Value.ownBlock] at h;exact h);clear hown4 hgrow4 hat4 hrf)
 go_wp2
 go_loopw [10] (fun i wr=>∃ (k:Nat) (nv:Nat→Value),k≤n∧i=.int .i64 k∧Hid (But (Just g) w4 wr)∧Hid (Rf wr g 97 (n*4) (cpF (clF W1 b off) nv k))∧Hid (∀ i t,i<k→s.ts[i]? = some t→∃ A' c',nv i=.slice A' t.secs.length c'∧t.secs.length≤c'∧RSec wr A' t.secs.length t.secs∧(0<t.secs.length→∀ b' o',A'=some ⟨b',o',none⟩→g<b'))) (fun i _=>n-(intOf i).toNat)
 case atStart=>exact⟨0,fun _=>undef,by omega,rfl,But.refl _ _,HRF.out.congr (fun j _=>by unfold cpF;rw[if_neg (by omega)]),hid (fun i t h=>absurd h (by omega))⟩
 case round =>
  obtain⟨k,nv,hk,rfl,hbw,hrw,hnv⟩:=hrel
  have hk0:(0:Int)≤(k:Int):=Int.natCast_nonneg k
  by_cases hlt:k<n
  ·have kn':(k:Int)<(n:Int):=by omega
   obtain⟨t,ht⟩:∃ t,s.ts[k]? = some t:=⟨_,List.getElem?_eq_getElem (by rw[HLN.out];exact hlt)⟩
   obtain⟨b',off',A1,c1,e1,_,_,_,t3,_,hsec⟩:=HTS.out.at1 ht
   cases e1
   have hm4:t.secs.length≤4:=HN4.out t (List.mem_of_getElem? ht)
   have hcl:clF W1 b off (k*4+3)=.slice A1 t.secs.length c1:=by unfold clF;rw[←Nat.add_assoc,t3];rfl
   have c3:wr.cell? ⟨g,k*4+3,none⟩=some (.slice A1 t.secs.length c1):=by
    rw[hrw.out.cell (by omega),←hcl];unfold cpF;rw[if_neg (by omega)]
   have hss:RSec wr A1 t.secs.length t.secs:=rsec_but (hsec.no HB4.out) hbw.out (fun h0 b' o' e f=>by
    have f':b'=g:=f
    obtain⟨b2,o2,e2,hl2,_⟩:=hsec.at_ h0
    have:=HG.out
    rw[e] at e2;cases e2;omega)
   obtain⟨xs,r1,r2,r3⟩:=sec_reads hss
   have R1:=hid r1
   have R2:=hid r2
   have R3:=hid r3
   have hgr:g<wr.heap.size:=hrw.out.lt
   have HT:Hid (∀ t',s.ts[k]? = some t'→t'.secs.length=t.secs.length∧t'.secs=t.secs):=hid (fun t' h=>by rw[ht] at h;cases h;exact⟨rfl,rfl⟩)
   clear r1 r2 r3 hsec hss t3 hcl ht
   generalize t.secs.length=m at *
   go_upto_region 6 with(at_builtin;refine wpList_append_sh _ rfl _ _ 95 rfl 120 i1 _ 3 24 Tryz.underlying95 I1.out.1 I1.out.2.1 I1.out.2.2.1 I1.out.2.2.2 rfl (by omega) (.slice none 0 0) 0 [] rfl (World.ownsRow_nil _ _ _ _) wr.heap.size A1 m c1 _ rfl R1.out R2.out (by unfold maxLen;omega) (by omega) ?_;intro A5 c5 w5 hown5 hgrow5 hat5;simp only[Nat.zero_add,List.nil_append] at hown5 hat5 ⊢;have hb5:But No wr w5:=(But.refl No wr).grown hgrow5 (fun k e=>by simp[Value.ownBlock] at e);have HB5:=hid hb5;have HO5:=hid hown5;have HAT:=hid hat5;have j0:=(hrw.out.but hb5 (fun f=>f)).cell (j:=k*4+3) (by omega);have j1:=(hrw.out.but hb5 (fun f=>f)).frozen (k*4+3);clear hown5 hgrow5 hat5 hb5)
   have HNE:Hid (0<m→∀ b' o',A5=some ⟨b',o',none⟩→g<b'):=hid (fun _ b' o' e=>by
    rcases HAT.out with h | h <;> rw[e] at h <;> simp[Value.ownBlock] at h
    omega)
   go_wp2
   refine⟨⟨k+1,fun i=>if i=k then .slice A5 m c5 else nv i,by omega,by go_num,hid (((hbw.out.trans HB5.out.no)).setCell (p:=⟨g,k*4+3,none⟩) rfl _),?_,?_⟩,by simp[intOf];omega⟩
   ·refine hid (((hrw.out.but HB5.out (fun f=>f)).set (k*4+3) (.slice A5 m c5)).congr (fun j _=>?_))
    unfold cpF
    by_cases ej:j=k*4+3
    ·rw[if_pos (by omega),if_pos ej]
     show (if j/4=k then _ else _)=_;rw[if_pos (by omega)]
    ·rw[if_neg ej]
     by_cases hj:j % 4=3∧j/4<k
     ·rw[if_pos (by omega),if_pos hj]
      show (if j/4=k then _ else _)=_;rw[if_neg (by omega)]
     ·rw[if_neg (by omega),if_neg hj]
   ·refine hid (fun i t' hi ht'=>?_)
    have hbs:But (Just g) w5 (w5.setCell ⟨g,k*4+3,none⟩ (.slice A5 m c5)):=(But.refl (Just g) _).setCell (p:=⟨g,k*4+3,none⟩) rfl _
    have nf:∀ b',g<b'→¬Just g b':=fun b' h f=>by have f':b'=g:=f;omega
    by_cases ei:i=k
    ·subst ei
     obtain⟨e1,e2⟩:=HT.out t' ht'
     obtain⟨q1,q2⟩:=R3.out w5 A5 c5 HO5.out
     rw[e1,e2]
     exact⟨A5,c5,if_pos rfl,q2,rsec_but q1 hbs (fun h b' o' e=>nf _ (HNE.out h b' o' e)),HNE.out⟩
    ·obtain⟨A',c',q1,q2,q3,q4⟩:=hnv.out i t' (by omega) ht'
     exact⟨A',c',(if_neg ei).trans q1,q2,rsec_but q3 (HB5.out.no.trans hbs) (fun h b' o' e=>nf _ (q4 h b' o' e)),q4⟩
  ·have hkn:k=n:=by omega
   subst hkn
   have HRT:Hid (∀ S W,But S wr W→(∀ j,S j→j<g)→RTsk W (some ⟨g,0,none⟩) k s.ts):=hid (fun S W hb hS=>by
    have hS':∀ j,S j→j<W1.heap.size:=fun j e=>by have:=hS j e;have:=HG.out;omega
    refine⟨HLN.out,by omega,fun _=>⟨g,0,rfl,(hrw.out.but hb (fun f=>by have:=hS g f;omega)).lt,fun i t ht=>?_⟩,HTF.out⟩
    have hi:i<k:=by rw[←HLN.out];exact(List.getElem?_eq_some_iff.1 ht).1
    have hrW:=hrw.out.but hb (fun f=>by have:=hS g f;omega)
    obtain⟨b',off',A1,c1,e1,t0,t1,t2,_,_,_⟩:=HTS.out.at1 ht
    cases e1
    have cf:∀ j v,W1.cell? ⟨b,off+j,none⟩=some v→clF W1 b off j=v:=fun j v e=>by unfold clF;rw[e];rfl
    obtain⟨A',c',q1,q2,q3,q4⟩:=hnv.out i t hi ht
    rw[Nat.zero_add,hrW.cell (by omega),hrW.cell (by omega),hrW.cell (by omega),hrW.cell (by omega)]
    refine⟨?_,?_,?_,A',c',?_,q2,rsec_but q3 hb (fun h0 b' o' e f=>by have:=q4 h0 b' o' e;have:=hS _ f;omega)⟩
    ·unfold cpF;rw[if_neg (by omega),cf _ _ t0]
    ·unfold cpF;rw[if_neg (by omega),cf (i*4+1) _ (by rw[←Nat.add_assoc];exact t1)]
    ·unfold cpF;rw[if_neg (by omega),cf (i*4+2) _ (by rw[←Nat.add_assoc];exact t2)]
    ·unfold cpF;rw[if_pos (by omega),show (i*4+3)/4=i by omega,q1])
   obtain⟨B,hB⟩:∃ B,w.heap.size=B:=⟨_,rfl⟩
   have HX:=hid (HX1.out.but (HB4.out.no.trans hbw.out) (fun e=>by have e':w.heap.size=g:=e;have:=HG.out;have:=HX1.out.lt;omega))
   have HR:=hid (HR1.out.but (HB4.out.no.trans hbw.out) (fun e=>by have e':w.heap.size+1=g:=e;have:=HG.out;have:=HR1.out.lt;omega))
   have HWB:=hid hB
   rw[hB] at HX HR HX1 HR1 ⊢
   have bb:=sys_cells HX.out
   have ff:=HX.out.frozen 8
   obtain⟨z0,z1,z2,z3,z4,z5,z6,z7,z8⟩:S9 wr (B+1) ⟨0,0,0,0,0,0,0,0, []⟩ none 0 0:=sys_cells HR.out
   have f0:=HR.out.frozen 0
   have f1:=HR.out.frozen 1
   have f2:=HR.out.frozen 2
   have f3:=HR.out.frozen 3
   have f4:=HR.out.frozen 4
   have f5:=HR.out.frozen 5
   have f6:=HR.out.frozen 6
   have f7:=HR.out.frozen 7
   have f8:=HR.out.frozen 8
   have hBg:B+1<g:=by have:=HG.out;have:=HR1.out.lt;omega
   have HBW:Hid (But No w wr):=hid ((HB1.out.trans HB4.out).andThen hbw.out (fun j e=>.inr (by rw[show j=g from e];omega)))
   have HK:=hid (HRT.out (fun j=>j<g))
   have HOLD:Hid (∀ j,(j=B∨j=B+1)→j<g):=hid (fun j e=>by omega)
   have HNW:Hid (∀ j,(j=B∨j=B+1)→w.heap.size≤j):=hid (fun j e=>by omega)
   clear hBg
   obtain⟨W9,hW9⟩:∃ W9,(((((((((wr.setCell ⟨B,8,none⟩ (.slice (some ⟨g,0,none⟩) k c4)).setCell ⟨B+1,0,none⟩ (.int .i64 s.co)).setCell ⟨B+1,1,none⟩ (.int .i64 s.po)).setCell ⟨B+1,2,none⟩ (.int .i64 s.pr)).setCell ⟨B+1,3,none⟩ (.int .i64 s.re)).setCell ⟨B+1,4,none⟩ (.int .i64 s.sw)).setCell ⟨B+1,5,none⟩ (.int .i64 s.fi)).setCell ⟨B+1,6,none⟩ (.int .i64 s.la)).setCell ⟨B+1,7,none⟩ (.int .i64 s.rs)).setCell ⟨B+1,8,none⟩ (.slice (some ⟨g,0,none⟩) k c4)=W9:=⟨_,rfl⟩
   have hk9:Blk W9 (B+1) (boxS s (some ⟨g,0,none⟩) k c4) 24:=by
    have:=(((((((((HR.out.other (a:=⟨B,8,none⟩) (by simp) (.slice (some ⟨g,0,none⟩) k c4)).set 0 (.int .i64 s.co)).set 1 (.int .i64 s.po)).set 2 (.int .i64 s.pr)).set 3 (.int .i64 s.re)).set 4 (.int .i64 s.sw)).set 5 (.int .i64 s.fi)).set 6 (.int .i64 s.la)).set 7 (.int .i64 s.rs)).set 8 (.slice (some ⟨g,0,none⟩) k c4)
    rw[hW9] at this
    simpa [boxS] using this
   have HCH:Hid (But (fun j=>j=B∨j=B+1) wr W9):=by rw[←hW9];exact((((((((((But.refl (fun j=>j=B∨j=B+1) wr).setCell (p:=⟨B,8,none⟩) (.inl rfl) _).setCell (p:=⟨B+1,0,none⟩) (.inr rfl) _).setCell (p:=⟨B+1,1,none⟩) (.inr rfl) _).setCell (p:=⟨B+1,2,none⟩) (.inr rfl) _).setCell (p:=⟨B+1,3,none⟩) (.inr rfl) _).setCell (p:=⟨B+1,4,none⟩) (.inr rfl) _).setCell (p:=⟨B+1,5,none⟩) (.inr rfl) _).setCell (p:=⟨B+1,6,none⟩) (.inr rfl) _).setCell (p:=⟨B+1,7,none⟩) (.inr rfl) _).setCell (p:=⟨B+1,8,none⟩) (.inr rfl) _
   have rr:=sys_cells hk9
   go_wp2
   refine bodyPost_ret (v:=sysV s (some ⟨g,0,none⟩) k c4) ?_ rfl ⟨g,c4,rfl,HBW.out.andThen HCH.out (fun j e=>.inr (HNW.out j e)),hgc,fun W hb=>⟨hgc,HK.out _ ((HCH.out.mono (fun j _ e=>HOLD.out j e)).trans (hb.mono (fun j _ e=>by have e':j<B:=e;have:=HOLD.out B (.inl rfl);omega))) (fun j e=>e),HSF.out⟩⟩
   clear hW9 hk9 HRT
   obtain⟨r0,r1,r2,r3,r4,r5,r6,r7,r8⟩:=rr
   simp[results,Tryz.results30,go_sem,sysV,r0,r1,r2,r3,r4,r5,r6,r7,r8]
end Go.Proofs.YtikcigjbhohboaaGreat.tbl
end
