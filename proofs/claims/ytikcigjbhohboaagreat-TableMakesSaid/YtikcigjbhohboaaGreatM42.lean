/- Part 42 of a proof: TbF. -/
import Derived.Test.YtikcigjbhohboaaGreatM10
import Derived.Test.YtikcigjbhohboaaGreatM41
section
namespace Go.Proofs.YtikcigjbhohboaaGreat.tbl
open Go.Lib (hid)
set_option linter.unusedSimpArgs false
open Go.ChangeShapes Go.WideShapes Go.ChangeAt Go.RowKit Go.Deep val ter pln
theorem rrank_ok {s:Sys} {A:Option Addr} {n c:Nat} {A':Option Addr} {N c':Nat} {L:List (List Pc)} {w:World} (hs:RSys w A n c s) (hl:RPl w A' N L) (hr:plR s L=true):Calls Tryz.prog 26 #[sysV s A n c,.slice A' N c'] w fun e w'=>∃ A1 c1,e=.returned (.tuple #[.slice A1 N c1,.bool true])∧But No w w'∧RPl w' A1 N (rkV s L):=by
 refine(rrank_any s A n c A' N c' L w hs hl).mono ?_
 rintro e w' (⟨h,_⟩ | ⟨_,v,vs,rfl,h⟩)
 ·rw[hr] at h;cases h
 obtain⟨h1,h2,h3⟩:=rk_sizes hl hr
 have h24:=(plR_small hr).1
 obtain⟨A1,c1,e1,h4⟩:=h.pl (by rw[h1,←hl.len];omega) (fun m hm=>by have:=h2 m hm;omega) h3
 rw[h1] at e1 h4
 subst e1
 exact⟨A1,c1,rfl,h.but,h4⟩
theorem rrank_no {s:Sys} {A:Option Addr} {n c:Nat} {A':Option Addr} {N c':Nat} {L:List (List Pc)} {w:World} (hs:RSys w A n c s) (hl:RPl w A' N L) (hr:plR s L=false):Calls Tryz.prog 26 #[sysV s A n c,.slice A' N c'] w fun e w'=>e=.returned (.tuple #[.slice none 0 0,.bool false])∧But No w w':=by
 refine(rrank_any s A n c A' N c' L w hs hl).mono ?_
 rintro e w' (⟨_,h⟩ | ⟨h,_⟩)
 ·exact h
 ·rw[hr] at h;cases h
theorem rceil_ok {s:Sys} {A:Option Addr} {n c:Nat} {A':Option Addr} {N c':Nat} {L:List (List Pc)} {w:World} (hs:RSys w A n c s) (hl:RPl w A' N L) (hr:plR s L=true):Calls Tryz.prog 27 #[sysV s A n c,.slice A' N c'] w fun e w'=>∃ AZ cZ,e=.returned (.tuple #[.slice AZ s.co.toNat cZ,.bool true])∧But No w w'∧RNs w' AZ s.co.toNat (ceV s L):=by
 refine(rceil_any s A n c A' N c' L w hs hl).mono ?_
 rintro e w' (⟨h,_⟩ | ⟨_,v,vs,rfl,h⟩)
 ·rw[hr] at h;cases h
 obtain⟨hcs,hla,hn24,_⟩:=right_nums (plR_parts hr).1
 obtain⟨_,_,hrs⟩:=right_pr (plR_parts hr).1
 obtain⟨AZ,cZ,rfl,hz⟩:=h.ns (by rw[ceVlen];omega) (fun l hl=>by
  unfold ceV at hl
  obtain⟨k,_,rfl⟩:=List.mem_map.1 hl
  rw[ceRlen];omega)
 rw[ceVlen] at hz
 exact⟨AZ,cZ,by rw[ceVlen],h.but,hz⟩
set_option maxRecDepth 100000 in
set_option maxHeartbeats 16000000 in
theorem dright_any (s:Sys) (A:Option Addr) (n c:Nat) (E:Option Addr) (m d:Nat) (C:Option Addr) (q f:Nat) (es:List En) (ce:List (List Int)) (w:World) (hs:RSys w A n c s) (he:REn w E m es) (hc:RNs w C q ce) (hm:m*24≤140737488351232) :
  Calls Tryz.prog 18 #[tbV s A n c E m d C q f] w fun e w'=>e=.returned (.bool (tbR ⟨s,es,ce⟩))∧But No w w':=by
 have hb0:But No w (w.alloc (.cells (boxT11 s A n c E m d C q f) 31)):=(But.refl No w).alloc _
 have HBX:=hid (Blk.new w (boxT11 s A n c E m d C q f) 31)
 have bb:=tb_cells HBX.out
 have CP:=hid (fun W (hb:But No w W)=>dplan_any s A n c E m d C q f es W (he.no hb) hm)
 have HM:=hid he.len
 have HB0:=hid hb0
 have HS:=hid hs
 have HE:=hid he
 have HC:=hid hc
 have HT:Hid (plR s (plE es)=false→tbR ⟨s,es,ce⟩=false):=hid (fun h=>by unfold tbR;rw[h];rfl)
 have HT2:Hid (plE es≠rkV s (plE es)→tbR ⟨s,es,ce⟩=false):=hid (fun h=>by unfold tbR;dsimp only;rw[decide_eq_false h];simp)
 have HT3:Hid (ceV s (plE es)≠ce→tbR ⟨s,es,ce⟩=false):=hid (fun h=>by unfold tbR;dsimp only;rw[show decide (ce=ceV s (plE es))=false from decide_eq_false (fun e=>h e.symm)];simp)
 clear hs he hc hm hb0
 dsimp only[tbV,boxT11] at CP HBX HB0 ⊢
 obtain⟨B,hB⟩:∃ B,w.heap.size=B:=⟨_,rfl⟩
 rw[hB] at HBX bb
 go_enter Tryz.func18,Tryz.ntmps18
 go_wp2_with (go_at_call 41;refine(CP.out _ HB0.out).mono ?_;rintro e w2 ⟨A2,c2,rfl,hb2,hp2⟩;have HB2:=hid (HB0.out.trans hb2);have HX2:=hid (HBX.out.but hb2 (fun f=>f));have HP2:=hid hp2;clear hb2 hp2 bb;have bb:T11 w2 B s A n c E m d C q f:=tb_cells HX2.out)
 clear hB
 by_cases hpl:plR s (plE es)=true
 ·have CR:=hid (rrank_ok (c:=c) (c':=c2) (HS.out.no HB2.out) HP2.out hpl)
  have HPL:=hid hpl
  have HTL:Hid (m=s.ts.length):=hid (by have:=(plR_parts hpl).2.1;rw[plE_len,HM.out] at this;exact this)
  have hmx:=HE.out.max
  have H8:=hid (plR_small hpl)
  go_wp2_with (go_at_call 26;refine CR.out.mono ?_;rintro e w3 ⟨A3,c3,rfl,hb3,hp3⟩;have HB3:=hid (HB2.out.trans hb3);have HX3:=hid (HX2.out.but hb3 (fun f=>f));have HP3:=hid (HP2.out.no hb3);have HR3:=hid hp3;clear hb3 hp3 bb;have bb:T11 w3 B s A n c E m d C q f:=tb_cells HX3.out)
  clear CP CR hpl bb
  go_loopw [6] (fun i wr=>∃ k:Nat,k≤m∧i=.int .i64 k∧Hid (enN s es k=true)∧Hid (∀ j,j<k→(plE es)[j]? = (rkV s (plE es))[j]?)∧Hid (But No w3 wr)) (fun i _=>m-(intOf i).toNat)
  case atStart=>exact⟨0,by omega,rfl,rfl,hid (fun j h=>by omega),But.refl _ _⟩
  case round =>
   obtain⟨k,hk,rfl,hen,hrow,hbw⟩:=hrel
   have hk0:(0:Int)≤(k:Int):=Int.natCast_nonneg k
   by_cases hlt:k<m
   ·have kn':(k:Int)<(m:Int):=by omega
    obtain⟨x,hx⟩:∃ x,es[k]? = some x:=⟨_,List.getElem?_eq_getElem (by rw[HM.out];exact hlt)⟩
    obtain⟨t,ht⟩:∃ t,s.ts[k]? = some t:=⟨_,List.getElem?_eq_getElem (by rw[←HTL.out];exact hlt)⟩
    have hxp:=plE_at hx
    obtain⟨l,hl⟩:∃ l,x.ps=l:=⟨_,rfl⟩
    obtain⟨r,hr⟩:∃ r,(rkV s (plE es))[k]? = some r:=⟨_,List.getElem?_eq_getElem (by rw[rkV_len,plE_len,HM.out];exact hlt)⟩
    rw[hl] at hxp
    have hB:=HB3.out.trans hbw.out
    obtain⟨b,off,_,_,rfl,hb,_,p1,_,_⟩:=(HE.out.no hB).at1 hx
    obtain⟨b',off',A',c',rfl,_,t1,_⟩:=(HS.out.no hB).ts.at1 ht
    obtain⟨b2,off2,A5,c5,rfl,hl2,u0,u1,hpc⟩:=(HP3.out.no hbw.out).at1 hxp
    obtain⟨b3,off3,A6,c6,rfl,hl3,v0,v1,hpr⟩:=(HR3.out.no hbw.out).at1 hr
    have kn2:(k:Int)<(n:Int):=by rw[←HS.out.ts.len,←HTL.out];exact kn'
    have bb:T11 wr B s (some ⟨b',off',none⟩) n c (some ⟨b,off,none⟩) m d C q f:=tb_cells (HX3.out.but hbw.out (fun f=>f))
    have HNX:Hid (enN s es (k+1)=(endV l && (decide (1≤x.bo) && decide (x.bo≤t.d)))):=hid (by rw[enN,hen.out];unfold enB;rw[getE hx,getT ht,hl];rfl)
    have HBD:Hid (enN s es (k+1)=false→tbR ⟨s,es,ce⟩=false):=hid (fun e=>by
     have e2:enN s es es.length=false:=enN_bad (i:=k) (by rw[enN,hen.out,Bool.true_and] at e;exact e) _ (by rw[HM.out];exact hlt)
     unfold tbR;dsimp only;rw[e2];simp)
    have HRW:Hid (l≠r→tbR ⟨s,es,ce⟩=false):=hid (fun e=>HT2.out (row_ne hxp hr e))
    have HRN:Hid (l=r→∀ j,j<k+1→(plE es)[j]? = (rkV s (plE es))[j]?):=hid (fun e j hj=>by
     by_cases ej:j=k
     ·subst ej;rw[hxp,hr,e]
     ·exact hrow.out j (by omega))
    have hl8:l.length≤8:=H8.out.2 l (List.mem_of_getElem? hxp)
    have hrl:r.length=l.length:=by
     obtain⟨i,l',h1,h2⟩:=rkV_mem (List.mem_of_getElem? hr)
     have hri:=rkV_at hxp (s:=s)
     rw[hr] at hri
     rw[Option.some.inj hri];unfold rkL;rw[List.length_map]
    rw[hrl] at v0 v1 hpr
    have HRL:=hid hrl
    have HP5:=hid hpc
    have HP6:=hid hpr
    clear hx ht hr hxp hrl hpc hpr hl
    obtain⟨bo,hbo⟩:∃ bo,x.bo=bo:=⟨_,rfl⟩
    rw[hbo] at p1 HNX
    clear hbo
    by_cases h0:l.length=0
    ·have HF:Hid (endV l=false):=hid (by unfold endV;rw[List.eq_nil_of_length_eq_zero h0];rfl)
     rw[h0] at u0
     have d0:((0:Int) == 0)=true:=by decide
     go_wp2_with fail
     go_quiet (fail)
     go_wp2
     go_ret
     exact⟨retb (HBD.out (by rw[HNX.out,HF.out];rfl)).symm,(HB3.out.trans hbw.out).drewN _⟩
    ·obtain⟨p,hp⟩:∃ p,l.length=p+1:=⟨l.length-1,by omega⟩
     obtain⟨y,hy⟩:∃ y,l[p]? = some y:=⟨_,List.getElem?_eq_getElem (by omega)⟩
     obtain⟨b4,off4,rfl,hb4,_,_,_,_,y4⟩:=HP5.out.at1 hy
     have HEV:Hid (endV l = !y.ti):=hid (by unfold endV;rw[show l.length-1=p by omega,getD_some hy,decide_eq_true (by rintro rfl;simp at hy)];rfl)
     have d0:((l.length:Int) == 0)=false:=by rw[beq_eq_false_iff_ne];intro e;omega
     have d2:(l.length:Int)-1=(p:Int):=by omega
     have d3:(p:Int)<(l.length:Int):=by omega
     have hp0:(0:Int)≤(p:Int):=Int.natCast_nonneg p
     have HPP:=hid hp
     clear hy hp
     obtain⟨N,hN⟩:∃ N,N=l.length:=⟨_,rfl⟩
     have HLN:=hid hN
     rw[←hN] at u0 u1 v0 v1 HP5 HP6 d0 d2 d3 hl8 h0
     clear hN
     cases hti:y.ti with
     | true =>
      rw[hti] at y4 HEV
      go_wp2_with fail
      go_quiet (fail)
      go_wp2
      go_ret
      exact⟨retb (HBD.out (by rw[HNX.out,HEV.out];rfl)).symm,(HB3.out.trans hbw.out).drewN _⟩
     | false =>
      rw[hti] at y4 HEV
      by_cases h1:bo<1
      ·have a1:decide (bo<1)=true:=decide_eq_true h1
       have HF:=hid (show (decide (1≤bo))=false by rw[decide_eq_false_iff_not];omega)
       clear h1
       go_wp2_with fail
       go_quiet (fail)
       go_wp2
       go_ret
       exact⟨retb (HBD.out (by rw[HNX.out,HEV.out,HF.out];rfl)).symm,(HB3.out.trans hbw.out).drewN _⟩
      ·have a1:decide (bo<1)=false:=decide_eq_false h1
       have HF1:=hid (show decide (1≤bo)=true by rw[decide_eq_true_eq];omega)
       clear h1
       by_cases h2:t.d<bo
       ·have a2:decide (t.d<bo)=true:=decide_eq_true h2
        have HF:=hid (show decide (bo≤t.d)=false by rw[decide_eq_false_iff_not];omega)
        clear h2
        go_wp2_with fail
        go_quiet (fail)
        go_wp2
        go_ret
        exact⟨retb (HBD.out (by rw[HNX.out,HEV.out,HF1.out,HF.out];rfl)).symm,(HB3.out.trans hbw.out).drewN _⟩
       ·have a2:decide (t.d<bo)=false:=decide_eq_false h2
        have HF2:=hid (show decide (bo≤t.d)=true by rw[decide_eq_true_eq];omega)
        clear h2
        go_wp2_with fail
        go_quiet (fail)
        go_wp2
        go_loopw [7] (fun i w5=>∃ g:Nat,g≤N∧i=.int .i64 g∧Hid (∀ j,j<g→l[j]? = r[j]?)∧Hid (But No wr w5)) (fun i _=>N-(intOf i).toNat)
        case atStart=>exact⟨0,by omega,rfl,hid (fun j h=>by omega),hid ((But.refl No wr).drewN _)⟩
        case round =>
         obtain⟨g,hg,rfl,hin,hb5⟩:=hrel
         have hg0:(0:Int)≤(g:Int):=Int.natCast_nonneg g
         replace u0:=cell_keep u0 hb5.out
         replace v0:=cell_keep v0 hb5.out
         by_cases hgn:g<N
         ·have gn':(g:Int)<(N:Int):=by omega
          obtain⟨xx,hxx⟩:∃ x,l[g]? = some x:=⟨_,List.getElem?_eq_getElem (by rw[←HLN.out];exact hgn)⟩
          obtain⟨yy,hyy⟩:∃ x,r[g]? = some x:=⟨_,List.getElem?_eq_getElem (by rw[HRL.out,←HLN.out];exact hgn)⟩
          obtain⟨b7,off7,e7,hb7,p0,p1,p2,p3,p4⟩:=(HP5.out.no hb5.out).at1 hxx
          cases e7
          obtain⟨b8,off8,rfl,hb8,q0,q1,q2,q3,q4⟩:=(HP6.out.no hb5.out).at1 hyy
          have hop:=neq_run xx yy
          by_cases hxy:xx=yy
          ·have HEQ:Hid (∀ j,j<g+1→l[j]? = r[j]?):=hid (fun j hj=>by
            by_cases e:j=g
            ·subst e;rw[hxx,hyy,hxy]
            ·exact hin.out j (by omega))
           rw[decide_eq_true hxy] at hop
           clear hxx hyy hxy
           go_wp2_with fail
           go_quiet (fail)
           go_wp2
           go_roundw
           case rel=>exact⟨g+1,by omega,by go_num,HEQ,hid (hb5.out.drewN _)⟩
           case measure=>simp[intOf];omega
          ·have HF:=hid (HRW.out (row_ne hxx hyy hxy))
           rw[decide_eq_false hxy] at hop
           clear hxx hyy hxy
           go_wp2_with fail
           go_quiet (fail)
           go_wp2
           go_ret
           exact⟨retb HF.out.symm,((HB3.out.trans hbw.out).trans hb5.out).drewN _⟩
         ·have hgN:g=N:=by omega
          subst hgN
          have HEQ:Hid (l=r):=hid (any_eq HRL.out.symm (fun j hj=>hin.out j (by rw[HLN.out];exact hj)))
          have HE1:=hid (HRN.out HEQ.out)
          go_wp2
          refine⟨⟨k+1,by omega,by go_num,hid (by rw[HNX.out,HEV.out,HF1.out,HF2.out];rfl),HE1,hid (hbw.out.trans hb5.out)⟩,by simp[intOf];omega⟩
   ·have hkm:k=m:=by omega
    subst hkm
    have HEQ:Hid (plE es=rkV s (plE es)):=hid (any_eq (by rw[rkV_len]) (fun j hj=>hrow.out j (by rw[plE_len,HM.out] at hj;exact hj)))
    have HV:Hid (tbR ⟨s,es,ce⟩=decide (ce=ceV s (plE es))):=hid (by unfold tbR;dsimp only;rw[HPL.out,decide_eq_true HEQ.out,HM.out,hen.out];simp)
    have CC:=hid (rceil_ok (c:=c) (c':=c2) (HS.out.no (HB3.out.trans hbw.out)) (HP3.out.no hbw.out) HPL.out)
    have bb:T11 wr B s A n c E k d C q f:=tb_cells (HX3.out.but hbw.out (fun f=>f))
    have HCL:Hid ((ceV s (plE es)).length=s.co.toNat):=hid (ceVlen _ _)
    generalize ceV s (plE es)=Z at *
    obtain⟨Q,hQ⟩:∃ Q,s.co.toNat=Q:=⟨_,rfl⟩
    rw[hQ] at CC HCL
    clear hQ hlt
    by_cases hq:Q=q
    ·subst hq
     have d1:((Q:Int) != (Q:Int))=false:=by simp
     go_wp2_with (go_at_call 27;refine CC.out.mono ?_;rintro e w5 ⟨AZ,cZ,rfl,hb5,hz5⟩;have HB5:=hid ((HB3.out.trans hbw.out).trans hb5);have HX5:=hid ((HX3.out.but hbw.out (fun f=>f)).but hb5 (fun f=>f));have HZ5:=hid hz5;have hqz:=hz5.max;clear hb5 hz5 bb;have bb:T11 w5 B s A n c E k d C Q f:=tb_cells HX5.out)
     have HCQ:Hid (ce.length=Q):=HC.out.len
     clear bb
     go_loopw [10] (fun i w6=>∃ a:Nat,a≤Q∧i=.int .i64 a∧Hid (∀ j,j<a→Z[j]? = ce[j]?)∧Hid (But No w5 w6)) (fun i _=>Q-(intOf i).toNat)
     case atStart=>exact⟨0,by omega,rfl,hid (fun j h=>by omega),But.refl _ _⟩
     case round =>
      obtain⟨a,ha,rfl,hin,hb6⟩:=hrel
      obtain⟨w6,hw6⟩:∃ w6,w6=wr:=⟨_,rfl⟩
      have ha0:(0:Int)≤(a:Int):=Int.natCast_nonneg a
      have bb:T11 wr B s A n c E k d C Q f:=tb_cells (HX5.out.but hb6.out (fun f=>f))
      by_cases haq:a<Q
      ·have an':(a:Int)<(Q:Int):=by omega
       obtain⟨x,hx⟩:∃ x,Z[a]? = some x:=⟨_,List.getElem?_eq_getElem (by rw[HCL.out];exact haq)⟩
       obtain⟨y,hy⟩:∃ y,ce[a]? = some y:=⟨_,List.getElem?_eq_getElem (by rw[HCQ.out];exact haq)⟩
       obtain⟨b1,off1,A5,c5,rfl,hl1,u0,_,hp⟩:=(HZ5.out.no hb6.out).at1 hx
       obtain⟨b2,off2,A6,c6,rfl,hl2,v0,_,hr⟩:=(HC.out.no (HB5.out.trans hb6.out)).at1 hy
       have HNE:=hid (fun e:x≠y=>HT3.out (row_ne hx hy e))
       have HNX:Hid (x=y→∀ j,j<a+1→Z[j]? = ce[j]?):=hid (fun e j hj=>by
        by_cases ej:j=a
        ·subst ej;rw[hx,hy,e]
        ·exact hin.out j (by omega))
       by_cases hln:x.length=y.length
       ·rw[←hln] at v0 hr
        have HYL:=hid hln
        have HP:=hid hp
        have HR:=hid hr
        have hxm:=hp.max
        clear hx hy hp hr hln
        obtain⟨N,hN⟩:∃ N,N=x.length:=⟨_,rfl⟩
        have HLN:=hid hN
        rw[←hN] at u0 v0 HP HR hxm
        clear hN
        have d2:((N:Int) != (N:Int))=false:=by simp
        go_wp2_with fail
        go_quiet (fail)
        go_wp2
        clear bb
        go_loopw [11] (fun i w7=>∃ g:Nat,g≤N∧i=.int .i64 g∧Hid (∀ j,j<g→x[j]? = y[j]?)∧Hid (But No w6 w7)) (fun i _=>N-(intOf i).toNat)
        case atStart=>exact⟨0,by omega,rfl,hid (fun j h=>by omega),hid (by rw[hw6];exact(But.refl No wr).drewN _)⟩
        case round =>
         subst hw6
         obtain⟨g,hg,rfl,hin2,hb7⟩:=hrel
         have hg0:(0:Int)≤(g:Int):=Int.natCast_nonneg g
         replace u0:=cell_keep u0 hb7.out
         replace v0:=cell_keep v0 hb7.out
         have bb:=tb_cells (s:=s) (HX5.out.but (hb6.out.trans hb7.out) (fun f=>f))
         by_cases hgn:g<N
         ·have gn':(g:Int)<(N:Int):=by omega
          obtain⟨xx,hxx⟩:∃ z,x[g]? = some z:=⟨_,List.getElem?_eq_getElem (by rw[←HLN.out];exact hgn)⟩
          obtain⟨yy,hyy⟩:∃ z,y[g]? = some z:=⟨_,List.getElem?_eq_getElem (by rw[←HYL.out,←HLN.out];exact hgn)⟩
          obtain⟨b7,off7,rfl,hb8,p0⟩:=(HP.out.no hb7.out).at_ (by omega)
          obtain⟨b8,off8,rfl,hb9,q0⟩:=(HR.out.no hb7.out).at_ (by omega)
          replace p0:=p0 g hgn
          replace q0:=q0 g hgn
          rw[getD_at hxx] at p0
          rw[getD_at hyy] at q0
          by_cases hxy:xx=yy
          ·have HEQ:Hid (∀ j,j<g+1→x[j]? = y[j]?):=hid (fun j hj=>by
            by_cases e:j=g
            ·subst e;rw[hxx,hyy,hxy]
            ·exact hin2.out j (by omega))
           subst hxy
           have hop:(xx != xx)=false:=by simp
           clear hxx hyy
           go_wp2_with fail
           go_quiet (fail)
           go_wp2
           go_roundw
           case rel=>exact⟨g+1,by omega,by go_num,HEQ,hid (hb7.out.drewN _)⟩
           case measure=>simp[intOf];omega
          ·have HF:=hid (HNE.out (row_ne hxx hyy hxy))
           have hop:(xx != yy)=true:=by simp[hxy]
           clear hxx hyy hxy
           go_wp2_with fail
           go_quiet (fail)
           go_wp2
           go_ret
           exact⟨retb HF.out.symm,((HB5.out.trans hb6.out).trans hb7.out).drewN _⟩
         ·have hgN:g=N:=by omega
          subst hgN
          have HEQ:Hid (x=y):=hid (any_eq HYL.out (fun j hj=>hin2.out j (by rw[HLN.out];exact hj)))
          have HE1:=hid (HNX.out HEQ.out)
          clear bb
          go_wp2
          refine⟨⟨a+1,by omega,by go_num,HE1,hid (hb6.out.trans hb7.out)⟩,by simp[intOf];omega⟩
       ·have HF:=hid (HNE.out (fun e=>hln (by rw[e])))
        have d2:((x.length:Int) != (y.length:Int))=true:=by rw[bne_iff_ne];intro e;omega
        clear hx hy hp hr hw6
        go_wp2_with fail
        go_quiet (fail)
        go_wp2
        go_ret
        exact⟨retb HF.out.symm,(HB5.out.trans hb6.out).drewN _⟩
      ·have haQ:a=Q:=by omega
       subst haQ
       have HEQ:Hid (Z=ce):=hid (any_eq (by rw[HCL.out,HCQ.out]) (fun j hj=>hin.out j (by rw[←HCL.out];exact hj)))
       clear bb hw6
       go_wp2
       go_ret
       exact⟨retb (by rw[HV.out,decide_eq_true HEQ.out.symm]),HB5.out.trans hb6.out⟩
    ·have HF:=hid (HT3.out (fun e=>hq (by rw[←HCL.out,e];exact HC.out.len)))
     have d1:((Q:Int) != (q:Int))=true:=by rw[bne_iff_ne];intro e;omega
     clear hq
     go_wp2_with (go_at_call 27;refine CC.out.mono ?_;rintro e w5 ⟨AZ,cZ,rfl,hb5,hz5⟩;have HB5:=hid ((HB3.out.trans hbw.out).trans hb5);have HX5:=hid ((HX3.out.but hbw.out (fun f=>f)).but hb5 (fun f=>f));clear hb5 hz5 bb;have bb:T11 w5 B s A n c E k d C q f:=tb_cells HX5.out)
     go_ret
     exact⟨retb HF.out.symm,HB5.out⟩
 ·have hpf:plR s (plE es)=false:=by simpa using hpl
  have HV:=hid (HT.out hpf)
  have CR:=hid (rrank_no (c:=c) (c':=c2) (HS.out.no HB2.out) HP2.out hpf)
  go_wp2_with (go_at_call 26;refine CR.out.mono ?_;rintro e w3 ⟨rfl,hb3⟩;have HB3:=hid (HB2.out.trans hb3);clear hb3 bb)
  go_ret
  exact⟨retb HV.out.symm,HB3.out⟩
end Go.Proofs.YtikcigjbhohboaaGreat.tbl
end
