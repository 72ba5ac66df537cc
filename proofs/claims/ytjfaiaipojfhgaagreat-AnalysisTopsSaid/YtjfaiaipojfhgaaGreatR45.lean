/- Part 45 of a proof: PaW PaY. -/
import Derived.Laws.OwnMore
import Derived.OneCell
import Derived.Test.YtjfaiaipojfhgaaGreatR13
import Derived.Test.YtjfaiaipojfhgaaGreatR44
section
namespace Go.Proofs.YtjfaiaipojfhgaaGreat.pln
open Go.Lib (hid)
set_option linter.unusedVariables false
set_option linter.unusedSimpArgs false
open Go.ChangeShapes Go.WideShapes Go.ChangeAt Go.RowKit Go.Deep Go.Shelf val ter Go.Sort
theorem lyF_fok {s:Sys} {L:List (List Pc)} {w:World} {A':Option Addr} {N:Nat} (hl:RPl w A' N L) (hL:L.length=s.ts.length) (hn:s.ts.length≤24):Fok s.ts.length (lyF s L):=by
 have h0:Fok s.ts.length (mpF (vis (wrp (s.la-1)) L)):=mpF_fok (fun x hx=>by
  obtain⟨i,l,k,y,h1,h2,rfl⟩:=vis_mem hx
  obtain⟨_,_,A4,c4,_,_,_,_,hp⟩:=hl.at1 h1
  obtain⟨g1,g2,g3,_⟩:=hp.fit y (List.mem_of_getElem? h2)
  exact⟨by show i<_;have:=(List.getElem?_eq_some_iff.1 h1).1;omega,g1,g2,g3⟩)
 unfold lyF
 split
 ·exact rkM_fok h0 hn _
 ·exact h0
theorem pt_bounds {s:Sys} {L:List (List Pc)} (h:plR s L=true) {c:Nat} {y:Ap} (hy:y ∈ apS (c:Int) (rkV s L)):(0≤(ptOf s L y).p.bu∧(ptOf s L y).p.bu≤1099511627776)∧(0≤(ptOf s L y).dn∧(ptOf s L y).dn≤1125899906842624)∧(0≤(ptOf s L y).ji∧(ptOf s L y).ji≤1125899906842624):=by
 obtain⟨hr,hL,hok⟩:=plR_parts h
 obtain⟨rl,h1,h2,h3⟩:=apS_mem hy
 have hi:y.i<L.length:=by have:=(List.getElem?_eq_some_iff.1 h1).1;rw[rkV_len] at this;exact this
 obtain⟨l,hl⟩:∃ l,L[y.i]? = some l:=⟨_,List.getElem?_eq_getElem hi⟩
 rw[rkV_at hl] at h1
 cases h1
 obtain⟨x,hx,hp⟩:=rkL_at h2
 have hkl:y.k<l.length:=(List.getElem?_eq_some_iff.1 hx).1
 obtain⟨hw,_⟩:=tsk_nums hr hL hl
 have hoL:=okS_at hok hl
 obtain⟨⟨g0,_,g3,g4,g5⟩,_⟩:=okL_rg hoL hw.1 hx
 obtain⟨_,d1,d2⟩:=okL_dn hoL hw (Nat.le_of_lt hkl)
 have hla:=(right_nums hr).2.1
 have hkz:=small_k g0 (show 0≤s.la-1∧s.la-1≤49 by omega)
 have e1:(ptOf s L y).p.bu=x.bu:=by show y.p.bu=_;rw[hp];rfl
 have e2:(ptOf s L y).dn=smN l y.k:=by show smN (L.getD y.i []) y.k=_;rw[getL hl]
 have e3:(ptOf s L y).ji=(y.k:Int)*(s.la-1):=rfl
 rw[e1,e2,e3]
 refine⟨⟨by omega,?_⟩,⟨by omega,by omega⟩,by omega,by omega⟩
 cases ht:x.ti with
 | true=>have:=g4 ht;omega
 | false=>have:=g5 ht;omega
theorem erN_stay {s:Sys} {R:List (List Pc)} {Z:List (List Int)} {m:Nat} (h:(erN s R Z m).2≠0):∀ d,erN s R Z (m+d)=erN s R Z m
 | 0=>rfl
 | d+1=>by
  have ih:=erN_stay h d
  rw[←Nat.add_assoc,erN,ih,if_pos h]
theorem er_edf {s:Sys} {L:List (List Pc)} (h:plR s L=true) {c:Nat} (hc:c<s.co.toNat) (hpo:s.po=2) :
  dem.testV (((apS (c:Int) (rkV s L)).map (ptOf s L)).map (wkP s (L.map whO))) (blH s 0 (hoF s (L.map whO) (ceF s ((apS (c:Int) (rkV s L)).map (ptOf s L))) ((apS (c:Int) (rkV s L)).map (ptOf s L)))) s.re=erC s (rkV s L) (ceV s L) (apS (c:Int) (rkV s L)) c:=by
 obtain⟨hr,hL,hok⟩:=plR_parts h
 obtain⟨hre,hsw,hfi⟩:=right_costs hr
 have hb:=blk_is h hc (pr:=0) (.inr rfl)
 have h0:heN s 0 ((apS (c:Int) (rkV s L)).map (ptOf s L)) ((apS (c:Int) (rkV s L)).map (ptOf s L)).length=0:=he_low (fun x hx=>by
  obtain⟨y,hy,rfl⟩:=List.mem_map.1 hx
  obtain⟨rl,h1,h2,h3⟩:=apS_mem hy
  have hi:y.i<L.length:=by have:=(List.getElem?_eq_some_iff.1 h1).1;rw[rkV_len] at this;exact this
  obtain⟨l,hl⟩:∃ l,L[y.i]? = some l:=⟨_,List.getElem?_eq_getElem hi⟩
  rw[rkV_at hl] at h1
  cases h1
  obtain⟨x,hx,hp⟩:=rkL_at h2
  show y.p.pr≤0
  rw[hp,rk0 (by omega)];exact Int.le_refl _) _ (Nat.le_refl _)
 rw[h0,Int.add_zero] at hb
 unfold erC
 rw[erJ_edf hpo]
 by_cases hA:apS (c:Int) (rkV s L) = []
 ·rw[if_neg (fun e=>e.2.1 hA),hA]
  exact test_nil (by show 0≤(0:Int)+2*(s.fi+s.sw)∧(0:Int)+2*(s.fi+s.sw)≤_;omega) (by omega)
 ·rw[hb,wk_is h c]
  have e:dem.testV ((apS (c:Int) (rkV s L)).map (wkOf s (rkV s L))) (blkV s (rkV s L) (ceV s L) c 0) s.re=edfV s (rkV s L) (ceV s L) (apS (c:Int) (rkV s L)) c:=rfl
  rw[e]
  by_cases h9:edfV s (rkV s L) (ceV s L) (apS (c:Int) (rkV s L)) c=0
  ·rw[if_neg (fun e=>e.2.2 h9),h9]
  ·rw[if_pos ⟨hpo,hA,h9⟩]
set_option maxRecDepth 100000 in
set_option maxHeartbeats 4000000 in
theorem check_core {w0 w:World} {s:Sys} {L:List (List Pc)} {A:Option Addr} {n c m b K:Nat} (hp:plR s L=true) (h:LY w0 w s A n c m b K (lyF s L) (lyW s L)) (hF:Fok n (lyF s L)) (co:Nat) (hco:co<s.co.toNat) {bb:Nat} {g:Nat→Int} (hbb:Vals w bb 3 n (fun j=>.int .i64 (g j))) (hbm:bb≠m) (hbw:bb≠b) (hb0:w0.heap.size≤bb) :
  Calls Tryz.prog 36 #[lyV s A n c m b,.int .i64 (co:Int),.slice (some ⟨bb,0,none⟩) n n] w fun e w'=>e=.returned (.int .i64 (erC s (rkV s L) (ceV s L) (apS (co:Int) (rkV s L)) co))∧But (Just bb) w w'∧(erC s (rkV s L) (ceV s L) (apS (co:Int) (rkV s L)) co=0→Vals w' bb 3 n (fun j=>.int .i64 (bdJ s (rkV s L) (ceV s L) (apS (co:Int) (rkV s L)) co g (apS (co:Int) (rkV s L)).length j))):=by
 obtain⟨hr,hL,hok⟩:=plR_parts hp
 obtain⟨hcs,hla,hn24,_⟩:=right_nums hr
 obtain⟨hspr,hspo,hrs⟩:=right_pr hr
 have hn:s.ts.length=n:=h.len
 have hnn:n≤24:=by omega
 have hcoR:inR (co:Int):=by unfold inR;omega
 have hon:onN (lyF s L) (co:Int) n=(apS (co:Int) (rkV s L)).map (ptOf s L):=by rw[←hn];exact ly_on hp hco
 have hwh:(List.range n).map (lyW s L)=L.map whO:=by rw[←hn];exact lyW_is hL
 have hw1:But No w (w.alloc (.cells (lyA s A n c m b) 66)):=(But.refl No w).alloc _
 have hbw1:Blk (w.alloc (.cells (lyA s A n c m b) 66)) w.heap.size (lyA s A n c m b) 66:=Blk.new w _ _
 have HB1:=hid hw1
 obtain⟨rs,hrsn⟩:∃ rs:Nat,s.rs=(rs:Int):=⟨s.rs.toNat,by omega⟩
 obtain⟨⟨l0,l1,l2,l3,l4,l5,l6,l7,l8⟩,l9,l10⟩:=ly_cells hbw1
 rcases hspo with hpo | hpo
 ·have hfx:=fixed_any (h.no hw1) hF hr hnn (co:Int) hcoR hrsn (by omega) (fun x hx=>by
   rw[hon] at hx
   obtain⟨y,hy,rfl⟩:=List.mem_map.1 hx
   exact pt_bounds hp hy) (hbb.but hw1 (fun f=>f)) hbm hbw hb0
  rw[hon,hwh] at hfx
  have hlen:((apS (co:Int) (rkV s L)).map (ptOf s L)).length=(apS (co:Int) (rkV s L)).length:=List.length_map ..
  rw[hlen,fxE_is hp hco hpo _ (Nat.le_refl _),fxB_is hp hco hpo g _ (Nat.le_refl _)] at hfx
  have he:erC s (rkV s L) (ceV s L) (apS (co:Int) (rkV s L)) co=erJ s (rkV s L) (ceV s L) (apS (co:Int) (rkV s L)) co (apS (co:Int) (rkV s L)).length:=by unfold erC;rw[if_neg (by omega)]
  rw[←he] at hfx
  have CF:=hid hfx
  have q2:(s.po == 2)=false:=by simp;omega
  clear hfx he hlen hrsn hspr hpo hF h hp hr hL hok hcs hla hn24 hrs hon hwh hbb hw1 hbw1 hn hnn hcoR
  dsimp only[lyV,lyA] at CF HB1 l0 l1 l2 l3 l4 l5 l6 l7 l8 l9 l10 ⊢
  go_enter Tryz.func36,Tryz.ntmps36
  go_wp2_with (go_at_call 57;(with_reducible refine CF.out.mono ?_);rintro e w2 ⟨rfl,h2,h3⟩;have H2:=hid h2;have H3:=hid h3;clear h2 h3)
  go_ret
  exact⟨rfl,HB1.out.no.trans H2.out,H3.out⟩
 ·have hfx:=edf_any (h.no hw1) hF hr hnn (co:Int) hcoR hrsn (by omega) (fun x hx=>by
   rw[hon] at hx
   obtain⟨y,hy,rfl⟩:=List.mem_map.1 hx
   exact(pt_bounds hp hy).1) (hbb.but hw1 (fun f=>f)) hbm hbw hb0
  rw[hon,hwh,er_edf hp hco hpo] at hfx
  have hbd:=bdE_is (L:=L) hpo (Z:=ceV s L) (R:=rkV s L) (c:=co) (apS (co:Int) (rkV s L)) g _ (Nat.le_refl _)
  rw[List.take_of_length_le (Nat.le_refl _)] at hbd
  rw[hbd] at hfx
  have CF:=hid hfx
  have q2:(s.po == 2)=true:=by simp[hpo]
  clear hfx hbd hrsn hspr hpo hF h hp hr hL hok hcs hla hn24 hrs hon hwh hbb hw1 hbw1 hn hnn hcoR
  dsimp only[lyV,lyA] at CF HB1 l0 l1 l2 l3 l4 l5 l6 l7 l8 l9 l10 ⊢
  go_enter Tryz.func36,Tryz.ntmps36
  go_wp2_with (go_at_call 56;(with_reducible refine CF.out.mono ?_);rintro e w2 ⟨rfl,h2,h3⟩;have H2:=hid h2;have H3:=hid h3;clear h2 h3)
  go_ret
  exact⟨rfl,HB1.out.no.trans H2.out,fun _=>H3.out⟩
set_option maxRecDepth 100000 in
theorem right_is (s:Sys) (A:Option Addr) (n c:Nat) (A':Option Addr) (N c':Nat) (L:List (List Pc)) (w:World) (hs:RSys w A n c s) (hl:RPl w A' N L) :
  Calls Tryz.prog 19 #[sysV s A n c,.slice A' N c'] w fun e w'=>e=.returned (.bool (plR s L))∧But No w w':=by
 have hw1:But No w (w.alloc (.cells (boxS s A n c) 24)):=(But.refl No w).alloc _
 have hly:=lay_any s A n c A' N c' L _ (hs.no hw1) (hl.no hw1)
 obtain⟨b0,b1,b2,b3,b4,b5,b6,b7,b8⟩:=sys_cells (Blk.new w (boxS s A n c) 24)
 rw[lyB_is] at hly
 have CL:=hid hly
 have HB1:=hid hw1
 clear hly hs hl hw1
 cases hp:plR s L with
 | true =>
  rw[hp] at CL
  clear hp
  unfold sysV at CL ⊢
  unfold boxS at CL HB1 b0 b1 b2 b3 b4 b5 b6 b7 b8
  go_enter Tryz.func19,Tryz.ntmps19
  go_wp2_with (go_at_call 28;(with_reducible refine CL.out.mono ?_);rintro e w1 ⟨h1,v,rfl,h2,h3⟩;obtain⟨m,b,K,rfl,h4⟩:=h2 rfl;have H1:=hid h1;clear h1 h2 h3 h4)
  go_ret
  exact⟨rfl,HB1.out.trans (H1.out.alloc _)⟩
 | false =>
  rw[hp] at CL
  clear hp
  unfold sysV at CL ⊢
  unfold boxS at CL HB1 b0 b1 b2 b3 b4 b5 b6 b7 b8
  go_enter Tryz.func19,Tryz.ntmps19
  go_wp2_with (go_at_call 28;(with_reducible refine CL.out.mono ?_);rintro e w1 ⟨h1,v,rfl,h2,h3⟩;obtain rfl:=h3 rfl;unfold zeroLy;have H1:=hid h1;clear h1 h2 h3)
  go_ret
  exact⟨rfl,HB1.out.trans (H1.out.alloc _)⟩
set_option maxRecDepth 100000 in
set_option maxHeartbeats 4000000 in
theorem check_is : CheckIs:=by
 intro s A n c A' N c' L w hs hl
 have hw1:But No w (w.alloc (.cells (boxS s A n c) 24)):=(But.refl No w).alloc _
 have hly:=lay_any s A n c A' N c' L _ (hs.no hw1) (hl.no hw1)
 have hx0:=Blk.new w (boxS s A n c) 24
 rw[lyB_is] at hly
 have CL:=hid hly
 have HB1:=hid hw1
 have HX0:=hid hx0
 have HL:=hid hl
 have HSN:=hid hs.ts.len
 obtain⟨b0,b1,b2,b3,b4,b5,b6,b7,b8⟩:=sys_cells hx0
 clear hly hs hl hw1 hx0
 unfold sysV
 cases hp:plR s L with
 | false =>
  rw[hp] at CL
  have HV:Hid (chkV s L=([], -1,1)):=hid (by unfold chkV;rw[if_neg (by rw[hp];simp)])
  clear hp
  rw[HV.out]
  unfold sysV at CL
  unfold boxS at CL HB1 b0 b1 b2 b3 b4 b5 b6 b7 b8
  go_enter Tryz.func21,Tryz.ntmps21
  go_wp2_with (go_at_call 28;(with_reducible refine CL.out.mono ?_);rintro e w1 ⟨h1,v,rfl,h2,h3⟩;obtain rfl:=h3 rfl;unfold zeroLy;have H1:=hid h1;clear h1 h2 h3)
  go_ret3
  exact⟨_,rfl,HB1.out.trans (H1.out.alloc _),Ov.nil _⟩
 | true =>
  rw[hp] at CL
  obtain⟨hr,hL,hok⟩:=plR_parts hp
  obtain⟨hcs,hla,hn24,_⟩:=right_nums hr
  have hn:s.ts.length=n:=HSN.out
  obtain⟨co,hco⟩:∃ co:Nat,s.co=(co:Int):=⟨s.co.toNat,by omega⟩
  have hco2:s.co.toNat=co:=by omega
  have HFK:Hid (Fok n (lyF s L)):=hid (by rw[←hn];exact lyF_fok HL.out hL hn24)
  have HP:=hid hp
  have HCO:=hid (And.intro hco hco2)
  have HN:=hid (And.intro hn (And.intro hL hn24))
  have hco8:co≤8:=by omega
  have hn24':n≤24:=by omega
  obtain⟨i3,hi0,hz0,hz1,hz2⟩:=info_parts info3
  have I3:Hid (Tryz.prog.info? 3=some i3∧i3.zero=some (.int .i64 0)∧i3.size=1∧i3.bytes=8):=⟨hi0,hz0,hz1,hz2⟩
  clear hp hr hL hok hcs hla hn24 hn hco hco2 hi0 hz0 hz1 hz2
  unfold sysV at CL
  unfold boxS at CL HB1 HX0 b0 b1 b2 b3 b4 b5 b6 b7 b8
  go_enter Tryz.func21,Tryz.ntmps21
  go_upto_region 2 with(go_at_call 28;(with_reducible refine CL.out.mono ?_);rintro e w1 ⟨h1,v,rfl,h2,h3⟩;obtain⟨m,b,K,rfl,h4⟩:=h2 rfl;have H1:=hid h1;have H4:=hid h4;clear h1 h2 h3 h4)
  clear b0 b1 b2 b3 b4 b5 b6 b7 b8
  obtain⟨w2,hw2⟩:∃ w2,w1.alloc (.cells #[.int .i64 s.co,.int .i64 s.po,.int .i64 s.pr,.int .i64 s.re,.int .i64 s.sw,.int .i64 s.fi,.int .i64 s.la,.int .i64 s.rs,.slice A n c,.map (some m),.slice (some ⟨b,0,none⟩) n n] 66)=w2:=⟨_,rfl⟩
  have hb2:But No w1 w2:=by rw[←hw2];exact(But.refl No w1).alloc _
  have hk2:Blk w2 w1.heap.size (lyA s A n c m b) 66:=by rw[←hw2];exact Blk.new w1 _ _
  rw[hw2]
  have HB2:=hid (H1.out.trans hb2)
  have HLY:=hid (H4.out.no hb2)
  have HK:=hid hk2
  have hmw:m<w1.heap.size:=H4.out.map.lt
  have hbw:b<w1.heap.size:=H4.out.whr.lt
  have hs2:w1.heap.size<w2.heap.size:=hk2.lt
  obtain⟨b0,b1,b2,b3,b4,b5,b6,b7,b8⟩:=sys_cells (HX0.out.but HB2.out (fun f=>f))
  clear hw2 hb2 hk2
  go_upto_region 5 with(at_make;refine wpList_make_full _ rfl _ _ 39 rfl 0 3 i3 _ 1 Tryz.underlying39 I3.out.1 I3.out.2.1 I3.out.2.2.1 .i64 .i64 _ _ n rfl rfl rfl rfl (by rw[I3.out.2.2.2];omega) (by unfold maxLen;omega) (Nat.zero_le _) ?_;intro w3 hown hgrow;have hb3:=(But.refl No w2).grown hgrow (fun k e=>by cases e);have HV3:Hid (Vals w3 w2.heap.size 3 n (fun j=>.int .i64 (bdC s (rkV s L) (ceV s L) 0 j))):=hid (vals_made1 rfl hown);have HB3:=hid hb3;clear hown hgrow hb3)
  obtain⟨bb,hbb⟩:∃ bb,w2.heap.size=bb:=⟨_,rfl⟩
  rw[hbb] at HV3 hs2 ⊢
  have HBB:=hid hbb
  have HLY3:=hid (HLY.out.no HB3.out)
  have HK3:=hid (HK.out.but HB3.out (fun f=>f))
  have hw0:w.heap.size<bb:=by have h1:=HB2.out.size;rw[World.size_alloc] at h1;omega
  have HOLD:Hid ((w.alloc (.cells #[.int .i64 s.co,.int .i64 s.po,.int .i64 s.pr,.int .i64 s.re,.int .i64 s.sw,.int .i64 s.fi,.int .i64 s.la,.int .i64 s.rs,.slice A n c] 24)).heap.size≤bb):=hid (by have h1:=HB2.out.size;rw[HBB.out] at h1;exact h1)
  clear b0 b1 b2 b3 b4 b5 b6 b7 b8 hbb
  obtain⟨b0,b1,b2,b3,b4,b5,b6,b7,b8⟩:=sys_cells (HX0.out.but (HB2.out.trans HB3.out) (fun f=>f))
  rw[HCO.out.1] at b0
  go_wp2_with fail
  go_loopw [26] (fun i wr=>∃ k:Nat,i=.int .i64 (k:Int)∧k≤co∧Hid (But (Just bb) w3 wr∧Vals wr bb 3 n (fun j=>.int .i64 (bdC s (rkV s L) (ceV s L) k j))∧(erN s (rkV s L) (ceV s L) k).2=0)) (fun i _=>co-(intOf i).toNat)
  case atStart=>exact⟨0,rfl,by omega,But.refl _ _,HV3.out,rfl⟩
  case round =>
   clear b0 b1 b2 b3 b4 b5 b6 b7 b8
   obtain⟨k,rfl,hk,HI⟩:=hrel
   have hk0:(0:Int)≤(k:Int):=Int.natCast_nonneg k
   by_cases hlt:k<co
   ·have c3:decide ((k:Int)<(co:Int))=true:=by simp;omega
    obtain⟨hbr,hvr,her⟩:=HI.out
    have hkr:=HK3.out.but hbr (fun e=>by have e':w1.heap.size=bb:=e;omega)
    have hlyr:=HLY3.out.turn hbr (fun j _ e=>by rw[show j=bb from e];exact⟨HOLD.out,by omega,by omega⟩)
    have hcc:=check_core HP.out hlyr HFK.out k (by rw[HCO.out.2];exact hlt) hvr (by omega) (by omega) HOLD.out
    obtain⟨⟨l0,l1,l2,l3,l4,l5,l6,l7,l8⟩,l9,l10⟩:=ly_cells hkr
    have HER:=hid her
    have HBR:=hid hbr
    obtain⟨E,hE⟩:∃ E,erC s (rkV s L) (ceV s L) (apS (k:Int) (rkV s L)) k=E:=⟨_,rfl⟩
    rw[hE] at hcc
    have HE:=hid hE
    have HCC:=hid hcc
    clear hcc hE her hbr hvr hkr hlyr
    dsimp only[lyV,lyA] at HCC
    by_cases h0:E=0
    ·subst h0
     go_wp2_with (go_at_call 36;(with_reducible refine HCC.out.mono ?_);rintro e w4 ⟨rfl,h4,h5⟩;have H44:=hid h4;have H5:=hid (h5 rfl);clear h4 h5 l0 l1 l2 l3 l4 l5 l6 l7 l8 l9 l10)
     have HREL:Hid (But (Just bb) w3 w4∧Vals w4 bb 3 n (fun j=>.int .i64 (bdC s (rkV s L) (ceV s L) (k+1) j))∧(erN s (rkV s L) (ceV s L) (k+1)).2=0):=hid ⟨HBR.out.trans H44.out,H5.out,by rw[erN,if_neg (by rw[HER.out];simp),if_neg (by rw[HE.out];simp)]⟩
     go_roundw
     case rel=>exact⟨k+1,by go_num,by omega,HREL⟩
     case measure=>simp[intOf];omega
    ·have q0:(E != 0)=true:=by simp[h0]
     have q1:(E == 0)=false:=by simp[h0]
     have HV:Hid (chkV s L=([],(k:Int),E)):=hid (by
      have hk1:erN s (rkV s L) (ceV s L) (k+1)=((k:Int),E):=by rw[erN,if_neg (by rw[HER.out];simp),HE.out,if_pos h0]
      have hst:=erN_stay (s:=s) (R:=rkV s L) (Z:=ceV s L) (m:=k+1) (by rw[hk1];exact h0) (co-(k+1))
      rw[show k+1+(co-(k+1))=co by omega,hk1] at hst
      unfold chkV
      rw[if_pos HP.out,HCO.out.2,hst,if_pos h0])
     clear h0
     go_wp2_with (go_at_call 36;(with_reducible refine HCC.out.mono ?_);rintro e w4 ⟨rfl,h4,h5⟩;have H44:=hid h4;clear h4 h5 l0 l1 l2 l3 l4 l5 l6 l7 l8 l9 l10)
     go_ret3
     rw[HV.out]
     exact⟨_,rfl,(HB1.out.trans (HB2.out.trans HB3.out)).andThen' (HBR.out.trans H44.out) (fun j _ e=>by rw[show j=bb from e];omega),Ov.nil _⟩
   ·obtain rfl:k=co:=by omega
    have c3:decide ((k:Int)<(k:Int))=false:=by simp
    have HV:Hid (chkV s L=((List.range L.length).map (bdC s (rkV s L) (ceV s L) k), -1,0)):=hid (by unfold chkV;rw[if_pos HP.out,HCO.out.2,if_neg (by rw[HI.out.2.2];simp)])
    have HFIN:Hid (But No w wr∧Ov wr (.slice (some ⟨bb,0,none⟩) n n) ((List.range L.length).map (bdC s (rkV s L) (ceV s L) k))):=hid ⟨(HB1.out.trans (HB2.out.trans HB3.out)).andThen' HI.out.1 (fun j _ e=>by rw[show j=bb from e];omega),by
     have h9:=vals_ov HI.out.2.1 (by unfold maxLen;omega)
     rw[show L.length=n by have:=HN.out;omega];exact h9⟩
    go_wp2_with fail
    go_ret3
    rw[HV.out]
    exact⟨_,rfl,HFIN.out⟩
end Go.Proofs.YtjfaiaipojfhgaaGreat.pln
end
section
namespace Go.Proofs.YtjfaiaipojfhgaaGreat.pln
open Go.Lib (hid)
set_option linter.unusedVariables false
set_option linter.unusedSimpArgs false
open Go.ChangeShapes Go.WideShapes Go.ChangeAt Go.RowKit Go.Deep Go.Shelf val ter Go.Sort
theorem RoI.made {w w1 w2:World} {n:Nat} (hb:But No w w1) (ho:w2.ownsRow 0 39 1 (.slice (some ⟨w1.heap.size,0,none⟩) n n) n (madeCells (Value.slice none 0 0).cells (n*1)).toList) (hg:w1.grownBy w2 none):RoI w w2 (.slice (some ⟨w1.heap.size,0,none⟩) n n) (List.replicate n (.slice none 0 0)) (List.replicate n []):=by
 have e:(madeCells (Value.slice none 0 0).cells (n*1)).toList=List.replicate n (.slice none 0 0):=by rw[Nat.mul_one];exact toList_madeCells_one _ n
 rw[e] at ho
 refine⟨hb.trans ((But.refl No w1).grown hg (fun k e=>by cases e)),by rw[List.length_replicate];exact ho,fun k e=>by cases e;exact hb.size,by simp,fun r u l h1 h2=>?_,fun r u k h1 h2=>?_,fun r s u z k h1 h2 h3 h4=>?_⟩
 ·rw[List.getElem?_replicate] at h1 h2
  split at h1
  ·rw[if_pos (by assumption)] at h2
   cases h1
   cases h2
   exact⟨Ov.nil _,own_none⟩
  ·cases h1
 ·rw[List.getElem?_replicate] at h1
  split at h1
  ·cases h1;cases h2
  ·cases h1
 ·rw[List.getElem?_replicate] at h1
  split at h1
  ·cases h1;cases h3
  ·cases h1
theorem RoI.put {w wr w0:World} {g n c r:Nat} {u:Value} {vs:List Value} {Ls:List (List Int)} {l:List Int} (h:RoI w w0 (.slice (some ⟨g,0,none⟩) n c) vs Ls) (hn:vs.length=n) (hb:But No w0 wr) (hu:Ov wr u l) (hun:∀ k,u.ownBlock=some k→w0.heap.size≤k) (hr:r<n) :
  RoI w (wr.setCell ⟨g,r,none⟩ u) (.slice (some ⟨g,0,none⟩) n c) (vs.set r u) (Ls.set r l):=by
 subst hn
 have hg0:g<w0.heap.size:=(World.ownsRow.lt h.row g rfl).2
 have hg:w.heap.size≤g:=h.new g rfl
 have h1:=h.no hb
 have hst:=(h1.row.stored r u).1
 have hgu:u.ownBlock≠some g:=fun e=>by have:=hun g e;omega
 have hlt:∀ (q:Nat) (z:Value) (k:Nat),vs[q]? = some z→z.ownBlock=some k→k<w0.heap.size:=fun q z k h2 h3=>by
  obtain⟨l',hl'⟩:∃ l',Ls[q]? = some l':=⟨_,List.getElem?_eq_getElem (by rw[←h.len];exact(List.getElem?_eq_some_iff.1 h2).1)⟩
  exact(World.ownsRow.lt (h.own q z l' h2 hl').1 k h3).2
 have ne:∀ (q:Nat) (z:Value),vs[q]? = some z→z.ownBlock≠some g:=fun q z h2 h3=>h.nb q z g h2 h3 rfl
 have nth:∀ (q:Nat) (z:Value),(vs.set r u)[q]? = some z→(q=r∧z=u)∨(q≠r∧vs[q]? = some z):=fun q z h2=>by
  rw[List.getElem?_set] at h2
  by_cases e:r=q
  ·subst e
   rw[if_pos rfl,if_pos hr] at h2
   cases h2
   exact .inl ⟨rfl,rfl⟩
  ·rw[if_neg e] at h2
   exact .inr ⟨fun f=>e f.symm,h2⟩
 refine⟨h1.but.setNew hg _,by rw[List.length_set];exact hst,h.new,by rw[List.length_set,List.length_set];exact h.len,fun q z l' h2 h3=>?_,fun q z k h2 h3=>?_,fun q p z y k h2 h3 h4 h5=>?_⟩
 ·rcases nth q z h2 with⟨rfl,rfl⟩ | ⟨e,h4⟩
  ·rw[List.getElem?_set,if_pos rfl,if_pos (by rw[←h.len];exact hr)] at h3
   cases h3
   exact⟨ownsRow_setCell_other hu hgu _,fun k e=>by have:=hun k e;have:=h.but.size;omega⟩
  ·rw[List.getElem?_set,if_neg (fun f=>e f.symm)] at h3
   obtain⟨h5,h6⟩:=h1.own q z l' h4 h3
   exact⟨ownsRow_setCell_other h5 (ne q z h4) _,h6⟩
 ·rcases nth q z h2 with⟨rfl,rfl⟩ | ⟨e,h4⟩
  ·intro e;cases e;exact hgu h3
  ·exact h.nb q z k h4 h3
 ·rcases nth q z h2 with⟨rfl,rfl⟩ | ⟨e,h6⟩ <;> rcases nth p y h3 with⟨rfl,rfl⟩ | ⟨e',h7⟩
  ·rfl
  ·exfalso;have:=hun k h4;have:=hlt p y k h7 h5;omega
  ·exfalso;have:=hun k h5;have:=hlt q z k h6 h4;omega
  ·exact h.dis q p z y k h6 h7 h4 h5
theorem RoP.made {w w1 w2:World} {n:Nat} (hb:But No w w1) (ho:w2.ownsRow 0 40 1 (.slice (some ⟨w1.heap.size,0,none⟩) n n) n (madeCells (Value.slice none 0 0).cells (n*1)).toList) (hg:w1.grownBy w2 none):RoP w w2 (.slice (some ⟨w1.heap.size,0,none⟩) n n) (List.replicate n (.slice none 0 0)) (List.replicate n []):=by
 have e:(madeCells (Value.slice none 0 0).cells (n*1)).toList=List.replicate n (.slice none 0 0):=by rw[Nat.mul_one];exact toList_madeCells_one _ n
 rw[e] at ho
 refine⟨hb.trans ((But.refl No w1).grown hg (fun k e=>by cases e)),by rw[List.length_replicate];exact ho,fun k e=>by cases e;exact hb.size,by simp,fun r u l h1 h2=>?_,fun r u k h1 h2=>?_,fun r s u z k h1 h2 h3 h4=>?_⟩
 ·rw[List.getElem?_replicate] at h1 h2
  split at h1
  ·rw[if_pos (by assumption)] at h2
   cases h1
   cases h2
   exact⟨OPc.nil _,own_none⟩
  ·cases h1
 ·rw[List.getElem?_replicate] at h1
  split at h1
  ·cases h1;cases h2
  ·cases h1
 ·rw[List.getElem?_replicate] at h1
  split at h1
  ·cases h1;cases h3
  ·cases h1
theorem RoP.put {w wr w0:World} {g n c r:Nat} {u:Value} {vs:List Value} {Ls:List (List Pc)} {l:List Pc} (h:RoP w w0 (.slice (some ⟨g,0,none⟩) n c) vs Ls) (hn:vs.length=n) (hb:But No w0 wr) (hu:OPc wr u l) (hun:∀ k,u.ownBlock=some k→w0.heap.size≤k) (hr:r<n) :
  RoP w (wr.setCell ⟨g,r,none⟩ u) (.slice (some ⟨g,0,none⟩) n c) (vs.set r u) (Ls.set r l):=by
 subst hn
 have hg0:g<w0.heap.size:=(World.ownsRow.lt h.row g rfl).2
 have hg:w.heap.size≤g:=h.new g rfl
 have h1:=h.no hb
 have hst:=(h1.row.stored r u).1
 have hgu:u.ownBlock≠some g:=fun e=>by have:=hun g e;omega
 have hlt:∀ (q:Nat) (z:Value) (k:Nat),vs[q]? = some z→z.ownBlock=some k→k<w0.heap.size:=fun q z k h2 h3=>by
  obtain⟨l',hl'⟩:∃ l',Ls[q]? = some l':=⟨_,List.getElem?_eq_getElem (by rw[←h.len];exact(List.getElem?_eq_some_iff.1 h2).1)⟩
  exact(World.ownsRow.lt (h.own q z l' h2 hl').1 k h3).2
 have ne:∀ (q:Nat) (z:Value),vs[q]? = some z→z.ownBlock≠some g:=fun q z h2 h3=>h.nb q z g h2 h3 rfl
 have nth:∀ (q:Nat) (z:Value),(vs.set r u)[q]? = some z→(q=r∧z=u)∨(q≠r∧vs[q]? = some z):=fun q z h2=>by
  rw[List.getElem?_set] at h2
  by_cases e:r=q
  ·subst e
   rw[if_pos rfl,if_pos hr] at h2
   cases h2
   exact .inl ⟨rfl,rfl⟩
  ·rw[if_neg e] at h2
   exact .inr ⟨fun f=>e f.symm,h2⟩
 refine⟨h1.but.setNew hg _,by rw[List.length_set];exact hst,h.new,by rw[List.length_set,List.length_set];exact h.len,fun q z l' h2 h3=>?_,fun q z k h2 h3=>?_,fun q p z y k h2 h3 h4 h5=>?_⟩
 ·rcases nth q z h2 with⟨rfl,rfl⟩ | ⟨e,h4⟩
  ·rw[List.getElem?_set,if_pos rfl,if_pos (by rw[←h.len];exact hr)] at h3
   cases h3
   exact⟨ownsRow_setCell_other hu hgu _,fun k e=>by have:=hun k e;have:=h.but.size;omega⟩
  ·rw[List.getElem?_set,if_neg (fun f=>e f.symm)] at h3
   obtain⟨h5,h6⟩:=h1.own q z l' h4 h3
   exact⟨ownsRow_setCell_other h5 (ne q z h4) _,h6⟩
 ·rcases nth q z h2 with⟨rfl,rfl⟩ | ⟨e,h4⟩
  ·intro e;cases e;exact hgu h3
  ·exact h.nb q z k h4 h3
 ·rcases nth q z h2 with⟨rfl,rfl⟩ | ⟨e,h6⟩ <;> rcases nth p y h3 with⟨rfl,rfl⟩ | ⟨e',h7⟩
  ·rfl
  ·exfalso;have:=hun k h4;have:=hlt p y k h7 h5;omega
  ·exfalso;have:=hun k h5;have:=hlt q z k h6 h4;omega
  ·exact h.dis q p z y k h6 h7 h4 h5
def cePre (s:Sys) (L:List (List Pc)) (co k:Nat):List (List Int):=(List.range co).map (fun j=>if j<k then ceR s L j else [])
theorem cePre_zero (s:Sys) (L:List (List Pc)) (co:Nat):cePre s L co 0=List.replicate co []:=by
 unfold cePre
 apply List.ext_getElem?
 intro j
 rw[List.getElem?_replicate,List.getElem?_map]
 by_cases h:j<co
 ·simp[h]
 ·simp[h]
theorem cePre_next (s:Sys) (L:List (List Pc)) {co k:Nat} (h:k<co):(cePre s L co k).set k (ceR s L k)=cePre s L co (k+1):=by
 unfold cePre
 apply List.ext_getElem?
 intro j
 rw[List.getElem?_set,List.getElem?_map,List.getElem?_map]
 by_cases hj:j<co
 ·by_cases e:k=j
  ·subst e;simp[hj]
  ·rw[if_neg e,List.getElem?_range hj]
   show some (if j<k then ceR s L j else [])=some (if j<k+1 then ceR s L j else [])
   by_cases h2:j<k
   ·rw[if_pos h2,if_pos (by omega)]
   ·rw[if_neg h2,if_neg (by omega)]
 ·have h2:(List.range co)[j]? = none:=by simp;omega
  rw[h2,if_neg (by omega)]
  rfl
theorem cePre_all (s:Sys) (L:List (List Pc)) {co:Nat} (h:s.co.toNat=co):cePre s L co co=ceV s L:=by
 unfold cePre ceV
 rw[h]
 exact List.map_congr_left (fun j hj=>by rw[if_pos (List.mem_range.1 hj)])
set_option maxRecDepth 100000 in
set_option maxHeartbeats 4000000 in
theorem ceil_top (s:Sys) (A:Option Addr) (n c:Nat) (A':Option Addr) (N c':Nat) (L:List (List Pc)) (w:World) (hs:RSys w A n c s) (hl:RPl w A' N L) :
  Calls Tryz.prog 14 #[sysV s A n c,.slice A' N c'] w fun e w' =>
   (plR s L=false∧e=.returned (.tuple #[.slice none 0 0,.int .i64 1])∧But No w w')∨(plR s L=true∧∃ v vs,e=.returned (.tuple #[v,.int .i64 0])∧RoI w w' v vs (ceV s L)):=by
 have hw1:But No w (w.alloc (.cells (boxS s A n c) 24)):=(But.refl No w).alloc _
 have hly:=lay_any s A n c A' N c' L _ (hs.no hw1) (hl.no hw1)
 have hx0:=Blk.new w (boxS s A n c) 24
 rw[lyB_is] at hly
 have CL:=hid hly
 have HB1:=hid hw1
 have HX0:=hid hx0
 have HL:=hid hl
 have HSN:=hid hs.ts.len
 obtain⟨b0,b1,b2,b3,b4,b5,b6,b7,b8⟩:=sys_cells hx0
 clear hly hs hl hw1 hx0
 unfold sysV
 cases hp:plR s L with
 | false =>
  rw[hp] at CL
  clear hp
  unfold sysV at CL
  unfold boxS at CL HB1 b0 b1 b2 b3 b4 b5 b6 b7 b8
  go_enter Tryz.func14,Tryz.ntmps14
  go_wp2_with (go_at_call 28;(with_reducible refine CL.out.mono ?_);rintro e w1 ⟨h1,v,rfl,h2,h3⟩;obtain rfl:=h3 rfl;unfold zeroLy;have H1:=hid h1;clear h1 h2 h3)
  go_ret2
  exact .inl ⟨trivial,rfl,HB1.out.trans (H1.out.alloc _)⟩
 | true =>
  rw[hp] at CL
  obtain⟨hr,hL,hok⟩:=plR_parts hp
  obtain⟨hcs,hla,hn24,_⟩:=right_nums hr
  obtain⟨hspr,hspo,hrs⟩:=right_pr hr
  have hn:s.ts.length=n:=HSN.out
  obtain⟨co,hco⟩:∃ co:Nat,s.co=(co:Int):=⟨s.co.toNat,by omega⟩
  have hco2:s.co.toNat=co:=by omega
  obtain⟨rs,hrsn⟩:∃ rs:Nat,s.rs=(rs:Int):=⟨s.rs.toNat,by omega⟩
  have hrs8:rs≤8:=by omega
  have HFK:Hid (Fok n (lyF s L)):=hid (by rw[←hn];exact lyF_fok HL.out hL hn24)
  have HP:=hid hp
  have HR:=hid hr
  have HCO:=hid (And.intro hco hco2)
  have HRS:=hid (And.intro hrsn hrs8)
  have HN:=hid (And.intro hn (And.intro hL hn24))
  have hco8:co≤8:=by omega
  have hn24':n≤24:=by omega
  obtain⟨i3,hi0,hz0,hz1,hz2⟩:=info_parts infoII
  have I3:Hid (Tryz.prog.info? 39=some i3∧i3.zero=some (.slice none 0 0)∧i3.size=1∧i3.bytes=24):=⟨hi0,hz0,hz1,hz2⟩
  clear hp hr hL hok hcs hla hn24 hn hco hco2 hi0 hz0 hz1 hz2 hrsn hrs8 hspr hspo hrs
  unfold sysV at CL
  unfold boxS at CL HB1 HX0 b0 b1 b2 b3 b4 b5 b6 b7 b8
  go_enter Tryz.func14,Tryz.ntmps14
  go_upto_region 2 with(go_at_call 28;(with_reducible refine CL.out.mono ?_);rintro e w1 ⟨h1,v,rfl,h2,h3⟩;obtain⟨m,b,K,rfl,h4⟩:=h2 rfl;have H1:=hid h1;have H4:=hid h4;clear h1 h2 h3 h4)
  clear b0 b1 b2 b3 b4 b5 b6 b7 b8
  obtain⟨w2,hw2⟩:∃ w2,w1.alloc (.cells #[.int .i64 s.co,.int .i64 s.po,.int .i64 s.pr,.int .i64 s.re,.int .i64 s.sw,.int .i64 s.fi,.int .i64 s.la,.int .i64 s.rs,.slice A n c,.map (some m),.slice (some ⟨b,0,none⟩) n n] 66)=w2:=⟨_,rfl⟩
  have hb2:But No w1 w2:=by rw[←hw2];exact(But.refl No w1).alloc _
  have hk2:Blk w2 w1.heap.size (lyA s A n c m b) 66:=by rw[←hw2];exact Blk.new w1 _ _
  rw[hw2]
  have HB2:=hid (H1.out.trans hb2)
  have HLY:=hid (H4.out.no hb2)
  have HK:=hid hk2
  have hmw:m<w1.heap.size:=H4.out.map.lt
  have hbw:b<w1.heap.size:=H4.out.whr.lt
  have hs2:w1.heap.size<w2.heap.size:=hk2.lt
  obtain⟨b0,b1,b2,b3,b4,b5,b6,b7,b8⟩:=sys_cells (HX0.out.but HB2.out (fun f=>f))
  rw[HCO.out.1] at b0
  clear hw2 hb2 hk2
  go_upto_region 5 with(at_make;refine wpList_make_full _ rfl _ _ 29 rfl 0 39 i3 _ 1 Tryz.underlying29 I3.out.1 I3.out.2.1 I3.out.2.2.1 .i64 .i64 _ _ co rfl rfl rfl rfl (by rw[I3.out.2.2.2];omega) (by unfold maxLen;omega) (Nat.zero_le _) ?_;intro w3 hown hgrow;have HB3:=hid ((But.refl No w2).grown hgrow (fun k e=>by cases e));have HV3:=hid (RoI.made (HB1.out.trans HB2.out) hown hgrow);clear hown hgrow)
  obtain⟨g,hg⟩:∃ g,w2.heap.size=g:=⟨_,rfl⟩
  rw[hg] at HV3 hs2 ⊢
  have HBB:=hid hg
  have HLY3:=hid (HLY.out.no HB3.out)
  have HK3:=hid (HK.out.but HB3.out (fun f=>f))
  have HOLD:Hid ((w.alloc (.cells #[.int .i64 s.co,.int .i64 s.po,.int .i64 s.pr,.int .i64 s.re,.int .i64 s.sw,.int .i64 s.fi,.int .i64 s.la,.int .i64 s.rs,.slice A n c] 24)).heap.size≤g):=hid (by have h1:=HB2.out.size;rw[HBB.out] at h1;exact h1)
  clear b0 b1 b2 b3 b4 b5 b6 b7 b8 hg
  go_wp2_with fail
  go_loopw [23] (fun i wr=>∃ k:Nat,i=.int .i64 (k:Int)∧k≤co∧Hid (But (Just g) w3 wr∧∃ vs,vs.length=co∧RoI w wr (.slice (some ⟨g,0,none⟩) co co) vs (cePre s L co k))) (fun i _=>co-(intOf i).toNat)
  case atStart=>exact⟨0,rfl,by omega,But.refl _ _,List.replicate co (.slice none 0 0),List.length_replicate,by rw[cePre_zero];exact HV3.out⟩
  case round =>
   obtain⟨k,rfl,hk,HI⟩:=hrel
   have hk0:(0:Int)≤(k:Int):=Int.natCast_nonneg k
   by_cases hlt:k<co
   ·have c3:decide ((k:Int)<(co:Int))=true:=by simp;omega
    have c4:(k:Int)<(co:Int):=by omega
    obtain⟨hbr,vs,hvl,hro⟩:=HI.out
    have hkr:=HK3.out.but hbr (fun e=>by have e':w1.heap.size=g:=e;omega)
    have hlyr:=HLY3.out.turn hbr (fun j _ e=>by rw[show j=g from e];exact⟨HOLD.out,by omega,by omega⟩)
    have hcc:=ceil_any hlyr HFK.out HR.out hn24' (k:Int) (by unfold inR;omega) HRS.out.1 HRS.out.2
    have hon:onN (lyF s L) (k:Int) n=(apS (k:Int) (rkV s L)).map (ptOf s L):=by rw[←HN.out.1];exact ly_on HP.out (by rw[HCO.out.2];exact hlt)
    rw[hon,ce_core HP.out] at hcc
    have HCR:Hid (ceR s L k=(List.range rs).map (ceN s L (k:Int) L.length)):=hid (by unfold ceR;rw[HRS.out.1];rfl)
    generalize ceN s L (k:Int) L.length=ff at hcc HCR
    obtain⟨⟨l0,l1,l2,l3,l4,l5,l6,l7,l8⟩,l9,l10⟩:=ly_cells hkr
    have HBR:=hid hbr
    have HRO:=hid (And.intro hvl hro)
    have HCC:=hid hcc
    clear hcc hon hbr hkr hlyr hvl hro
    dsimp only[lyV,lyA] at HCC
    have HPUT:Hid (∀ w4 q,CE wr w4 q rs ff→w4.frozen? ⟨g,k,none⟩=false∧(∃ u,w4.cell? ⟨g,k,none⟩=some u)∧(But (Just g) w3 (w4.setCell ⟨g,k,none⟩ (.slice (some ⟨q,0,none⟩) rs rs))∧∃ vs,vs.length=co∧RoI w (w4.setCell ⟨g,k,none⟩ (.slice (some ⟨q,0,none⟩) rs rs)) (.slice (some ⟨g,0,none⟩) co co) vs (cePre s L co (k+1)))):=hid (fun w4 q hc=>by
     have h4:=HRO.out.2.no hc.but
     have hrow:w4.ownsRow 0 39 1 (.slice (some ⟨g,0,none⟩) co co) co vs:=by have:=h4.row;rw[HRO.out.1] at this;exact this
     refine⟨hrow.frozenAt k,?_,(HBR.out.trans hc.but.no).setCell (p:=⟨g,k,none⟩) rfl _,vs.set k (.slice (some ⟨q,0,none⟩) rs rs),by rw[List.length_set];exact HRO.out.1,?_⟩
     ·have hl:k<vs.length:=by rw[HRO.out.1];exact hlt
      have:=hrow.cells (g:=g) rfl k vs[k] (List.getElem?_eq_getElem hl)
      rw[add_plain,Nat.zero_add] at this
      exact⟨_,this⟩
     ·rw[←cePre_next s L hlt,HCR.out]
      exact HRO.out.2.put HRO.out.1 hc.but (vals_ov hc.v (by unfold maxLen;have:=HRS.out.2;omega)) (fun j e=>by cases e;exact hc.h) hlt)
    go_wp2_with (go_at_call 31;(with_reducible refine HCC.out.mono ?_);rintro e w4 ⟨q,rfl,h4⟩;obtain⟨hfz,⟨u4,hu4⟩,hput⟩:=HPUT.out w4 q h4;have HP4:=hid hput;clear hput h4)
    go_roundw
    case rel=>exact⟨k+1,by go_num,by omega,HP4⟩
    case measure=>simp[intOf];omega
   ·obtain rfl:k=co:=by omega
    have c3:decide ((k:Int)<(k:Int))=false:=by simp
    go_wp2_with fail
    go_ret2
    obtain⟨_,vs,_,hro⟩:=HI.out
    rw[cePre_all s L HCO.out.2] at hro
    exact .inr ⟨trivial,_,vs,rfl,hro⟩
end Go.Proofs.YtjfaiaipojfhgaaGreat.pln
end
