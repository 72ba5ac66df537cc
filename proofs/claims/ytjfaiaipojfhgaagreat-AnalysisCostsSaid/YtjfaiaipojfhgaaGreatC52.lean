/- Part 52 of a proof: PaW PaX. -/
import Derived.Test.YtjfaiaipojfhgaaGreatC28
import Derived.Test.YtjfaiaipojfhgaaGreatC51
section
namespace Go.Proofs.YtjfaiaipojfhgaaGreat.pln
open Go.Lib (hid)
set_option linter.unusedVariables false
set_option linter.unusedSimpArgs false
open Go.ChangeShapes Go.WideShapes Go.ChangeAt Go.RowKit Go.Deep Go.Shelf val ter Go.Sort
theorem lyF_fok {s:Sys} {L:List (List Pc)} {w:World} {A':Option Addr} {N:Nat} (hl:RPl w A' N L) (hL:L.length=s.ts.length) (hn:s.ts.length≤24):Fok s.ts.length (lyF s L):=by
 have h0:Fok s.ts.length (mpF (vis (wrp (s.la-1)) L)):=mpF_fok (fun x hx=>by
  obtain⟨i,l,k,y,h1,h2,rfl⟩:=vis_mem hx
  obtain⟨_,_,A4,c4,_,_,_,_,hp⟩:=hl.at1 h1
  obtain⟨g1,g2,g3,_⟩:=hp.fit y (List.mem_of_getElem? h2)
  exact⟨by show i<_;have:=(List.getElem?_eq_some_iff.1 h1).1;omega,g1,g2,g3⟩)
 unfold lyF
 split
 ·exact rkM_fok h0 hn _
 ·exact h0
theorem pt_bounds {s:Sys} {L:List (List Pc)} (h:plR s L=true) {c:Nat} {y:Ap} (hy:y ∈ apS (c:Int) (rkV s L)):(0≤(ptOf s L y).p.bu∧(ptOf s L y).p.bu≤1099511627776)∧(0≤(ptOf s L y).dn∧(ptOf s L y).dn≤1125899906842624)∧(0≤(ptOf s L y).ji∧(ptOf s L y).ji≤1125899906842624):=by
 obtain⟨hr,hL,hok⟩:=plR_parts h
 obtain⟨rl,h1,h2,h3⟩:=apS_mem hy
 have hi:y.i<L.length:=by have:=(List.getElem?_eq_some_iff.1 h1).1;rw[rkV_len] at this;exact this
 obtain⟨l,hl⟩:∃ l,L[y.i]? = some l:=⟨_,List.getElem?_eq_getElem hi⟩
 rw[rkV_at hl] at h1
 cases h1
 obtain⟨x,hx,hp⟩:=rkL_at h2
 have hkl:y.k<l.length:=(List.getElem?_eq_some_iff.1 hx).1
 obtain⟨hw,_⟩:=tsk_nums hr hL hl
 have hoL:=okS_at hok hl
 obtain⟨⟨g0,_,g3,g4,g5⟩,_⟩:=okL_rg hoL hw.1 hx
 obtain⟨_,d1,d2⟩:=okL_dn hoL hw (Nat.le_of_lt hkl)
 have hla:=(right_nums hr).2.1
 have hkz:=small_k g0 (show 0≤s.la-1∧s.la-1≤49 by omega)
 have e1:(ptOf s L y).p.bu=x.bu:=by show y.p.bu=_;rw[hp];rfl
 have e2:(ptOf s L y).dn=smN l y.k:=by show smN (L.getD y.i []) y.k=_;rw[getL hl]
 have e3:(ptOf s L y).ji=(y.k:Int)*(s.la-1):=rfl
 rw[e1,e2,e3]
 refine⟨⟨by omega,?_⟩,⟨by omega,by omega⟩,by omega,by omega⟩
 cases ht:x.ti with
 | true=>have:=g4 ht;omega
 | false=>have:=g5 ht;omega
theorem erN_stay {s:Sys} {R:List (List Pc)} {Z:List (List Int)} {m:Nat} (h:(erN s R Z m).2≠0):∀ d,erN s R Z (m+d)=erN s R Z m
 | 0=>rfl
 | d+1=>by
  have ih:=erN_stay h d
  rw[←Nat.add_assoc,erN,ih,if_pos h]
theorem er_edf {s:Sys} {L:List (List Pc)} (h:plR s L=true) {c:Nat} (hc:c<s.co.toNat) (hpo:s.po=2) :
  dem.testV (((apS (c:Int) (rkV s L)).map (ptOf s L)).map (wkP s (L.map whO))) (blH s 0 (hoF s (L.map whO) (ceF s ((apS (c:Int) (rkV s L)).map (ptOf s L))) ((apS (c:Int) (rkV s L)).map (ptOf s L)))) s.re=erC s (rkV s L) (ceV s L) (apS (c:Int) (rkV s L)) c:=by
 obtain⟨hr,hL,hok⟩:=plR_parts h
 obtain⟨hre,hsw,hfi⟩:=right_costs hr
 have hb:=blk_is h hc (pr:=0) (.inr rfl)
 have h0:heN s 0 ((apS (c:Int) (rkV s L)).map (ptOf s L)) ((apS (c:Int) (rkV s L)).map (ptOf s L)).length=0:=he_low (fun x hx=>by
  obtain⟨y,hy,rfl⟩:=List.mem_map.1 hx
  obtain⟨rl,h1,h2,h3⟩:=apS_mem hy
  have hi:y.i<L.length:=by have:=(List.getElem?_eq_some_iff.1 h1).1;rw[rkV_len] at this;exact this
  obtain⟨l,hl⟩:∃ l,L[y.i]? = some l:=⟨_,List.getElem?_eq_getElem hi⟩
  rw[rkV_at hl] at h1
  cases h1
  obtain⟨x,hx,hp⟩:=rkL_at h2
  show y.p.pr≤0
  rw[hp,rk0 (by omega)];exact Int.le_refl _) _ (Nat.le_refl _)
 rw[h0,Int.add_zero] at hb
 unfold erC
 rw[erJ_edf hpo]
 by_cases hA:apS (c:Int) (rkV s L) = []
 ·rw[if_neg (fun e=>e.2.1 hA),hA]
  exact test_nil (by show 0≤(0:Int)+2*(s.fi+s.sw)∧(0:Int)+2*(s.fi+s.sw)≤_;omega) (by omega)
 ·rw[hb,wk_is h c]
  have e:dem.testV ((apS (c:Int) (rkV s L)).map (wkOf s (rkV s L))) (blkV s (rkV s L) (ceV s L) c 0) s.re=edfV s (rkV s L) (ceV s L) (apS (c:Int) (rkV s L)) c:=rfl
  rw[e]
  by_cases h9:edfV s (rkV s L) (ceV s L) (apS (c:Int) (rkV s L)) c=0
  ·rw[if_neg (fun e=>e.2.2 h9),h9]
  ·rw[if_pos ⟨hpo,hA,h9⟩]
set_option maxRecDepth 100000 in
set_option maxHeartbeats 4000000 in
theorem check_core {w0 w:World} {s:Sys} {L:List (List Pc)} {A:Option Addr} {n c m b K:Nat} (hp:plR s L=true) (h:LY w0 w s A n c m b K (lyF s L) (lyW s L)) (hF:Fok n (lyF s L)) (co:Nat) (hco:co<s.co.toNat) {bb:Nat} {g:Nat→Int} (hbb:Vals w bb 3 n (fun j=>.int .i64 (g j))) (hbm:bb≠m) (hbw:bb≠b) (hb0:w0.heap.size≤bb) :
  Calls Tryz.prog 36 #[lyV s A n c m b,.int .i64 (co:Int),.slice (some ⟨bb,0,none⟩) n n] w fun e w'=>e=.returned (.int .i64 (erC s (rkV s L) (ceV s L) (apS (co:Int) (rkV s L)) co))∧But (Just bb) w w'∧(erC s (rkV s L) (ceV s L) (apS (co:Int) (rkV s L)) co=0→Vals w' bb 3 n (fun j=>.int .i64 (bdJ s (rkV s L) (ceV s L) (apS (co:Int) (rkV s L)) co g (apS (co:Int) (rkV s L)).length j))):=by
 obtain⟨hr,hL,hok⟩:=plR_parts hp
 obtain⟨hcs,hla,hn24,_⟩:=right_nums hr
 obtain⟨hspr,hspo,hrs⟩:=right_pr hr
 have hn:s.ts.length=n:=h.len
 have hnn:n≤24:=by omega
 have hcoR:inR (co:Int):=by unfold inR;omega
 have hon:onN (lyF s L) (co:Int) n=(apS (co:Int) (rkV s L)).map (ptOf s L):=by rw[←hn];exact ly_on hp hco
 have hwh:(List.range n).map (lyW s L)=L.map whO:=by rw[←hn];exact lyW_is hL
 have hw1:But No w (w.alloc (.cells (lyA s A n c m b) 66)):=(But.refl No w).alloc _
 have hbw1:Blk (w.alloc (.cells (lyA s A n c m b) 66)) w.heap.size (lyA s A n c m b) 66:=Blk.new w _ _
 have HB1:=hid hw1
 obtain⟨rs,hrsn⟩:∃ rs:Nat,s.rs=(rs:Int):=⟨s.rs.toNat,by omega⟩
 obtain⟨⟨l0,l1,l2,l3,l4,l5,l6,l7,l8⟩,l9,l10⟩:=ly_cells hbw1
 rcases hspo with hpo | hpo
 ·have hfx:=fixed_any (h.no hw1) hF hr hnn (co:Int) hcoR hrsn (by omega) (fun x hx=>by
   rw[hon] at hx
   obtain⟨y,hy,rfl⟩:=List.mem_map.1 hx
   exact pt_bounds hp hy) (hbb.but hw1 (fun f=>f)) hbm hbw hb0
  rw[hon,hwh] at hfx
  have hlen:((apS (co:Int) (rkV s L)).map (ptOf s L)).length=(apS (co:Int) (rkV s L)).length:=List.length_map ..
  rw[hlen,fxE_is hp hco hpo _ (Nat.le_refl _),fxB_is hp hco hpo g _ (Nat.le_refl _)] at hfx
  have he:erC s (rkV s L) (ceV s L) (apS (co:Int) (rkV s L)) co=erJ s (rkV s L) (ceV s L) (apS (co:Int) (rkV s L)) co (apS (co:Int) (rkV s L)).length:=by unfold erC;rw[if_neg (by omega)]
  rw[←he] at hfx
  have CF:=hid hfx
  have q2:(s.po == 2)=false:=by simp;omega
  clear hfx he hlen hrsn hspr hpo hF h hp hr hL hok hcs hla hn24 hrs hon hwh hbb hw1 hbw1 hn hnn hcoR
  dsimp only[lyV,lyA] at CF HB1 l0 l1 l2 l3 l4 l5 l6 l7 l8 l9 l10 ⊢
  go_enter Tryz.func36,Tryz.ntmps36
  go_wp2_with (go_at_call 57;(with_reducible refine CF.out.mono ?_);rintro e w2 ⟨rfl,h2,h3⟩;have H2:=hid h2;have H3:=hid h3;clear h2 h3)
  go_ret
  exact⟨rfl,HB1.out.no.trans H2.out,H3.out⟩
 ·have hfx:=edf_any (h.no hw1) hF hr hnn (co:Int) hcoR hrsn (by omega) (fun x hx=>by
   rw[hon] at hx
   obtain⟨y,hy,rfl⟩:=List.mem_map.1 hx
   exact(pt_bounds hp hy).1) (hbb.but hw1 (fun f=>f)) hbm hbw hb0
  rw[hon,hwh,er_edf hp hco hpo] at hfx
  have hbd:=bdE_is (L:=L) hpo (Z:=ceV s L) (R:=rkV s L) (c:=co) (apS (co:Int) (rkV s L)) g _ (Nat.le_refl _)
  rw[List.take_of_length_le (Nat.le_refl _)] at hbd
  rw[hbd] at hfx
  have CF:=hid hfx
  have q2:(s.po == 2)=true:=by simp[hpo]
  clear hfx hbd hrsn hspr hpo hF h hp hr hL hok hcs hla hn24 hrs hon hwh hbb hw1 hbw1 hn hnn hcoR
  dsimp only[lyV,lyA] at CF HB1 l0 l1 l2 l3 l4 l5 l6 l7 l8 l9 l10 ⊢
  go_enter Tryz.func36,Tryz.ntmps36
  go_wp2_with (go_at_call 56;(with_reducible refine CF.out.mono ?_);rintro e w2 ⟨rfl,h2,h3⟩;have H2:=hid h2;have H3:=hid h3;clear h2 h3)
  go_ret
  exact⟨rfl,HB1.out.no.trans H2.out,fun _=>H3.out⟩
set_option maxRecDepth 100000 in
theorem right_is (s:Sys) (A:Option Addr) (n c:Nat) (A':Option Addr) (N c':Nat) (L:List (List Pc)) (w:World) (hs:RSys w A n c s) (hl:RPl w A' N L) :
  Calls Tryz.prog 19 #[sysV s A n c,.slice A' N c'] w fun e w'=>e=.returned (.bool (plR s L))∧But No w w':=by
 have hw1:But No w (w.alloc (.cells (boxS s A n c) 24)):=(But.refl No w).alloc _
 have hly:=lay_any s A n c A' N c' L _ (hs.no hw1) (hl.no hw1)
 obtain⟨b0,b1,b2,b3,b4,b5,b6,b7,b8⟩:=sys_cells (Blk.new w (boxS s A n c) 24)
 rw[lyB_is] at hly
 have CL:=hid hly
 have HB1:=hid hw1
 clear hly hs hl hw1
 cases hp:plR s L with
 | true =>
  rw[hp] at CL
  clear hp
  unfold sysV at CL ⊢
  unfold boxS at CL HB1 b0 b1 b2 b3 b4 b5 b6 b7 b8
  go_enter Tryz.func19,Tryz.ntmps19
  go_wp2_with (go_at_call 28;(with_reducible refine CL.out.mono ?_);rintro e w1 ⟨h1,v,rfl,h2,h3⟩;obtain⟨m,b,K,rfl,h4⟩:=h2 rfl;have H1:=hid h1;clear h1 h2 h3 h4)
  go_ret
  exact⟨rfl,HB1.out.trans (H1.out.alloc _)⟩
 | false =>
  rw[hp] at CL
  clear hp
  unfold sysV at CL ⊢
  unfold boxS at CL HB1 b0 b1 b2 b3 b4 b5 b6 b7 b8
  go_enter Tryz.func19,Tryz.ntmps19
  go_wp2_with (go_at_call 28;(with_reducible refine CL.out.mono ?_);rintro e w1 ⟨h1,v,rfl,h2,h3⟩;obtain rfl:=h3 rfl;unfold zeroLy;have H1:=hid h1;clear h1 h2 h3)
  go_ret
  exact⟨rfl,HB1.out.trans (H1.out.alloc _)⟩
set_option maxRecDepth 100000 in
set_option maxHeartbeats 4000000 in
theorem check_is : CheckIs:=by
 intro s A n c A' N c' L w hs hl
 have hw1:But No w (w.alloc (.cells (boxS s A n c) 24)):=(But.refl No w).alloc _
 have hly:=lay_any s A n c A' N c' L _ (hs.no hw1) (hl.no hw1)
 have hx0:=Blk.new w (boxS s A n c) 24
 rw[lyB_is] at hly
 have CL:=hid hly
 have HB1:=hid hw1
 have HX0:=hid hx0
 have HL:=hid hl
 have HSN:=hid hs.ts.len
 obtain⟨b0,b1,b2,b3,b4,b5,b6,b7,b8⟩:=sys_cells hx0
 clear hly hs hl hw1 hx0
 unfold sysV
 cases hp:plR s L with
 | false =>
  rw[hp] at CL
  have HV:Hid (chkV s L=([], -1,1)):=hid (by unfold chkV;rw[if_neg (by rw[hp];simp)])
  clear hp
  rw[HV.out]
  unfold sysV at CL
  unfold boxS at CL HB1 b0 b1 b2 b3 b4 b5 b6 b7 b8
  go_enter Tryz.func21,Tryz.ntmps21
  go_wp2_with (go_at_call 28;(with_reducible refine CL.out.mono ?_);rintro e w1 ⟨h1,v,rfl,h2,h3⟩;obtain rfl:=h3 rfl;unfold zeroLy;have H1:=hid h1;clear h1 h2 h3)
  go_ret3
  exact⟨_,rfl,HB1.out.trans (H1.out.alloc _),Ov.nil _⟩
 | true =>
  rw[hp] at CL
  obtain⟨hr,hL,hok⟩:=plR_parts hp
  obtain⟨hcs,hla,hn24,_⟩:=right_nums hr
  have hn:s.ts.length=n:=HSN.out
  obtain⟨co,hco⟩:∃ co:Nat,s.co=(co:Int):=⟨s.co.toNat,by omega⟩
  have hco2:s.co.toNat=co:=by omega
  have HFK:Hid (Fok n (lyF s L)):=hid (by rw[←hn];exact lyF_fok HL.out hL hn24)
  have HP:=hid hp
  have HCO:=hid (And.intro hco hco2)
  have HN:=hid (And.intro hn (And.intro hL hn24))
  have hco8:co≤8:=by omega
  have hn24':n≤24:=by omega
  obtain⟨i3,hi0,hz0,hz1,hz2⟩:=info_parts info3
  have I3:Hid (Tryz.prog.info? 3=some i3∧i3.zero=some (.int .i64 0)∧i3.size=1∧i3.bytes=8):=⟨hi0,hz0,hz1,hz2⟩
  clear hp hr hL hok hcs hla hn24 hn hco hco2 hi0 hz0 hz1 hz2
  unfold sysV at CL
  unfold boxS at CL HB1 HX0 b0 b1 b2 b3 b4 b5 b6 b7 b8
  go_enter Tryz.func21,Tryz.ntmps21
  go_upto_region 2 with(go_at_call 28;(with_reducible refine CL.out.mono ?_);rintro e w1 ⟨h1,v,rfl,h2,h3⟩;obtain⟨m,b,K,rfl,h4⟩:=h2 rfl;have H1:=hid h1;have H4:=hid h4;clear h1 h2 h3 h4)
  clear b0 b1 b2 b3 b4 b5 b6 b7 b8
  obtain⟨w2,hw2⟩:∃ w2,w1.alloc (.cells #[.int .i64 s.co,.int .i64 s.po,.int .i64 s.pr,.int .i64 s.re,.int .i64 s.sw,.int .i64 s.fi,.int .i64 s.la,.int .i64 s.rs,.slice A n c,.map (some m),.slice (some ⟨b,0,none⟩) n n] 66)=w2:=⟨_,rfl⟩
  have hb2:But No w1 w2:=by rw[←hw2];exact(But.refl No w1).alloc _
  have hk2:Blk w2 w1.heap.size (lyA s A n c m b) 66:=by rw[←hw2];exact Blk.new w1 _ _
  rw[hw2]
  have HB2:=hid (H1.out.trans hb2)
  have HLY:=hid (H4.out.no hb2)
  have HK:=hid hk2
  have hmw:m<w1.heap.size:=H4.out.map.lt
  have hbw:b<w1.heap.size:=H4.out.whr.lt
  have hs2:w1.heap.size<w2.heap.size:=hk2.lt
  obtain⟨b0,b1,b2,b3,b4,b5,b6,b7,b8⟩:=sys_cells (HX0.out.but HB2.out (fun f=>f))
  clear hw2 hb2 hk2
  go_upto_region 5 with(at_make;refine wpList_make_full _ rfl _ _ 39 rfl 0 3 i3 _ 1 Tryz.underlying39 I3.out.1 I3.out.2.1 I3.out.2.2.1 .i64 .i64 _ _ n rfl rfl rfl rfl (by rw[I3.out.2.2.2];omega) (by unfold maxLen;omega) (Nat.zero_le _) ?_;intro w3 hown hgrow;have hb3:=(But.refl No w2).grown hgrow (fun k e=>by cases e);have HV3:Hid (Vals w3 w2.heap.size 3 n (fun j=>.int .i64 (bdC s (rkV s L) (ceV s L) 0 j))):=hid (vals_made1 rfl hown);have HB3:=hid hb3;clear hown hgrow hb3)
  obtain⟨bb,hbb⟩:∃ bb,w2.heap.size=bb:=⟨_,rfl⟩
  rw[hbb] at HV3 hs2 ⊢
  have HBB:=hid hbb
  have HLY3:=hid (HLY.out.no HB3.out)
  have HK3:=hid (HK.out.but HB3.out (fun f=>f))
  have hw0:w.heap.size<bb:=by have h1:=HB2.out.size;rw[World.size_alloc] at h1;omega
  have HOLD:Hid ((w.alloc (.cells #[.int .i64 s.co,.int .i64 s.po,.int .i64 s.pr,.int .i64 s.re,.int .i64 s.sw,.int .i64 s.fi,.int .i64 s.la,.int .i64 s.rs,.slice A n c] 24)).heap.size≤bb):=hid (by have h1:=HB2.out.size;rw[HBB.out] at h1;exact h1)
  clear b0 b1 b2 b3 b4 b5 b6 b7 b8 hbb
  obtain⟨b0,b1,b2,b3,b4,b5,b6,b7,b8⟩:=sys_cells (HX0.out.but (HB2.out.trans HB3.out) (fun f=>f))
  rw[HCO.out.1] at b0
  go_wp2_with fail
  go_loopw [26] (fun i wr=>∃ k:Nat,i=.int .i64 (k:Int)∧k≤co∧Hid (But (Just bb) w3 wr∧Vals wr bb 3 n (fun j=>.int .i64 (bdC s (rkV s L) (ceV s L) k j))∧(erN s (rkV s L) (ceV s L) k).2=0)) (fun i _=>co-(intOf i).toNat)
  case atStart=>exact⟨0,rfl,by omega,But.refl _ _,HV3.out,rfl⟩
  case round =>
   clear b0 b1 b2 b3 b4 b5 b6 b7 b8
   obtain⟨k,rfl,hk,HI⟩:=hrel
   have hk0:(0:Int)≤(k:Int):=Int.natCast_nonneg k
   by_cases hlt:k<co
   ·have c3:decide ((k:Int)<(co:Int))=true:=by simp;omega
    obtain⟨hbr,hvr,her⟩:=HI.out
    have hkr:=HK3.out.but hbr (fun e=>by have e':w1.heap.size=bb:=e;omega)
    have hlyr:=HLY3.out.turn hbr (fun j _ e=>by rw[show j=bb from e];exact⟨HOLD.out,by omega,by omega⟩)
    have hcc:=check_core HP.out hlyr HFK.out k (by rw[HCO.out.2];exact hlt) hvr (by omega) (by omega) HOLD.out
    obtain⟨⟨l0,l1,l2,l3,l4,l5,l6,l7,l8⟩,l9,l10⟩:=ly_cells hkr
    have HER:=hid her
    have HBR:=hid hbr
    obtain⟨E,hE⟩:∃ E,erC s (rkV s L) (ceV s L) (apS (k:Int) (rkV s L)) k=E:=⟨_,rfl⟩
    rw[hE] at hcc
    have HE:=hid hE
    have HCC:=hid hcc
    clear hcc hE her hbr hvr hkr hlyr
    dsimp only[lyV,lyA] at HCC
    by_cases h0:E=0
    ·subst h0
     go_wp2_with (go_at_call 36;(with_reducible refine HCC.out.mono ?_);rintro e w4 ⟨rfl,h4,h5⟩;have H44:=hid h4;have H5:=hid (h5 rfl);clear h4 h5 l0 l1 l2 l3 l4 l5 l6 l7 l8 l9 l10)
     have HREL:Hid (But (Just bb) w3 w4∧Vals w4 bb 3 n (fun j=>.int .i64 (bdC s (rkV s L) (ceV s L) (k+1) j))∧(erN s (rkV s L) (ceV s L) (k+1)).2=0):=hid ⟨HBR.out.trans H44.out,H5.out,by rw[erN,if_neg (by rw[HER.out];simp),if_neg (by rw[HE.out];simp)]⟩
     go_roundw
     case rel=>exact⟨k+1,by go_num,by omega,HREL⟩
     case measure=>simp[intOf];omega
    ·have q0:(E != 0)=true:=by simp[h0]
     have q1:(E == 0)=false:=by simp[h0]
     have HV:Hid (chkV s L=([],(k:Int),E)):=hid (by
      have hk1:erN s (rkV s L) (ceV s L) (k+1)=((k:Int),E):=by rw[erN,if_neg (by rw[HER.out];simp),HE.out,if_pos h0]
      have hst:=erN_stay (s:=s) (R:=rkV s L) (Z:=ceV s L) (m:=k+1) (by rw[hk1];exact h0) (co-(k+1))
      rw[show k+1+(co-(k+1))=co by omega,hk1] at hst
      unfold chkV
      rw[if_pos HP.out,HCO.out.2,hst,if_pos h0])
     clear h0
     go_wp2_with (go_at_call 36;(with_reducible refine HCC.out.mono ?_);rintro e w4 ⟨rfl,h4,h5⟩;have H44:=hid h4;clear h4 h5 l0 l1 l2 l3 l4 l5 l6 l7 l8 l9 l10)
     go_ret3
     rw[HV.out]
     exact⟨_,rfl,(HB1.out.trans (HB2.out.trans HB3.out)).andThen' (HBR.out.trans H44.out) (fun j _ e=>by rw[show j=bb from e];omega),Ov.nil _⟩
   ·obtain rfl:k=co:=by omega
    have c3:decide ((k:Int)<(k:Int))=false:=by simp
    have HV:Hid (chkV s L=((List.range L.length).map (bdC s (rkV s L) (ceV s L) k), -1,0)):=hid (by unfold chkV;rw[if_pos HP.out,HCO.out.2,if_neg (by rw[HI.out.2.2];simp)])
    have HFIN:Hid (But No w wr∧Ov wr (.slice (some ⟨bb,0,none⟩) n n) ((List.range L.length).map (bdC s (rkV s L) (ceV s L) k))):=hid ⟨(HB1.out.trans (HB2.out.trans HB3.out)).andThen' HI.out.1 (fun j _ e=>by rw[show j=bb from e];omega),by
     have h9:=vals_ov HI.out.2.1 (by unfold maxLen;omega)
     rw[show L.length=n by have:=HN.out;omega];exact h9⟩
    go_wp2_with fail
    go_ret3
    rw[HV.out]
    exact⟨_,rfl,HFIN.out⟩
end Go.Proofs.YtjfaiaipojfhgaaGreat.pln
end
section
namespace Go.Proofs.YtjfaiaipojfhgaaGreat.pln
open Go.Lib (hid)
set_option linter.unusedVariables false
set_option linter.unusedSimpArgs false
open Go.ChangeShapes Go.WideShapes Go.ChangeAt Go.RowKit Go.Deep Go.Shelf val ter Go.Sort
theorem ly_at {s:Sys} {L:List (List Pc)} {w:World} {A':Option Addr} {N:Nat} (hp:RPl w A' N L) (h:plR s L=true) {i k:Nat} {l:List Pc} {x:Pc} (hl:L[i]? = some l) (hx:l[k]? = some x) :
  ∃ z:Pt,lyF s L x.co (i:Int)=some z∧z.p=rkP s L i x∧z.i=i∧ownP s (L.map whO) z=ownV s L i x∧(0≤z.p.bu∧z.p.bu≤1099511627776)∧0≤x.co∧x.co<s.co:=by
 obtain⟨hr,hL,hok⟩:=plR_parts h
 obtain⟨hw,_⟩:=tsk_nums hr hL hl
 obtain⟨⟨g0,g1,g3,g4,g5⟩,_⟩:=okL_rg (okS_at hok hl) hw.1 hx
 have hc0:0≤x.co∧x.co<s.co:=by omega
 obtain⟨c,hc⟩:∃ c:Nat,x.co=(c:Int):=⟨x.co.toNat,by omega⟩
 have hy:(⟨rkP s L i x,i,k⟩:Ap) ∈ apS (c:Int) (rkV s L):=apS_in (rkV_at hl) (show (rkL s L i l)[k]? = some (rkP s L i x)by unfold rkL;rw[List.getElem?_map,hx];rfl) hc
 have hm:ptOf s L ⟨rkP s L i x,i,k⟩ ∈ onN (lyF s L) (c:Int) s.ts.length:=by
  rw[ly_on h (show c<s.co.toNat by omega)]
  exact List.mem_map.2 ⟨_,hy,rfl⟩
 obtain⟨j,_,hj⟩:=onN_mem hm
 have hF:=lyF_fok (s:=s) hp hL (right_nums hr).2.2.1
 have hji:(i:Int)=(j:Int):=(hF.at_ _ _ _ hj).2.1
 refine⟨_,by rw[hc,hji];exact hj,rfl,rfl,?_,(pt_bounds h hy).1,hc0⟩
 rw[own_is h hy]
 show ownV s (rkV s L) i (rkP s L i x)=_
 unfold ownV
 rw[wh_rk]
 rfl
def erO (b:Bool):Int:=if b=true then 0 else 1
set_option maxRecDepth 100000 in
set_option maxHeartbeats 4000000 in
theorem own_top (s:Sys) (A:Option Addr) (n c:Nat) (A':Option Addr) (N c':Nat) (L:List (List Pc)) (i k:Int) (w:World) (hs:RSys w A n c s) (hl:RPl w A' N L) :
  Calls Tryz.prog 17 #[sysV s A n c,.slice A' N c',.int .i64 i,.int .i64 k] w fun e w'=>e=.returned (.tuple #[.int .i64 (oV s L i k).1,.int .i64 (erO (oV s L i k).2)])∧But No w w':=by
 have hw1:But No w (w.alloc (.cells (boxS s A n c) 24)):=(But.refl No w).alloc _
 have hly:=lay_any s A n c A' N c' L _ (hs.no hw1) (hl.no hw1)
 rw[lyB_is] at hly
 have CL:=hid hly
 have HB1:=hid hw1
 obtain⟨b0,b1,b2,b3,b4,b5,b6,b7,b8⟩:=sys_cells (Blk.new w (boxS s A n c) 24)
 have HN:=hid hl.len
 have hNm:=hl.max
 have HL:=hid hl
 have HSN:=hid hs.ts.len
 clear hly hs hl hw1
 unfold sysV at CL ⊢
 unfold boxS at CL HB1 b0 b1 b2 b3 b4 b5 b6 b7 b8
 cases hp:plR s L with
 | false =>
  rw[hp] at CL
  have HV:=hid (oV_no (s:=s) (L:=L) (i:=i) (k:=k) (by rw[hp];simp))
  generalize oV s L i k=V at HV ⊢
  clear hp
  go_enter Tryz.func17,Tryz.ntmps17
  go_wp2_with (go_at_call 28;(with_reducible refine CL.out.mono ?_);rintro e w1 ⟨h1,v,rfl,h2,h3⟩;obtain rfl:=h3 rfl;unfold zeroLy;have H1:=hid h1;clear h1 h2 h3)
  go_ret2
  exact⟨by rw[HV.out];rfl,HB1.out.trans (H1.out.alloc _)⟩
 | true =>
  rw[hp] at CL
  have HP:=hid hp
  clear hp
  by_cases hi0:i<0
  ·have q1:decide (i<0)=true:=by simp[hi0]
   have HV:=hid (oV_no (s:=s) (L:=L) (i:=i) (k:=k) (by omega))
   generalize oV s L i k=V at HV ⊢
   go_enter Tryz.func17,Tryz.ntmps17
   go_wp2_with (go_at_call 28;(with_reducible refine CL.out.mono ?_);rintro e w1 ⟨h1,v,rfl,h2,h3⟩;obtain⟨m,bb,K,rfl,h4⟩:=h2 rfl;have H1:=hid h1;have H4:=hid h4;clear h1 h2 h3 h4)
   go_ret2
   exact⟨by rw[HV.out];rfl,HB1.out.trans (H1.out.alloc _)⟩
  ·have q1:decide (i<0)=false:=by simp;omega
   obtain⟨j,rfl⟩:∃ j:Nat,i=(j:Int):=⟨i.toNat,by omega⟩
   by_cases hiN:N≤j
   ·have q2:decide ((N:Int)≤(j:Int))=true:=by simp;omega
    have HV:=hid (oV_none (s:=s) (L:=L) (i:=(j:Int)) (k:=k) (by rw[Int.toNat_natCast,List.getElem?_eq_none_iff.2 (by rw[HN.out];exact hiN)];rfl))
    generalize oV s L (j:Int) k=V at HV ⊢
    go_enter Tryz.func17,Tryz.ntmps17
    go_wp2_with (go_at_call 28;(with_reducible refine CL.out.mono ?_);rintro e w1 ⟨h1,v,rfl,h2,h3⟩;obtain⟨m,bb,K,rfl,h4⟩:=h2 rfl;have H1:=hid h1;have H4:=hid h4;clear h1 h2 h3 h4)
    go_ret2
    exact⟨by rw[HV.out];rfl,HB1.out.trans (H1.out.alloc _)⟩
   ·have q2:decide ((N:Int)≤(j:Int))=false:=by simp;omega
    by_cases hk0:k<0
    ·have q3:decide (k<0)=true:=by simp[hk0]
     have HV:=hid (oV_no (s:=s) (L:=L) (i:=(j:Int)) (k:=k) (by omega))
     generalize oV s L (j:Int) k=V at HV ⊢
     go_enter Tryz.func17,Tryz.ntmps17
     go_wp2_with (go_at_call 28;(with_reducible refine CL.out.mono ?_);rintro e w1 ⟨h1,v,rfl,h2,h3⟩;obtain⟨m,bb,K,rfl,h4⟩:=h2 rfl;have H1:=hid h1;have H4:=hid h4;clear h1 h2 h3 h4)
     go_ret2
     exact⟨by rw[HV.out];rfl,HB1.out.trans (H1.out.alloc _)⟩
    ·have q3:decide (k<0)=false:=by simp;omega
     obtain⟨q,rfl⟩:∃ q:Nat,k=(q:Int):=⟨k.toNat,by omega⟩
     obtain⟨l,hl⟩:∃ l,L[j]? = some l:=⟨_,List.getElem?_eq_getElem (by rw[HN.out];omega)⟩
     have hj0:(0:Int)≤(j:Int):=Int.natCast_nonneg j
     have hj1:(j:Int)<(N:Int):=by omega
     obtain⟨b,off,A1,c1,hA,_,e0,hlc,hpc⟩:=HL.out.at1 hl
     subst hA
     have HE0:=hid e0
     have HPC:=hid hpc
     clear e0 hpc
     by_cases hkl:l.length≤q
     ·have q4:decide ((l.length:Int)≤(q:Int))=true:=by simp;omega
      have HV:=hid (oV_none (s:=s) (L:=L) (i:=(j:Int)) (k:=(q:Int)) (by rw[Int.toNat_natCast,Int.toNat_natCast,hl];exact List.getElem?_eq_none_iff.2 hkl))
      generalize oV s L (j:Int) (q:Int)=V at HV ⊢
      go_enter Tryz.func17,Tryz.ntmps17
      go_upto_region 2 with(go_at_call 28;(with_reducible refine CL.out.mono ?_);rintro e w1 ⟨h1,v,rfl,h2,h3⟩;obtain⟨m,bb,K,rfl,h4⟩:=h2 rfl;have H1:=hid h1;have H4:=hid h4;clear h1 h2 h3 h4)
      have e0:=cell_keep HE0.out (HB1.out.trans (H1.out.alloc (.cells (lyA s (A) n c m bb) 66)))
      unfold lyA at e0
      go_wp2
      go_ret2
      exact⟨by rw[HV.out];rfl,HB1.out.trans (H1.out.alloc _)⟩
     ·have q4:decide ((l.length:Int)≤(q:Int))=false:=by simp;omega
      obtain⟨x,hx⟩:∃ x,l[q]? = some x:=⟨_,List.getElem?_eq_getElem (by omega)⟩
      have hq1:(q:Int)<(l.length:Int):=by omega
      have HV:=hid (oV_some HP.out hl hx)
      obtain⟨z,hz,hzp,hzi,hzo,hzb,hx0,hx1⟩:=ly_at HL.out HP.out hl hx
      obtain⟨b2',off2,hA2,_,y0,_⟩:=HPC.out.at1 hx
      subst hA2
      have HY0:=hid y0
      have hn:=HSN.out
      have hco:=(right_nums (plR_parts HP.out).1).1
      have hn24:=(right_nums (plR_parts HP.out).1).2.2.1
      have hxR:inR x.co:=by unfold inR;omega
      have hjR:inR (j:Int):=by have:=HN.out;have:=(plR_small HP.out).1;unfold inR;omega
      have hwh:(List.range n).map (lyW s L)=L.map whO:=by rw[←hn];exact lyW_is (plR_parts HP.out).2.1
      generalize oV s L (j:Int) (q:Int)=V at HV ⊢
      go_enter Tryz.func17,Tryz.ntmps17
      go_upto_region 2 with(go_at_call 28;(with_reducible refine CL.out.mono ?_);rintro e w1 ⟨h1,v,rfl,h2,h3⟩;obtain⟨m,bb,K,rfl,h4⟩:=h2 rfl;have H1:=hid h1;have H4:=hid h4;clear h1 h2 h3 h4)
      obtain⟨w2,hw2⟩:∃ w2,w1.alloc (.cells (lyA s A n c m bb) 66)=w2:=⟨_,rfl⟩
      have hb2:But No w1 w2:=by rw[←hw2];exact(But.refl No w1).alloc _
      have hk2:Blk w2 w1.heap.size (lyA s A n c m bb) 66:=by rw[←hw2];exact Blk.new w1 _ _
      unfold lyA at hw2
      rw[hw2]
      have e0:=cell_keep HE0.out (HB1.out.trans (H1.out.trans hb2))
      have y0:=cell_keep HY0.out (HB1.out.trans (H1.out.trans hb2))
      have hly2:=H4.out.no hb2
      have hlk:Hid (∀ W,But No w2 W→(Instr.lookup 64 (.map (some m)) (keyV x.co (j:Int)) false).run Tryz.prog W=.ok (ptV (ov (lyF s L x.co (j:Int)))) W):=hid (fun W hW=>(hly2.no hW).map.look1 hxR hjR)
      have hcall:Hid (∀ W,But No w2 W→Calls Tryz.prog 32 #[lyV s A n c m bb,ptV z] W fun e w'=>e=.returned (.int .i64 (ownV s L j x))∧But No W w'):=hid (fun W hW=>by
       have h9:=lown_any (hly2.no hW) (plR_parts HP.out).1 (by omega) z hzb
       rw[hwh,hzo] at h9
       exact h9)
      have HBW:=hid (HB1.out.trans (H1.out.trans hb2))
      have hLL:Hid (∀ W,But No w2 W→L11 W w1.heap.size s A n c m bb):=hid (fun W hW=>ly_cells (hk2.but hW (fun f=>f)))
      rw[hz] at hlk
      dsimp only[ov] at hlk
      clear hz hzp hzi hzo hzb hl hx hw2 hb2 hk2 hly2 hwh hn hco hn24
      generalize x.co=xc at *
      generalize ownV s L j x=O at *
      obtain⟨⟨co,bu,de,pr,ti⟩,zi,zk,zl,zd,zj⟩:=z
      dsimp only[ptV,ptA,keyV,lyV,lyA] at hlk hcall
      go_upto_region 5 with fail
      obtain⟨⟨l0,l1,l2,l3,l4,l5,l6,l7,l8⟩,l9,l10⟩:=hLL.out w2 (But.refl _ _)
      have K1:=hlk.out w2 (But.refl _ _)
      have K2:=hlk.out w2.drew (But.refl _ _).drew
      go_region_held3 (fun w'=>(w'.cell? ⟨w1.heap.size,9,none⟩=some (.map (some m))∧L11 w' w1.heap.size s A n c m bb)∧But No w2 w')
       (first | exact⟨⟨l9,⟨l0,l1,l2,l3,l4,l5,l6,l7,l8⟩,l9,l10⟩,But.refl _ _⟩ | exact⟨⟨l9,⟨l0,l1,l2,l3,l4,l5,l6,l7,l8⟩,l9,l10⟩,(But.refl _ _).drew⟩ | exact⟨⟨(hLL.out _ HBC.out).2.1,hLL.out _ HBC.out⟩,HBC.out⟩)
       (first | (go_at_call 32;refine(hcall.out w2.drew (But.refl No w2).drew).mono ?_;rintro e wC ⟨rfl,hbC⟩;have HBC:Hid (But No w2 wC):=hid ((But.refl No w2).drew.trans hbC);clear hbC))
      go_wp2_with fail
      go_ret2
      exact⟨by rw[HV.out];rfl,HBW.out.trans HBC.out⟩
end Go.Proofs.YtjfaiaipojfhgaaGreat.pln
end
