/- Part 47 of a proof: PaX PaQ1 PaQ2. -/
import Derived.Test.YtjfaiaipojfhgaaGreatR45
import Derived.Test.YtjfaiaipojfhgaaGreatR46
section
namespace Go.Proofs.YtjfaiaipojfhgaaGreat.pln
open Go.Lib (hid)
set_option linter.unusedVariables false
set_option linter.unusedSimpArgs false
open Go.ChangeShapes Go.WideShapes Go.ChangeAt Go.RowKit Go.Deep Go.Shelf val ter Go.Sort
theorem ly_at {s:Sys} {L:List (List Pc)} {w:World} {A':Option Addr} {N:Nat} (hp:RPl w A' N L) (h:plR s L=true) {i k:Nat} {l:List Pc} {x:Pc} (hl:L[i]? = some l) (hx:l[k]? = some x) :
  ∃ z:Pt,lyF s L x.co (i:Int)=some z∧z.p=rkP s L i x∧z.i=i∧ownP s (L.map whO) z=ownV s L i x∧(0≤z.p.bu∧z.p.bu≤1099511627776)∧0≤x.co∧x.co<s.co:=by
 obtain⟨hr,hL,hok⟩:=plR_parts h
 obtain⟨hw,_⟩:=tsk_nums hr hL hl
 obtain⟨⟨g0,g1,g3,g4,g5⟩,_⟩:=okL_rg (okS_at hok hl) hw.1 hx
 have hc0:0≤x.co∧x.co<s.co:=by omega
 obtain⟨c,hc⟩:∃ c:Nat,x.co=(c:Int):=⟨x.co.toNat,by omega⟩
 have hy:(⟨rkP s L i x,i,k⟩:Ap) ∈ apS (c:Int) (rkV s L):=apS_in (rkV_at hl) (show (rkL s L i l)[k]? = some (rkP s L i x)by unfold rkL;rw[List.getElem?_map,hx];rfl) hc
 have hm:ptOf s L ⟨rkP s L i x,i,k⟩ ∈ onN (lyF s L) (c:Int) s.ts.length:=by
  rw[ly_on h (show c<s.co.toNat by omega)]
  exact List.mem_map.2 ⟨_,hy,rfl⟩
 obtain⟨j,_,hj⟩:=onN_mem hm
 have hF:=lyF_fok (s:=s) hp hL (right_nums hr).2.2.1
 have hji:(i:Int)=(j:Int):=(hF.at_ _ _ _ hj).2.1
 refine⟨_,by rw[hc,hji];exact hj,rfl,rfl,?_,(pt_bounds h hy).1,hc0⟩
 rw[own_is h hy]
 show ownV s (rkV s L) i (rkP s L i x)=_
 unfold ownV
 rw[wh_rk]
 rfl
def erO (b:Bool):Int:=if b=true then 0 else 1
set_option maxRecDepth 100000 in
set_option maxHeartbeats 4000000 in
theorem own_top (s:Sys) (A:Option Addr) (n c:Nat) (A':Option Addr) (N c':Nat) (L:List (List Pc)) (i k:Int) (w:World) (hs:RSys w A n c s) (hl:RPl w A' N L) :
  Calls Tryz.prog 17 #[sysV s A n c,.slice A' N c',.int .i64 i,.int .i64 k] w fun e w'=>e=.returned (.tuple #[.int .i64 (oV s L i k).1,.int .i64 (erO (oV s L i k).2)])∧But No w w':=by
 have hw1:But No w (w.alloc (.cells (boxS s A n c) 24)):=(But.refl No w).alloc _
 have hly:=lay_any s A n c A' N c' L _ (hs.no hw1) (hl.no hw1)
 rw[lyB_is] at hly
 have CL:=hid hly
 have HB1:=hid hw1
 obtain⟨b0,b1,b2,b3,b4,b5,b6,b7,b8⟩:=sys_cells (Blk.new w (boxS s A n c) 24)
 have HN:=hid hl.len
 have hNm:=hl.max
 have HL:=hid hl
 have HSN:=hid hs.ts.len
 clear hly hs hl hw1
 unfold sysV at CL ⊢
 unfold boxS at CL HB1 b0 b1 b2 b3 b4 b5 b6 b7 b8
 cases hp:plR s L with
 | false =>
  rw[hp] at CL
  have HV:=hid (oV_no (s:=s) (L:=L) (i:=i) (k:=k) (by rw[hp];simp))
  generalize oV s L i k=V at HV ⊢
  clear hp
  go_enter Tryz.func17,Tryz.ntmps17
  go_wp2_with (go_at_call 28;(with_reducible refine CL.out.mono ?_);rintro e w1 ⟨h1,v,rfl,h2,h3⟩;obtain rfl:=h3 rfl;unfold zeroLy;have H1:=hid h1;clear h1 h2 h3)
  go_ret2
  exact⟨by rw[HV.out];rfl,HB1.out.trans (H1.out.alloc _)⟩
 | true =>
  rw[hp] at CL
  have HP:=hid hp
  clear hp
  by_cases hi0:i<0
  ·have q1:decide (i<0)=true:=by simp[hi0]
   have HV:=hid (oV_no (s:=s) (L:=L) (i:=i) (k:=k) (by omega))
   generalize oV s L i k=V at HV ⊢
   go_enter Tryz.func17,Tryz.ntmps17
   go_wp2_with (go_at_call 28;(with_reducible refine CL.out.mono ?_);rintro e w1 ⟨h1,v,rfl,h2,h3⟩;obtain⟨m,bb,K,rfl,h4⟩:=h2 rfl;have H1:=hid h1;have H4:=hid h4;clear h1 h2 h3 h4)
   go_ret2
   exact⟨by rw[HV.out];rfl,HB1.out.trans (H1.out.alloc _)⟩
  ·have q1:decide (i<0)=false:=by simp;omega
   obtain⟨j,rfl⟩:∃ j:Nat,i=(j:Int):=⟨i.toNat,by omega⟩
   by_cases hiN:N≤j
   ·have q2:decide ((N:Int)≤(j:Int))=true:=by simp;omega
    have HV:=hid (oV_none (s:=s) (L:=L) (i:=(j:Int)) (k:=k) (by rw[Int.toNat_natCast,List.getElem?_eq_none_iff.2 (by rw[HN.out];exact hiN)];rfl))
    generalize oV s L (j:Int) k=V at HV ⊢
    go_enter Tryz.func17,Tryz.ntmps17
    go_wp2_with (go_at_call 28;(with_reducible refine CL.out.mono ?_);rintro e w1 ⟨h1,v,rfl,h2,h3⟩;obtain⟨m,bb,K,rfl,h4⟩:=h2 rfl;have H1:=hid h1;have H4:=hid h4;clear h1 h2 h3 h4)
    go_ret2
    exact⟨by rw[HV.out];rfl,HB1.out.trans (H1.out.alloc _)⟩
   ·have q2:decide ((N:Int)≤(j:Int))=false:=by simp;omega
    by_cases hk0:k<0
    ·have q3:decide (k<0)=true:=by simp[hk0]
     have HV:=hid (oV_no (s:=s) (L:=L) (i:=(j:Int)) (k:=k) (by omega))
     generalize oV s L (j:Int) k=V at HV ⊢
     go_enter Tryz.func17,Tryz.ntmps17
     go_wp2_with (go_at_call 28;(with_reducible refine CL.out.mono ?_);rintro e w1 ⟨h1,v,rfl,h2,h3⟩;obtain⟨m,bb,K,rfl,h4⟩:=h2 rfl;have H1:=hid h1;have H4:=hid h4;clear h1 h2 h3 h4)
     go_ret2
     exact⟨by rw[HV.out];rfl,HB1.out.trans (H1.out.alloc _)⟩
    ·have q3:decide (k<0)=false:=by simp;omega
     obtain⟨q,rfl⟩:∃ q:Nat,k=(q:Int):=⟨k.toNat,by omega⟩
     obtain⟨l,hl⟩:∃ l,L[j]? = some l:=⟨_,List.getElem?_eq_getElem (by rw[HN.out];omega)⟩
     have hj0:(0:Int)≤(j:Int):=Int.natCast_nonneg j
     have hj1:(j:Int)<(N:Int):=by omega
     obtain⟨b,off,A1,c1,hA,_,e0,hlc,hpc⟩:=HL.out.at1 hl
     subst hA
     have HE0:=hid e0
     have HPC:=hid hpc
     clear e0 hpc
     by_cases hkl:l.length≤q
     ·have q4:decide ((l.length:Int)≤(q:Int))=true:=by simp;omega
      have HV:=hid (oV_none (s:=s) (L:=L) (i:=(j:Int)) (k:=(q:Int)) (by rw[Int.toNat_natCast,Int.toNat_natCast,hl];exact List.getElem?_eq_none_iff.2 hkl))
      generalize oV s L (j:Int) (q:Int)=V at HV ⊢
      go_enter Tryz.func17,Tryz.ntmps17
      go_upto_region 2 with(go_at_call 28;(with_reducible refine CL.out.mono ?_);rintro e w1 ⟨h1,v,rfl,h2,h3⟩;obtain⟨m,bb,K,rfl,h4⟩:=h2 rfl;have H1:=hid h1;have H4:=hid h4;clear h1 h2 h3 h4)
      have e0:=cell_keep HE0.out (HB1.out.trans (H1.out.alloc (.cells (lyA s (A) n c m bb) 66)))
      unfold lyA at e0
      go_wp2
      go_ret2
      exact⟨by rw[HV.out];rfl,HB1.out.trans (H1.out.alloc _)⟩
     ·have q4:decide ((l.length:Int)≤(q:Int))=false:=by simp;omega
      obtain⟨x,hx⟩:∃ x,l[q]? = some x:=⟨_,List.getElem?_eq_getElem (by omega)⟩
      have hq1:(q:Int)<(l.length:Int):=by omega
      have HV:=hid (oV_some HP.out hl hx)
      obtain⟨z,hz,hzp,hzi,hzo,hzb,hx0,hx1⟩:=ly_at HL.out HP.out hl hx
      obtain⟨b2',off2,hA2,_,y0,_⟩:=HPC.out.at1 hx
      subst hA2
      have HY0:=hid y0
      have hn:=HSN.out
      have hco:=(right_nums (plR_parts HP.out).1).1
      have hn24:=(right_nums (plR_parts HP.out).1).2.2.1
      have hxR:inR x.co:=by unfold inR;omega
      have hjR:inR (j:Int):=by have:=HN.out;have:=(plR_small HP.out).1;unfold inR;omega
      have hwh:(List.range n).map (lyW s L)=L.map whO:=by rw[←hn];exact lyW_is (plR_parts HP.out).2.1
      generalize oV s L (j:Int) (q:Int)=V at HV ⊢
      go_enter Tryz.func17,Tryz.ntmps17
      go_upto_region 2 with(go_at_call 28;(with_reducible refine CL.out.mono ?_);rintro e w1 ⟨h1,v,rfl,h2,h3⟩;obtain⟨m,bb,K,rfl,h4⟩:=h2 rfl;have H1:=hid h1;have H4:=hid h4;clear h1 h2 h3 h4)
      obtain⟨w2,hw2⟩:∃ w2,w1.alloc (.cells (lyA s A n c m bb) 66)=w2:=⟨_,rfl⟩
      have hb2:But No w1 w2:=by rw[←hw2];exact(But.refl No w1).alloc _
      have hk2:Blk w2 w1.heap.size (lyA s A n c m bb) 66:=by rw[←hw2];exact Blk.new w1 _ _
      unfold lyA at hw2
      rw[hw2]
      have e0:=cell_keep HE0.out (HB1.out.trans (H1.out.trans hb2))
      have y0:=cell_keep HY0.out (HB1.out.trans (H1.out.trans hb2))
      have hly2:=H4.out.no hb2
      have hlk:Hid (∀ W,But No w2 W→(Instr.lookup 64 (.map (some m)) (keyV x.co (j:Int)) false).run Tryz.prog W=.ok (ptV (ov (lyF s L x.co (j:Int)))) W):=hid (fun W hW=>(hly2.no hW).map.look1 hxR hjR)
      have hcall:Hid (∀ W,But No w2 W→Calls Tryz.prog 32 #[lyV s A n c m bb,ptV z] W fun e w'=>e=.returned (.int .i64 (ownV s L j x))∧But No W w'):=hid (fun W hW=>by
       have h9:=lown_any (hly2.no hW) (plR_parts HP.out).1 (by omega) z hzb
       rw[hwh,hzo] at h9
       exact h9)
      have HBW:=hid (HB1.out.trans (H1.out.trans hb2))
      have hLL:Hid (∀ W,But No w2 W→L11 W w1.heap.size s A n c m bb):=hid (fun W hW=>ly_cells (hk2.but hW (fun f=>f)))
      rw[hz] at hlk
      dsimp only[ov] at hlk
      clear hz hzp hzi hzo hzb hl hx hw2 hb2 hk2 hly2 hwh hn hco hn24
      generalize x.co=xc at *
      generalize ownV s L j x=O at *
      obtain⟨⟨co,bu,de,pr,ti⟩,zi,zk,zl,zd,zj⟩:=z
      dsimp only[ptV,ptA,keyV,lyV,lyA] at hlk hcall
      go_upto_region 5 with fail
      obtain⟨⟨l0,l1,l2,l3,l4,l5,l6,l7,l8⟩,l9,l10⟩:=hLL.out w2 (But.refl _ _)
      have K1:=hlk.out w2 (But.refl _ _)
      have K2:=hlk.out w2.drew (But.refl _ _).drew
      go_region_held3 (fun w'=>(w'.cell? ⟨w1.heap.size,9,none⟩=some (.map (some m))∧L11 w' w1.heap.size s A n c m bb)∧But No w2 w')
       (first | exact⟨⟨l9,⟨l0,l1,l2,l3,l4,l5,l6,l7,l8⟩,l9,l10⟩,But.refl _ _⟩ | exact⟨⟨l9,⟨l0,l1,l2,l3,l4,l5,l6,l7,l8⟩,l9,l10⟩,(But.refl _ _).drew⟩ | exact⟨⟨(hLL.out _ HBC.out).2.1,hLL.out _ HBC.out⟩,HBC.out⟩)
       (first | (go_at_call 32;refine(hcall.out w2.drew (But.refl No w2).drew).mono ?_;rintro e wC ⟨rfl,hbC⟩;have HBC:Hid (But No w2 wC):=hid ((But.refl No w2).drew.trans hbC);clear hbC))
      go_wp2_with fail
      go_ret2
      exact⟨by rw[HV.out];rfl,HBW.out.trans HBC.out⟩
end Go.Proofs.YtjfaiaipojfhgaaGreat.pln
end
section
namespace Go.Proofs.YtjfaiaipojfhgaaGreat.pln
set_option linter.unusedVariables false
set_option linter.unusedSimpArgs false
open Go.ChangeShapes Go.WideShapes Go.ChangeAt Go.RowKit Go.Deep Go.Shelf val ter Go.Sort
def rwN (G:Pt→Pc) (l:List Pt) (i:Nat):List Pc:=(l.filter (fun x=>decide (x.i=i))).map G
def rwS (N:Nat) (G:Pt→Pc) (l:List Pt):List (List Pc):=(List.range N).map (rwN G l)
theorem rwS_nil (N:Nat) (G:Pt→Pc):rwS N G []=List.replicate N []:=by
 unfold rwS
 apply List.ext_getElem?
 intro j
 rw[List.getElem?_replicate,List.getElem?_map]
 by_cases h:j<N
 ·simp[h,rwN]
 ·simp[h]
theorem rwS_at {N:Nat} {G:Pt→Pc} {l:List Pt} {i:Nat} (h:i<N):(rwS N G l)[i]? = some (rwN G l i):=by
 unfold rwS
 rw[List.getElem?_map,List.getElem?_range h];rfl
theorem rwS_snoc {N:Nat} {G:Pt→Pc} {l:List Pt} {x:Pt} (h:x.i<N):rwS N G (l ++ [x])=(rwS N G l).set x.i (rwN G l x.i ++ [G x]):=by
 unfold rwS
 apply List.ext_getElem?
 intro j
 rw[List.getElem?_set,List.getElem?_map,List.getElem?_map]
 by_cases hj:j<N
 ·rw[List.getElem?_range hj]
  by_cases e:x.i=j
  ·subst e
   rw[if_pos rfl,if_pos (by simpa using h)]
   show some (rwN G (l ++ [x]) x.i)=some _
   unfold rwN
   rw[List.filter_append,List.map_append]
   simp
  ·rw[if_neg e]
   show some (rwN G (l ++ [x]) j)=some (rwN G l j)
   unfold rwN
   rw[List.filter_append]
   simp[e]
 ·have h2:(List.range N)[j]? = none:=by simp;omega
  rw[h2,if_neg (by omega)]
  rfl
theorem visR_filter (lt:Int) (i j:Nat) (l:List Pc):∀ k,(visR lt i l k).filter (fun x=>decide (x.i=j))=if i=j then visR lt i l k else []
 | 0=>by rw[visR];split <;> rfl
 | k+1=>by
  rw[visR,List.filter_append,visR_filter lt i j l k]
  by_cases e:i=j
  ·subst e
   rw[if_pos rfl,if_pos rfl]
   simp[mkP]
  ·rw[if_neg e,if_neg e]
   simp[mkP,e]
theorem visN_filter (lt:Int) (L:List (List Pc)) (j:Nat):∀ n,(visN lt L n).filter (fun x=>decide (x.i=j))=if j<n then visR lt j (L.getD j []) (L.getD j []).length else []
 | 0=>by rw[visN];rfl
 | n+1=>by
  rw[visN,List.filter_append,visN_filter lt L j n,visR_filter]
  by_cases e:n=j
  ·subst e
   rw[if_pos rfl,if_neg (by omega),if_pos (by omega)];rfl
  ·rw[if_neg e,List.append_nil]
   by_cases h:j<n
   ·rw[if_pos h,if_pos (by omega)]
   ·rw[if_neg h,if_neg (by omega)]
theorem visR_map {lt:Int} {i:Nat} {l:List Pc} {G:Pt→Pc} {H:Pc→Pc} (h:∀ (k:Nat) (x:Pc),l[k]? = some x→G (mkP lt i l k x)=H x):∀ k,k≤l.length→(visR lt i l k).map G=(l.take k).map H
 | 0,_=>rfl
 | k+1,hk=>by
  have hx:l[k]? = some (l[k]'(by omega)):=List.getElem?_eq_getElem (by omega)
  rw[visR,List.map_append,visR_map h k (by omega),List.take_add_one,hx,List.map_append,getD_some hx]
  show _ ++ [G (mkP lt i l k _)]=_
  rw[h k _ hx]
  rfl
theorem rwS_all {s:Sys} {L:List (List Pc)} {lt:Int} {G:Pt→Pc} (h:∀ (i:Nat) (l:List Pc) (k:Nat) (x:Pc),L[i]? = some l→l[k]? = some x→G (mkP lt i l k x)=rkP s L i x):rwS L.length G (vis lt L)=rkV s L:=by
 apply List.ext_getElem?
 intro j
 by_cases hj:j<L.length
 ·have hl:L[j]? = some (L[j]'hj):=List.getElem?_eq_getElem hj
  rw[rwS_at hj,rkV_at hl]
  unfold rwN vis
  rw[visN_filter,if_pos hj,getL hl,visR_map (h j _ · · hl) _ (Nat.le_refl _),List.take_length]
  rfl
 ·rw[List.getElem?_eq_none_iff.2 (by unfold rwS;simp;omega),List.getElem?_eq_none_iff.2 (by rw[rkV_len];omega)]
def rkG (s:Sys) (L:List (List Pc)) (x:Pt):Pc:=(ov (lyF s L x.p.co (x.i:Int))).p
theorem rkG_all {s:Sys} {L:List (List Pc)} {w:World} {A':Option Addr} {N:Nat} (hp:RPl w A' N L) (h:plR s L=true) (lt:Int):rwS L.length (rkG s L) (vis lt L)=rkV s L :=
 rwS_all (fun i l k x hl hx=>by
  obtain⟨z,h1,h2,_⟩:=ly_at hp h hl hx
  show (ov (lyF s L x.co (i:Int))).p=_
  rw[h1]
  exact h2)
theorem RoP.grow {w W W1 w5:World} {g n c r:Nat} {u u5:Value} {vs:List Value} {Ls:List (List Pc)} {l5:List Pc} (h:RoP w W (.slice (some ⟨g,0,none⟩) n c) vs Ls) (hn:vs.length=n) (hb:But No W W1) (hr:r<n) (hur:vs[r]? = some u)
  (hg:W1.grownBy w5 u.ownBlock) (hu:OPc w5 u5 l5) (hat:u5.ownBlock=u.ownBlock∨u5.ownBlock=some W1.heap.size) :
  RoP w (w5.setCell ⟨g,r,none⟩ u5) (.slice (some ⟨g,0,none⟩) n c) (vs.set r u5) (Ls.set r l5)∧But (fun k=>u.ownBlock=some k∨k=g) W (w5.setCell ⟨g,r,none⟩ u5):=by
 subst hn
 have hg0:g<W.heap.size:=(World.ownsRow.lt h.row g rfl).2
 have hgw:w.heap.size≤g:=h.new g rfl
 have h1:=h.no hb
 have hsz:=hb.size
 have hsz0:=h.but.size
 have hB5:But (fun k=>u.ownBlock=some k) W1 w5:=(But.refl _ W1).grown hg (fun k e=>.inl e)
 have hug:u.ownBlock≠some g:=fun e=>h.nb r u g hur e rfl
 have huw:∀ k,u.ownBlock=some k→w.heap.size≤k:=fun k e=>by
  obtain⟨l,hl⟩:∃ l,Ls[r]? = some l:=⟨_,List.getElem?_eq_getElem (by rw[←h.len];exact hr)⟩
  exact(h.own r u l hur hl).2 k e
 have hgu:u5.ownBlock≠some g:=fun e=>by
  rcases hat with f | f
  ·rw[f] at e;exact hug e
  ·rw[f] at e;cases e;omega
 have hrow5:w5.ownsRow 0 40 1 (.slice (some ⟨g,0,none⟩) vs.length c) vs.length vs:=owns_but h1.row hB5 (fun k e f=>by cases e;exact hug f)
 have hst:=(hrow5.stored r u5).1
 have hlt:∀ (q:Nat) (z:Value) (k:Nat),vs[q]? = some z→z.ownBlock=some k→k<W.heap.size:=fun q z k h2 h3=>by
  obtain⟨l',hl'⟩:∃ l',Ls[q]? = some l':=⟨_,List.getElem?_eq_getElem (by rw[←h.len];exact(List.getElem?_eq_some_iff.1 h2).1)⟩
  exact(World.ownsRow.lt (h.own q z l' h2 hl').1 k h3).2
 have nth:∀ (q:Nat) (z:Value),(vs.set r u5)[q]? = some z→(q=r∧z=u5)∨(q≠r∧vs[q]? = some z):=fun q z h2=>by
  rw[List.getElem?_set] at h2
  by_cases e:r=q
  ·subst e
   rw[if_pos rfl,if_pos hr] at h2
   cases h2
   exact .inl ⟨rfl,rfl⟩
  ·rw[if_neg e] at h2
   exact .inr ⟨fun f=>e f.symm,h2⟩
 have sep:∀ (q:Nat) (z:Value) (k:Nat),q≠r→vs[q]? = some z→z.ownBlock=some k→u5.ownBlock=some k→False:=fun q z k hq h2 h3 h4=>by
  rcases hat with f | f
  ·rw[f] at h4;exact hq (h.dis q r z u k h2 hur h3 h4)
  ·rw[f] at h4;cases h4;have:=hlt q z _ h2 h3;omega
 have hbut:But (fun k=>u.ownBlock=some k∨k=g) W (w5.setCell ⟨g,r,none⟩ u5):=((hb.no.trans (hB5.mono (fun k _ e=>.inl e)))).setCell (p:=⟨g,r,none⟩) (.inr rfl) _
 refine⟨⟨h.but.andThen' hbut (fun k _ e=>by rcases e with e | e;exact huw k e;omega),by rw[List.length_set];exact hst,h.new,by rw[List.length_set,List.length_set];exact h.len,fun q z l' h2 h3=>?_,fun q z k h2 h3=>?_,fun q p z y k h2 h3 h4 h5=>?_⟩,hbut⟩
 ·rcases nth q z h2 with⟨rfl,rfl⟩ | ⟨e,h4⟩
  ·rw[List.getElem?_set,if_pos rfl,if_pos (by rw[←h.len];exact hr)] at h3
   cases h3
   refine⟨ownsRow_setCell_other hu hgu _,fun k e=>?_⟩
   rcases hat with f | f
   ·rw[f] at e;exact huw k e
   ·rw[f] at e;cases e;omega
  ·rw[List.getElem?_set,if_neg (fun f=>e f.symm)] at h3
   obtain⟨h5,h6⟩:=h1.own q z l' h4 h3
   refine⟨ownsRow_setCell_other (owns_but h5 hB5 (fun k e' f=>e (h.dis q r z u k h4 hur e' f))) (fun e'=>h.nb q z g h4 e' rfl) _,h6⟩
 ·rcases nth q z h2 with⟨rfl,rfl⟩ | ⟨e,h4⟩
  ·intro e;cases e;exact hgu h3
  ·exact h.nb q z k h4 h3
 ·rcases nth q z h2 with⟨rfl,rfl⟩ | ⟨e,h6⟩ <;> rcases nth p y h3 with⟨rfl,rfl⟩ | ⟨e',h7⟩
  ·rfl
  ·exact(sep p y k e' h7 h5 h4).elim
  ·exact(sep q z k e h6 h4 h5).elim
  ·exact h.dis q p z y k h6 h7 h4 h5
def TR (B g:Nat) (W:World) (k:Nat):Prop:=B≤k∧(k=g∨(∃ r u,W.cell? ⟨g,r,none⟩=some u∧u.ownBlock=some k)∨∃ o:Obj,W.heap[k]? = some o∧o.isCells=false)
theorem tr_alloc {B g:Nat} (hBg:B≤g):∀ X cs e,(∀ k,TR B g X k→k<X.heap.size)→∀ k,TR B g (X.alloc (.cells cs e)) k→TR B g X k:=by
 rintro X cs e hX k ⟨h1,h2⟩
 have hgX:=hX g ⟨hBg,.inl rfl⟩
 refine⟨h1,?_⟩
 rcases h2 with h2 | ⟨r,u,h2,h3⟩ | ⟨o,ho,hc⟩
 ·exact .inl h2
 ·refine .inr (.inl ⟨r,u,?_,h3⟩)
  rw[((But.refl No X).alloc (.cells cs e)).cell hgX (fun f=>f)] at h2
  exact h2
 ·by_cases hk:k<X.heap.size
  ·exact .inr (.inr ⟨o,((((But.refl No X).alloc (.cells cs e)).block k hk (fun f=>f)).symm.trans ho),hc⟩)
  ·have hl:=(Array.getElem?_eq_some_iff.1 ho).1
   rw[World.size_alloc] at hl
   obtain rfl:k=X.heap.size:=by omega
   have hn:=World.alloc_heap_new X (.cells cs e)
   rw[hn] at ho
   cases ho;cases hc
theorem tr_no {B g:Nat} {X Y:World} (h:But No X Y) (hBg:B≤g):KT (TR B g) X Y:=fun ho=>by
 have hgX:=ho g ⟨hBg,.inl rfl⟩
 refine⟨h.no,fun k hk ⟨h1,h2⟩=>⟨h1,?_⟩,fun k ⟨h1,h2⟩=>?_⟩
 ·rcases h2 with h2 | ⟨r,u,h2,h3⟩ | ⟨o,h2,h3⟩
  ·exact .inl h2
  ·rw[h.cell hgX (fun f=>f)] at h2;exact .inr (.inl ⟨r,u,h2,h3⟩)
  ·exact .inr (.inr ⟨o,(h.block k hk (fun f=>f)).symm.trans h2,h3⟩)
 ·rcases h2 with h2 | ⟨r,u,h2,h3⟩ | ⟨o,h2,h3⟩
  ·rw[h2];exact Nat.lt_of_lt_of_le hgX h.size
  ·rw[h.cell hgX (fun f=>f)] at h2;exact Nat.lt_of_lt_of_le (ho k ⟨h1,.inr (.inl ⟨r,u,h2,h3⟩)⟩) h.size
  ·exact(Array.getElem?_eq_some_iff.1 h2).1
theorem tr_put {B g:Nat} (X:World) (l:Nat) (o o':Obj) (hBg:B≤g) (hgl:g<l) (ho:X.heap[l]? = some o) (hc:o.isCells=false):KT (TR B g) X (X.putObj l o'):=fun hk=>by
 have hgX:=hk g ⟨hBg,.inl rfl⟩
 have hl:TR B g X l:=⟨by omega,.inr (.inr ⟨o,ho,hc⟩)⟩
 have hb:But (fun k=>k=l) X (X.putObj l o'):=(But.refl _ X).grown (grownBy_putObj' _ l o') (fun k e=>.inl (by cases e;rfl))
 have hcell:∀ r,(X.putObj l o').cell? ⟨g,r,none⟩=X.cell? ⟨g,r,none⟩:=fun r=>hb.cell hgX (by show ¬g=l;omega)
 refine⟨hb.mono (fun k _ e=>by rw[show k=l from e];exact hl),fun k hk2 ⟨h1,h2⟩=>?_,fun k ⟨h1,h2⟩=>?_⟩
 ·by_cases e:k=l
  ·rw[e];exact hl
  ·rcases h2 with h2 | ⟨r,u,h2,h3⟩ | ⟨z,h3,h4⟩
   ·exact⟨h1,.inl h2⟩
   ·rw[hcell] at h2;exact⟨h1,.inr (.inl ⟨r,u,h2,h3⟩)⟩
   ·exact⟨h1,.inr (.inr ⟨z,(hb.block k hk2 e).symm.trans h3,h4⟩)⟩
 ·rcases h2 with h2 | ⟨r,u,h2,h3⟩ | ⟨z,h3,_⟩
  ·rw[h2];exact Nat.lt_of_lt_of_le hgX hb.size
  ·rw[hcell] at h2;exact Nat.lt_of_lt_of_le (hk k ⟨h1,.inr (.inl ⟨r,u,h2,h3⟩)⟩) hb.size
  ·exact(Array.getElem?_eq_some_iff.1 h3).1
theorem tr_grow {w W W1 w5:World} {g n c r:Nat} {u u5:Value} {vs:List Value} {Ls:List (List Pc)} (h:RoP w W (.slice (some ⟨g,0,none⟩) n c) vs Ls) (hr:r<n) (hn:vs.length=n) (hur:vs[r]? = some u) (hb1:But No W W1) (hg:W1.grownBy w5 u.ownBlock)
  (hu5:∀ k,u5.ownBlock=some k→k<w5.heap.size) (hat:u5.ownBlock=u.ownBlock∨u5.ownBlock=some W1.heap.size) (hbut:But (fun k=>u.ownBlock=some k∨k=g) W (w5.setCell ⟨g,r,none⟩ u5)):KT (TR w.heap.size g) W (w5.setCell ⟨g,r,none⟩ u5):=fun ho=>by
 subst hn
 have hgw:w.heap.size≤g:=h.new g rfl
 have hgX:=ho g ⟨hgw,.inl rfl⟩
 have hsz:=hb1.size
 have hug:u.ownBlock≠some g:=fun e=>h.nb r u g hur e rfl
 have hcu:W.cell? ⟨g,r,none⟩=some u:=by
  have:=h.row.cells (g:=g) rfl r u hur
  rw[add_plain,Nat.zero_add] at this
  exact this
 have huw:∀ k,u.ownBlock=some k→w.heap.size≤k:=fun k e=>by
  obtain⟨l,hl⟩:∃ l,Ls[r]? = some l:=⟨_,List.getElem?_eq_getElem (by rw[←h.len];exact hr)⟩
  exact(h.own r u l hur hl).2 k e
 have hS:∀ k,(u.ownBlock=some k∨k=g)→TR w.heap.size g W k:=fun k e=>by
  rcases e with e | e
  ·exact⟨huw k e,.inr (.inl ⟨r,u,hcu,e⟩)⟩
  ·exact⟨by omega,.inl e⟩
 have hB5:But (fun k=>u.ownBlock=some k) W w5:=hb1.no.trans ((But.refl _ W1).grown hg (fun k e=>.inl e))
 have hcell:∀ q z,(w5.setCell ⟨g,r,none⟩ u5).cell? ⟨g,q,none⟩=some z→W.cell? ⟨g,q,none⟩=some z∨z=u5:=fun q z hz=>by
  by_cases e:q=r
  ·subst e
   have h5:w5.cell? ⟨g,q,none⟩=some u:=by rw[hB5.cell hgX hug];exact hcu
   rw[World.cell?_setCell_same w5 ⟨g,q,none⟩ u5 h5] at hz
   cases hz
   exact .inr rfl
  ·rw[World.cell?_setCell_other w5 ⟨g,r,none⟩ ⟨g,q,none⟩ u5 (fun f=>by injection f with f1 f2;exact e f2.symm),hB5.cell hgX hug] at hz
   exact .inl hz
 refine⟨hbut.mono (fun k _ e=>hS k e),fun k hk ⟨h1,h2⟩=>?_,fun k ⟨h1,h2⟩=>?_⟩
 ·rcases h2 with h2 | ⟨q,z,h2,h3⟩ | ⟨o,h2,h3⟩
  ·exact⟨h1,.inl h2⟩
  ·rcases hcell q z h2 with h4 | h4
   ·exact⟨h1,.inr (.inl ⟨q,z,h4,h3⟩)⟩
   ·subst h4
    rcases hat with f | f
    ·rw[f] at h3;exact hS k (.inl h3)
    ·rw[f] at h3;cases h3;omega
  ·by_cases e:u.ownBlock=some k∨k=g
   ·exact hS k e
   ·exact⟨h1,.inr (.inr ⟨o,(hbut.block k hk e).symm.trans h2,h3⟩)⟩
 ·rcases h2 with h2 | ⟨q,z,h2,h3⟩ | ⟨o,h2,h3⟩
  ·rw[h2];exact Nat.lt_of_lt_of_le hgX hbut.size
  ·rcases hcell q z h2 with h4 | h4
   ·exact Nat.lt_of_lt_of_le (ho k ⟨h1,.inr (.inl ⟨q,z,h4,h3⟩)⟩) hbut.size
   ·subst h4
    have:=hu5 k h3
    simpa [World.setCell] using this
  ·exact(Array.getElem?_eq_some_iff.1 h2).1
end Go.Proofs.YtjfaiaipojfhgaaGreat.pln
end
section
namespace Go.Proofs.YtjfaiaipojfhgaaGreat.pln
set_option linter.unusedVariables false
set_option linter.unusedSimpArgs false
open Go.ChangeShapes Go.WideShapes Go.ChangeAt Go.RowKit Go.Deep Go.Shelf val ter Go.Sort
theorem RoP.turn {w W W':World} {v:Value} {vs:List Value} {Ls:List (List Pc)} {S:Nat→Prop} (h:RoP w W v vs Ls) (hb:But S W W') (hv:∀ k,S k→w.heap.size≤k∧v.ownBlock≠some k∧∀ (r:Nat) (u:Value),vs[r]? = some u→u.ownBlock≠some k):RoP w W' v vs Ls :=
 ⟨h.but.andThen' hb (fun k _ e=>(hv k e).1),owns_but h.row hb (fun k e f=>(hv k f).2.1 e),h.new,h.len,fun r u l h1 h2=>⟨owns_but (h.own r u l h1 h2).1 hb (fun k e f=>(hv k f).2.2 r u h1 e),(h.own r u l h1 h2).2⟩,h.nb,h.dis⟩
theorem owns_cells {w:World} {e:TypeId} {sz n:Nat} {v:Value} {xs:List Value} (h:w.ownsRow 0 e sz v n xs) {k:Nat} (hk:v.ownBlock=some k):∃ cur,Blk w k cur e:=by
 obtain⟨_,h2⟩:=h
 rcases h2 with⟨h2,_⟩ | ⟨g',cap,cur,hv,_,hh,_⟩
 ·rw[h2] at hk;cases hk
 ·rw[hv] at hk;cases hk
  exact⟨cur,hh⟩
structure RkI (w W5:World) (g N:Nat) (Ls:List (List Pc)) (W:World):Prop where
 ex:∃ vs:List Value,vs.length=N∧RoP w W (.slice (some ⟨g,0,none⟩) N N) vs Ls∧∀ (r:Nat) (u:Value) (k:Nat),vs[r]? = some u→u.ownBlock=some k→W5.heap.size≤k
 but:But (Just g) W5 W
section
variable {w W5 W W':World} {g N:Nat} {Ls:List (List Pc)}
theorem RkI.no (h:RkI w W5 g N Ls W) (hb:But No W W'):RkI w W5 g N Ls W':=by
 obtain⟨⟨vs,h1,h2,h3⟩,h4⟩:=h
 exact⟨⟨vs,h1,h2.no hb,h3⟩,h4.trans hb.no⟩
theorem RkI.turn (h:RkI w W5 g N Ls W) (hg5:g<W5.heap.size) {row:Option Nat} (hg:W.grownBy W' row) (hr:∀ r,row=some r→W5.heap.size≤r∧∃ o:Obj,W.heap[r]? = some o∧o.isCells=false):RkI w W5 g N Ls W':=by
 obtain⟨⟨vs,h1,h2,h3⟩,h4⟩:=h
 have hb:But (fun k=>row=some k) W W':=(But.refl _ W).grown hg (fun k e=>.inl e)
 refine⟨⟨vs,h1,h2.turn hb (fun k e=>?_),h3⟩,h4.grown hg (fun k e=>.inr (hr k e).1)⟩
 obtain⟨h5,o,h6,h7⟩:=hr k e
 refine⟨?_,fun e2=>?_,fun r u hu e2=>?_⟩
 ·have hgn:=h2.new g rfl
  omega
 ·obtain⟨cur,hc⟩:=owns_cells h2.row e2
  unfold Blk at hc
  rw[h6] at hc
  cases hc
  cases h7
 ·obtain⟨l,hl⟩:∃ l,Ls[r]? = some l:=⟨_,List.getElem?_eq_getElem (by rw[←h2.len];exact(List.getElem?_eq_some_iff.1 hu).1)⟩
  obtain⟨cur,hc⟩:=owns_cells (h2.own r u l hu hl).1 e2
  unfold Blk at hc
  rw[h6] at hc
  cases hc
  cases h7
theorem RkI.push (h:RkI w W5 g N Ls W) (hg5:g<W5.heap.size) {r:Nat} {l:List Pc} (hl:Ls[r]? = some l) :
  ∃ u:Value,W.cell? ⟨g,r,none⟩=some u∧OPc W u l∧(∀ k,u.ownBlock=some k→W5.heap.size≤k∧∃ cur,Blk W k cur 42)∧r<N ∧
   ∀ (W1 w5:World) (u5:Value) (l5:List Pc),But No W W1→W1.grownBy w5 u.ownBlock→OPc w5 u5 l5→(u5.ownBlock=u.ownBlock∨u5.ownBlock=some W1.heap.size) →
    (w5.cell? ⟨g,r,none⟩=some u∧w5.frozen? ⟨g,r,none⟩=false)∧But (fun k=>u.ownBlock=some k∨k=g) W (w5.setCell ⟨g,r,none⟩ u5)∧KeepsFrom W5.heap.size W (w5.setCell ⟨g,r,none⟩ u5)∧KT (TR w.heap.size g) W (w5.setCell ⟨g,r,none⟩ u5)∧RkI w W5 g N (Ls.set r l5) (w5.setCell ⟨g,r,none⟩ u5):=by
 obtain⟨⟨vs,h1,h2,h3⟩,h4⟩:=h
 have hr:r<N:=by have:=(List.getElem?_eq_some_iff.1 hl).1;have:=h2.len;omega
 obtain⟨u,hu⟩:∃ u,vs[r]? = some u:=⟨_,List.getElem?_eq_getElem (by omega)⟩
 have hrow:W.ownsRow 0 40 1 (.slice (some ⟨g,0,none⟩) N N) N vs:=by have:=h2.row;rw[h1] at this;exact this
 have hcu:W.cell? ⟨g,r,none⟩=some u:=by
  have:=hrow.cells (g:=g) rfl r u hu
  rw[add_plain,Nat.zero_add] at this
  exact this
 have hou:=(h2.own r u l hu hl).1
 refine⟨u,hcu,hou,fun k e=>⟨h3 r u k hu e,owns_cells hou e⟩,hr,fun W1 w5 u5 l5 hb hg ho hat=>?_⟩
 obtain⟨hg1,hg2⟩:=h2.grow h1 hb hr hu hg ho hat
 have hug:u.ownBlock≠some g:=fun e=>by have:=h3 r u g hu e;omega
 have hgW:g<W.heap.size:=Nat.lt_of_lt_of_le hg5 h4.size
 have hsz:=hb.size
 have hB5:But (fun k=>u.ownBlock=some k) W w5:=hb.no.trans ((But.refl _ W1).grown hg (fun k e=>.inl e))
 refine⟨⟨by rw[hB5.cell hgW hug];exact hcu,?_⟩,hg2,⟨hg2.size,fun k o hB hk hc=>?_⟩,tr_grow h2 hr h1 hu hb hg (fun k e=>(World.ownsRow.lt ho k e).2) hat hg2,⟨vs.set r u5,by rw[List.length_set];exact h1,hg1,fun q z k h5 h6=>?_⟩,?_⟩
 ·exact(owns_but hrow hB5 (fun k e f=>by cases e;exact hug f)).frozenAt r
 ·have hkl:=(Array.getElem?_eq_some_iff.1 hk).1
  refine(hg2.block k hkl (fun e=>?_)).trans hk
  rcases e with e | e
  ·obtain⟨cur,hb⟩:=owns_cells hou e
   unfold Blk at hb
   rw[hk] at hb;cases hb;cases hc
  ·subst e
   obtain⟨cur,hb⟩:=owns_cells hrow (k:=k) rfl
   unfold Blk at hb
   rw[hk] at hb;cases hb;cases hc
 ·rw[List.getElem?_set] at h5
  by_cases e:r=q
  ·subst e
   rw[if_pos rfl,if_pos (by omega)] at h5
   cases h5
   rcases hat with f | f
   ·rw[f] at h6;exact h3 r u k hu h6
   ·rw[f] at h6;cases h6
    have:=h4.size;omega
  ·rw[if_neg e] at h5
   exact h3 q z k h5 h6
 ·refine h4.andThen hg2 (fun k e=>?_)
  rcases e with e | e
  ·exact .inr (h3 r u k hu e)
  ·exact .inl e
end
theorem tr_start {w w5 W:World} {g N:Nat} {Ls:List (List Pc)} (h:RoP w w5 (.slice (some ⟨g,0,none⟩) N N) (List.replicate N (.slice none 0 0)) Ls) (hg5:g<w5.heap.size) (hW:But No w5 W) {b1 b2:Nat} {c1 c2:Array Value} {e1 e2:TypeId} (hb1:g<b1) (hb2:g<b2) (hk1:Blk w5 b1 c1 e1) (hk2:Blk w5 b2 c2 e2) :
  (∀ k,TR w.heap.size g W k→k<W.heap.size)∧(∀ k,k<w.heap.size→¬TR w.heap.size g W k)∧¬TR w.heap.size g W b1∧¬TR w.heap.size g W b2:=by
 have hno:∀ (r:Nat) (u:Value) (k:Nat),W.cell? ⟨g,r,none⟩=some u→u.ownBlock=some k→False:=fun r u k h1 h2=>by
  rw[hW.cell hg5 (fun f=>f)] at h1
  have hrow:=h.row
  rw[List.length_replicate] at hrow
  obtain⟨_,h3⟩:=hrow
  rcases h3 with⟨h3,_⟩ | ⟨g',cap,cur,hv,_,hh,_,_,hs,ht⟩
  ·cases h3
  ·cases hv
   have hcur:cur[r]? = some u:=by simpa [World.cell?,hh] using h1
   have hr:r<cur.size:=(Array.getElem?_eq_some_iff.1 hcur).1
   have e:(cur.toList.take (N*1))[r]? = some u:=by
    rw[List.getElem?_take,if_pos (by omega)]
    simpa using hcur
   rw[ht,List.getElem?_replicate] at e
   split at e
   ·cases e;cases h2
   ·cases e
 have hnot:∀ {b:Nat} {c:Array Value} {e:TypeId},g<b→Blk w5 b c e→¬TR w.heap.size g W b:=fun {b c e} hb hk ⟨_,h2⟩=>by
  rcases h2 with h2 | ⟨r,u,h2,h3⟩ | ⟨o,h2,h3⟩
  ·omega
  ·exact hno r u b h2 h3
  ·have:=hk.but hW (fun f=>f)
   unfold Blk at this
   rw[this] at h2
   cases h2;cases h3
 refine⟨fun k ⟨_,h2⟩=>?_,fun k hk ⟨h1,_⟩=>by omega,hnot hb1 hk1,hnot hb2 hk2⟩
 rcases h2 with h2 | ⟨r,u,h2,h3⟩ | ⟨o,h2,_⟩
 ·rw[h2];exact Nat.lt_of_lt_of_le hg5 hW.size
 ·exact(hno r u k h2 h3).elim
 ·exact(Array.getElem?_eq_some_iff.1 h2).1
theorem offN_few {L:List (List Pc)} (h:∀ l ∈ L,l.length≤8):∀ n,offN L n≤8*n
 | 0=>Nat.le_refl _
 | n+1=>by
  rw[offN]
  have h1:=offN_few h n
  have h2:(L.getD n []).length≤8:=by
   by_cases hn:n<L.length
   ·rw[getL (List.getElem?_eq_getElem hn)];exact h _ (List.getElem_mem hn)
   ·rw[List.getD_eq_getElem?_getD,List.getElem?_eq_none_iff.2 (by omega)];exact Nat.zero_le _
  omega
theorem vis_few {lt:Int} {L:List (List Pc)} (h:∀ l ∈ L,l.length≤8) (hn:L.length≤24):(vis lt L).length≤192:=by
 unfold vis
 rw[visN_len]
 have:=offN_few h L.length
 omega
theorem rwN_len (G:Pt→Pc) (l:List Pt) (i:Nat):(rwN G l i).length≤l.length:=by
 unfold rwN
 rw[List.length_map]
 exact List.length_filter_le _ _
end Go.Proofs.YtjfaiaipojfhgaaGreat.pln
end
