/- Part 38 of a proof: PaW PaY PaX PaQ1 PaQ2. -/
import Derived.Laws.OwnMore
import Derived.OneCell
import Derived.Test.YtikcigjbhohboaaGreatM09
import Derived.Test.YtikcigjbhohboaaGreatM21
import Derived.Test.YtikcigjbhohboaaGreatM37
section
namespace Go.Proofs.YtikcigjbhohboaaGreat.pln
set_option linter.unusedVariables false
set_option linter.unusedSimpArgs false
open Go.ChangeShapes Go.WideShapes Go.ChangeAt Go.RowKit Go.Deep Go.Shelf val ter Go.Sort
theorem lyF_fok {s:Sys} {L:List (List Pc)} {w:World} {A':Option Addr} {N:Nat} (hl:RPl w A' N L) (hL:L.length=s.ts.length) (hn:s.ts.length≤24):Fok s.ts.length (lyF s L):=by
 have h0:Fok s.ts.length (mpF (vis (wrp (s.la-1)) L)):=mpF_fok (fun x hx=>by
  obtain⟨i,l,k,y,h1,h2,rfl⟩:=vis_mem hx
  obtain⟨_,_,A4,c4,_,_,_,_,hp⟩:=hl.at1 h1
  obtain⟨g1,g2,g3,_⟩:=hp.fit y (List.mem_of_getElem? h2)
  exact⟨by show i<_;have:=(List.getElem?_eq_some_iff.1 h1).1;omega,g1,g2,g3⟩)
 unfold lyF
 split
 ·exact rkM_fok h0 hn _
 ·exact h0
theorem pt_bounds {s:Sys} {L:List (List Pc)} (h:plR s L=true) {c:Nat} {y:Ap} (hy:y ∈ apS (c:Int) (rkV s L)):(0≤(ptOf s L y).p.bu∧(ptOf s L y).p.bu≤1099511627776)∧(0≤(ptOf s L y).dn∧(ptOf s L y).dn≤1125899906842624)∧(0≤(ptOf s L y).ji∧(ptOf s L y).ji≤1125899906842624):=by
 obtain⟨hr,hL,hok⟩:=plR_parts h
 obtain⟨rl,h1,h2,h3⟩:=apS_mem hy
 have hi:y.i<L.length:=by have:=(List.getElem?_eq_some_iff.1 h1).1;rw[rkV_len] at this;exact this
 obtain⟨l,hl⟩:∃ l,L[y.i]? = some l:=⟨_,List.getElem?_eq_getElem hi⟩
 rw[rkV_at hl] at h1
 cases h1
 obtain⟨x,hx,hp⟩:=rkL_at h2
 have hkl:y.k<l.length:=(List.getElem?_eq_some_iff.1 hx).1
 obtain⟨hw,_⟩:=tsk_nums hr hL hl
 have hoL:=okS_at hok hl
 obtain⟨⟨g0,_,g3,g4,g5⟩,_⟩:=okL_rg hoL hw.1 hx
 obtain⟨_,d1,d2⟩:=okL_dn hoL hw (Nat.le_of_lt hkl)
 have hla:=(right_nums hr).2.1
 have hkz:=small_k g0 (show 0≤s.la-1∧s.la-1≤49 by omega)
 have e1:(ptOf s L y).p.bu=x.bu:=by show y.p.bu=_;rw[hp];rfl
 have e2:(ptOf s L y).dn=smN l y.k:=by show smN (L.getD y.i []) y.k=_;rw[getL hl]
 have e3:(ptOf s L y).ji=(y.k:Int)*(s.la-1):=rfl
 rw[e1,e2,e3]
 refine⟨⟨by omega,?_⟩,⟨by omega,by omega⟩,by omega,by omega⟩
 cases ht:x.ti with
 | true=>have:=g4 ht;omega
 | false=>have:=g5 ht;omega
theorem erN_stay {s:Sys} {R:List (List Pc)} {Z:List (List Int)} {m:Nat} (h:(erN s R Z m).2≠0):∀ d,erN s R Z (m+d)=erN s R Z m
 | 0=>rfl
 | d+1=>by
  have ih:=erN_stay h d
  rw[←Nat.add_assoc,erN,ih,if_pos h]
end Go.Proofs.YtikcigjbhohboaaGreat.pln
end
section
namespace Go.Proofs.YtikcigjbhohboaaGreat.pln
open Go.Lib (hid)
set_option linter.unusedVariables false
set_option linter.unusedSimpArgs false
open Go.ChangeShapes Go.WideShapes Go.ChangeAt Go.RowKit Go.Deep Go.Shelf val ter Go.Sort
theorem RoI.made {w w1 w2:World} {n:Nat} (hb:But No w w1) (ho:w2.ownsRow 0 26 1 (.slice (some ⟨w1.heap.size,0,none⟩) n n) n (madeCells (Value.slice none 0 0).cells (n*1)).toList) (hg:w1.grownBy w2 none):RoI w w2 (.slice (some ⟨w1.heap.size,0,none⟩) n n) (List.replicate n (.slice none 0 0)) (List.replicate n []):=by
 have e:(madeCells (Value.slice none 0 0).cells (n*1)).toList=List.replicate n (.slice none 0 0):=by rw[Nat.mul_one];exact toList_madeCells_one _ n
 rw[e] at ho
 refine⟨hb.trans ((But.refl No w1).grown hg (fun k e=>by cases e)),by rw[List.length_replicate];exact ho,fun k e=>by cases e;exact hb.size,by simp,fun r u l h1 h2=>?_,fun r u k h1 h2=>?_,fun r s u z k h1 h2 h3 h4=>?_⟩
 ·rw[List.getElem?_replicate] at h1 h2
  split at h1
  ·rw[if_pos (by assumption)] at h2
   cases h1
   cases h2
   exact⟨Ov.nil _,own_none⟩
  ·cases h1
 ·rw[List.getElem?_replicate] at h1
  split at h1
  ·cases h1;cases h2
  ·cases h1
 ·rw[List.getElem?_replicate] at h1
  split at h1
  ·cases h1;cases h3
  ·cases h1
theorem RoI.put {w wr w0:World} {g n c r:Nat} {u:Value} {vs:List Value} {Ls:List (List Int)} {l:List Int} (h:RoI w w0 (.slice (some ⟨g,0,none⟩) n c) vs Ls) (hn:vs.length=n) (hb:But No w0 wr) (hu:Ov wr u l) (hun:∀ k,u.ownBlock=some k→w0.heap.size≤k) (hr:r<n) :
  RoI w (wr.setCell ⟨g,r,none⟩ u) (.slice (some ⟨g,0,none⟩) n c) (vs.set r u) (Ls.set r l):=by
 subst hn
 have hg0:g<w0.heap.size:=(World.ownsRow.lt h.row g rfl).2
 have hg:w.heap.size≤g:=h.new g rfl
 have h1:=h.no hb
 have hst:=(h1.row.stored r u).1
 have hgu:u.ownBlock≠some g:=fun e=>by have:=hun g e;omega
 have hlt:∀ (q:Nat) (z:Value) (k:Nat),vs[q]? = some z→z.ownBlock=some k→k<w0.heap.size:=fun q z k h2 h3=>by
  obtain⟨l',hl'⟩:∃ l',Ls[q]? = some l':=⟨_,List.getElem?_eq_getElem (by rw[←h.len];exact(List.getElem?_eq_some_iff.1 h2).1)⟩
  exact(World.ownsRow.lt (h.own q z l' h2 hl').1 k h3).2
 have ne:∀ (q:Nat) (z:Value),vs[q]? = some z→z.ownBlock≠some g:=fun q z h2 h3=>h.nb q z g h2 h3 rfl
 have nth:∀ (q:Nat) (z:Value),(vs.set r u)[q]? = some z→(q=r∧z=u)∨(q≠r∧vs[q]? = some z):=fun q z h2=>by
  rw[List.getElem?_set] at h2
  by_cases e:r=q
  ·subst e
   rw[if_pos rfl,if_pos hr] at h2
   cases h2
   exact .inl ⟨rfl,rfl⟩
  ·rw[if_neg e] at h2
   exact .inr ⟨fun f=>e f.symm,h2⟩
 refine⟨h1.but.setNew hg _,by rw[List.length_set];exact hst,h.new,by rw[List.length_set,List.length_set];exact h.len,fun q z l' h2 h3=>?_,fun q z k h2 h3=>?_,fun q p z y k h2 h3 h4 h5=>?_⟩
 ·rcases nth q z h2 with⟨rfl,rfl⟩ | ⟨e,h4⟩
  ·rw[List.getElem?_set,if_pos rfl,if_pos (by rw[←h.len];exact hr)] at h3
   cases h3
   exact⟨ownsRow_setCell_other hu hgu _,fun k e=>by have:=hun k e;have:=h.but.size;omega⟩
  ·rw[List.getElem?_set,if_neg (fun f=>e f.symm)] at h3
   obtain⟨h5,h6⟩:=h1.own q z l' h4 h3
   exact⟨ownsRow_setCell_other h5 (ne q z h4) _,h6⟩
 ·rcases nth q z h2 with⟨rfl,rfl⟩ | ⟨e,h4⟩
  ·intro e;cases e;exact hgu h3
  ·exact h.nb q z k h4 h3
 ·rcases nth q z h2 with⟨rfl,rfl⟩ | ⟨e,h6⟩ <;> rcases nth p y h3 with⟨rfl,rfl⟩ | ⟨e',h7⟩
  ·rfl
  ·exfalso;have:=hun k h4;have:=hlt p y k h7 h5;omega
  ·exfalso;have:=hun k h5;have:=hlt q z k h6 h4;omega
  ·exact h.dis q p z y k h6 h7 h4 h5
theorem RoP.made {w w1 w2:World} {n:Nat} (hb:But No w w1) (ho:w2.ownsRow 0 38 1 (.slice (some ⟨w1.heap.size,0,none⟩) n n) n (madeCells (Value.slice none 0 0).cells (n*1)).toList) (hg:w1.grownBy w2 none):RoP w w2 (.slice (some ⟨w1.heap.size,0,none⟩) n n) (List.replicate n (.slice none 0 0)) (List.replicate n []):=by
 have e:(madeCells (Value.slice none 0 0).cells (n*1)).toList=List.replicate n (.slice none 0 0):=by rw[Nat.mul_one];exact toList_madeCells_one _ n
 rw[e] at ho
 refine⟨hb.trans ((But.refl No w1).grown hg (fun k e=>by cases e)),by rw[List.length_replicate];exact ho,fun k e=>by cases e;exact hb.size,by simp,fun r u l h1 h2=>?_,fun r u k h1 h2=>?_,fun r s u z k h1 h2 h3 h4=>?_⟩
 ·rw[List.getElem?_replicate] at h1 h2
  split at h1
  ·rw[if_pos (by assumption)] at h2
   cases h1
   cases h2
   exact⟨OPc.nil _,own_none⟩
  ·cases h1
 ·rw[List.getElem?_replicate] at h1
  split at h1
  ·cases h1;cases h2
  ·cases h1
 ·rw[List.getElem?_replicate] at h1
  split at h1
  ·cases h1;cases h3
  ·cases h1
def cePre (s:Sys) (L:List (List Pc)) (co k:Nat):List (List Int):=(List.range co).map (fun j=>if j<k then ceR s L j else [])
theorem cePre_zero (s:Sys) (L:List (List Pc)) (co:Nat):cePre s L co 0=List.replicate co []:=by
 unfold cePre
 apply List.ext_getElem?
 intro j
 rw[List.getElem?_replicate,List.getElem?_map]
 by_cases h:j<co
 ·simp[h]
 ·simp[h]
theorem cePre_next (s:Sys) (L:List (List Pc)) {co k:Nat} (h:k<co):(cePre s L co k).set k (ceR s L k)=cePre s L co (k+1):=by
 unfold cePre
 apply List.ext_getElem?
 intro j
 rw[List.getElem?_set,List.getElem?_map,List.getElem?_map]
 by_cases hj:j<co
 ·by_cases e:k=j
  ·subst e;simp[hj]
  ·rw[if_neg e,List.getElem?_range hj]
   show some (if j<k then ceR s L j else [])=some (if j<k+1 then ceR s L j else [])
   by_cases h2:j<k
   ·rw[if_pos h2,if_pos (by omega)]
   ·rw[if_neg h2,if_neg (by omega)]
 ·have h2:(List.range co)[j]? = none:=by simp;omega
  rw[h2,if_neg (by omega)]
  rfl
theorem cePre_all (s:Sys) (L:List (List Pc)) {co:Nat} (h:s.co.toNat=co):cePre s L co co=ceV s L:=by
 unfold cePre ceV
 rw[h]
 exact List.map_congr_left (fun j hj=>by rw[if_pos (List.mem_range.1 hj)])
set_option maxRecDepth 100000 in
set_option maxHeartbeats 4000000 in
theorem ceil_top (s:Sys) (A:Option Addr) (n c:Nat) (A':Option Addr) (N c':Nat) (L:List (List Pc)) (w:World) (hs:RSys w A n c s) (hl:RPl w A' N L) :
  Calls Tryz.prog 45 #[sysV s A n c,.slice A' N c'] w fun e w' =>
   (plR s L=false∧e=.returned (.tuple #[.slice none 0 0,.int .i64 1])∧But No w w')∨(plR s L=true∧∃ v vs,e=.returned (.tuple #[v,.int .i64 0])∧RoI w w' v vs (ceV s L)):=by
 have hw1:But No w (w.alloc (.cells (boxS s A n c) 24)):=(But.refl No w).alloc _
 have hly:=lay_any s A n c A' N c' L _ (hs.no hw1) (hl.no hw1)
 have hx0:=Blk.new w (boxS s A n c) 24
 rw[lyB_is] at hly
 have CL:=hid hly
 have HB1:=hid hw1
 have HX0:=hid hx0
 have HL:=hid hl
 have HSN:=hid hs.ts.len
 obtain⟨b0,b1,b2,b3,b4,b5,b6,b7,b8⟩:=sys_cells hx0
 clear hly hs hl hw1 hx0
 unfold sysV
 cases hp:plR s L with
 | false =>
  rw[hp] at CL
  clear hp
  unfold sysV at CL
  unfold boxS at CL HB1 b0 b1 b2 b3 b4 b5 b6 b7 b8
  go_enter Tryz.func45,Tryz.ntmps45
  go_wp2_with (go_at_call 62;(with_reducible refine CL.out.mono ?_);rintro e w1 ⟨h1,v,rfl,h2,h3⟩;obtain rfl:=h3 rfl;unfold zeroLy;have H1:=hid h1;clear h1 h2 h3)
  go_ret2
  exact .inl ⟨trivial,rfl,HB1.out.trans (H1.out.alloc _)⟩
 | true =>
  rw[hp] at CL
  obtain⟨hr,hL,hok⟩:=plR_parts hp
  obtain⟨hcs,hla,hn24,_⟩:=right_nums hr
  obtain⟨hspr,hspo,hrs⟩:=right_pr hr
  have hn:s.ts.length=n:=HSN.out
  obtain⟨co,hco⟩:∃ co:Nat,s.co=(co:Int):=⟨s.co.toNat,by omega⟩
  have hco2:s.co.toNat=co:=by omega
  obtain⟨rs,hrsn⟩:∃ rs:Nat,s.rs=(rs:Int):=⟨s.rs.toNat,by omega⟩
  have hrs8:rs≤8:=by omega
  have HFK:Hid (Fok n (lyF s L)):=hid (by rw[←hn];exact lyF_fok HL.out hL hn24)
  have HP:=hid hp
  have HR:=hid hr
  have HCO:=hid (And.intro hco hco2)
  have HRS:=hid (And.intro hrsn hrs8)
  have HN:=hid (And.intro hn (And.intro hL hn24))
  have hco8:co≤8:=by omega
  have hn24':n≤24:=by omega
  obtain⟨i3,hi0,hz0,hz1,hz2⟩:=info_parts infoII
  have I3:Hid (Tryz.prog.info? 26=some i3∧i3.zero=some (.slice none 0 0)∧i3.size=1∧i3.bytes=24):=⟨hi0,hz0,hz1,hz2⟩
  clear hp hr hL hok hcs hla hn24 hn hco hco2 hi0 hz0 hz1 hz2 hrsn hrs8 hspr hspo hrs
  unfold sysV at CL
  unfold boxS at CL HB1 HX0 b0 b1 b2 b3 b4 b5 b6 b7 b8
  go_enter Tryz.func45,Tryz.ntmps45
  go_upto_region 2 with(go_at_call 62;(with_reducible refine CL.out.mono ?_);rintro e w1 ⟨h1,v,rfl,h2,h3⟩;obtain⟨m,b,K,rfl,h4⟩:=h2 rfl;have H1:=hid h1;have H4:=hid h4;clear h1 h2 h3 h4)
  clear b0 b1 b2 b3 b4 b5 b6 b7 b8
  obtain⟨w2,hw2⟩:∃ w2,w1.alloc (.cells #[.int .i64 s.co,.int .i64 s.po,.int .i64 s.pr,.int .i64 s.re,.int .i64 s.sw,.int .i64 s.fi,.int .i64 s.la,.int .i64 s.rs,.slice A n c,.map (some m),.slice (some ⟨b,0,none⟩) n n] 123)=w2:=⟨_,rfl⟩
  have hb2:But No w1 w2:=by rw[←hw2];exact(But.refl No w1).alloc _
  have hk2:Blk w2 w1.heap.size (lyA s A n c m b) 123:=by rw[←hw2];exact Blk.new w1 _ _
  rw[hw2]
  have HB2:=hid (H1.out.trans hb2)
  have HLY:=hid (H4.out.no hb2)
  have HK:=hid hk2
  have hmw:m<w1.heap.size:=H4.out.map.lt
  have hbw:b<w1.heap.size:=H4.out.whr.lt
  have hs2:w1.heap.size<w2.heap.size:=hk2.lt
  obtain⟨b0,b1,b2,b3,b4,b5,b6,b7,b8⟩:=sys_cells (HX0.out.but HB2.out (fun f=>f))
  rw[HCO.out.1] at b0
  clear hw2 hb2 hk2
  go_upto_region 5 with(at_make;refine wpList_make_full _ rfl _ _ 29 rfl 0 26 i3 _ 1 Tryz.underlying29 I3.out.1 I3.out.2.1 I3.out.2.2.1 .i64 .i64 _ _ co rfl rfl rfl rfl (by rw[I3.out.2.2.2];omega) (by unfold maxLen;omega) (Nat.zero_le _) ?_;intro w3 hown hgrow;have HB3:=hid ((But.refl No w2).grown hgrow (fun k e=>by cases e));have HV3:=hid (RoI.made (HB1.out.trans HB2.out) hown hgrow);clear hown hgrow)
  obtain⟨g,hg⟩:∃ g,w2.heap.size=g:=⟨_,rfl⟩
  rw[hg] at HV3 hs2 ⊢
  have HBB:=hid hg
  have HLY3:=hid (HLY.out.no HB3.out)
  have HK3:=hid (HK.out.but HB3.out (fun f=>f))
  have HOLD:Hid ((w.alloc (.cells #[.int .i64 s.co,.int .i64 s.po,.int .i64 s.pr,.int .i64 s.re,.int .i64 s.sw,.int .i64 s.fi,.int .i64 s.la,.int .i64 s.rs,.slice A n c] 24)).heap.size≤g):=hid (by have h1:=HB2.out.size;rw[HBB.out] at h1;exact h1)
  clear b0 b1 b2 b3 b4 b5 b6 b7 b8 hg
  go_wp2_with fail
  go_loopw [23] (fun i wr=>∃ k:Nat,i=.int .i64 (k:Int)∧k≤co∧Hid (But (Just g) w3 wr∧∃ vs,vs.length=co∧RoI w wr (.slice (some ⟨g,0,none⟩) co co) vs (cePre s L co k))) (fun i _=>co-(intOf i).toNat)
  case atStart=>exact⟨0,rfl,by omega,But.refl _ _,List.replicate co (.slice none 0 0),List.length_replicate,by rw[cePre_zero];exact HV3.out⟩
  case round =>
   obtain⟨k,rfl,hk,HI⟩:=hrel
   have hk0:(0:Int)≤(k:Int):=Int.natCast_nonneg k
   by_cases hlt:k<co
   ·have c3:decide ((k:Int)<(co:Int))=true:=by simp;omega
    have c4:(k:Int)<(co:Int):=by omega
    obtain⟨hbr,vs,hvl,hro⟩:=HI.out
    have hkr:=HK3.out.but hbr (fun e=>by have e':w1.heap.size=g:=e;omega)
    have hlyr:=HLY3.out.turn hbr (fun j _ e=>by rw[show j=g from e];exact⟨HOLD.out,by omega,by omega⟩)
    have hcc:=ceil_any hlyr HFK.out HR.out hn24' (k:Int) (by unfold inR;omega) HRS.out.1 HRS.out.2
    have hon:onN (lyF s L) (k:Int) n=(apS (k:Int) (rkV s L)).map (ptOf s L):=by rw[←HN.out.1];exact ly_on HP.out (by rw[HCO.out.2];exact hlt)
    rw[hon,ce_core HP.out] at hcc
    have HCR:Hid (ceR s L k=(List.range rs).map (ceN s L (k:Int) L.length)):=hid (by unfold ceR;rw[HRS.out.1];rfl)
    generalize ceN s L (k:Int) L.length=ff at hcc HCR
    obtain⟨⟨l0,l1,l2,l3,l4,l5,l6,l7,l8⟩,l9,l10⟩:=ly_cells hkr
    have HBR:=hid hbr
    have HRO:=hid (And.intro hvl hro)
    have HCC:=hid hcc
    clear hcc hon hbr hkr hlyr hvl hro
    dsimp only[lyV,lyA] at HCC
    have HPUT:Hid (∀ w4 q,CE wr w4 q rs ff→w4.frozen? ⟨g,k,none⟩=false∧(∃ u,w4.cell? ⟨g,k,none⟩=some u)∧(But (Just g) w3 (w4.setCell ⟨g,k,none⟩ (.slice (some ⟨q,0,none⟩) rs rs))∧∃ vs,vs.length=co∧RoI w (w4.setCell ⟨g,k,none⟩ (.slice (some ⟨q,0,none⟩) rs rs)) (.slice (some ⟨g,0,none⟩) co co) vs (cePre s L co (k+1)))):=hid (fun w4 q hc=>by
     have h4:=HRO.out.2.no hc.but
     have hrow:w4.ownsRow 0 26 1 (.slice (some ⟨g,0,none⟩) co co) co vs:=by have:=h4.row;rw[HRO.out.1] at this;exact this
     refine⟨hrow.frozenAt k,?_,(HBR.out.trans hc.but.no).setCell (p:=⟨g,k,none⟩) rfl _,vs.set k (.slice (some ⟨q,0,none⟩) rs rs),by rw[List.length_set];exact HRO.out.1,?_⟩
     ·have hl:k<vs.length:=by rw[HRO.out.1];exact hlt
      have:=hrow.cells (g:=g) rfl k vs[k] (List.getElem?_eq_getElem hl)
      rw[add_plain,Nat.zero_add] at this
      exact⟨_,this⟩
     ·rw[←cePre_next s L hlt,HCR.out]
      exact HRO.out.2.put HRO.out.1 hc.but (vals_ov hc.v (by unfold maxLen;have:=HRS.out.2;omega)) (fun j e=>by cases e;exact hc.h) hlt)
    go_wp2_with (go_at_call 74;(with_reducible refine HCC.out.mono ?_);rintro e w4 ⟨q,rfl,h4⟩;obtain⟨hfz,⟨u4,hu4⟩,hput⟩:=HPUT.out w4 q h4;have HP4:=hid hput;clear hput h4)
    go_roundw
    case rel=>exact⟨k+1,by go_num,by omega,HP4⟩
    case measure=>simp[intOf];omega
   ·obtain rfl:k=co:=by omega
    have c3:decide ((k:Int)<(k:Int))=false:=by simp
    go_wp2_with fail
    go_ret2
    obtain⟨_,vs,_,hro⟩:=HI.out
    rw[cePre_all s L HCO.out.2] at hro
    exact .inr ⟨trivial,_,vs,rfl,hro⟩
end Go.Proofs.YtikcigjbhohboaaGreat.pln
end
section
namespace Go.Proofs.YtikcigjbhohboaaGreat.pln
set_option linter.unusedVariables false
set_option linter.unusedSimpArgs false
open Go.ChangeShapes Go.WideShapes Go.ChangeAt Go.RowKit Go.Deep Go.Shelf val ter Go.Sort
theorem ly_at {s:Sys} {L:List (List Pc)} {w:World} {A':Option Addr} {N:Nat} (hp:RPl w A' N L) (h:plR s L=true) {i k:Nat} {l:List Pc} {x:Pc} (hl:L[i]? = some l) (hx:l[k]? = some x) :
  ∃ z:Pt,lyF s L x.co (i:Int)=some z∧z.p=rkP s L i x∧z.i=i∧ownP s (L.map whO) z=ownV s L i x∧(0≤z.p.bu∧z.p.bu≤1099511627776)∧0≤x.co∧x.co<s.co:=by
 obtain⟨hr,hL,hok⟩:=plR_parts h
 obtain⟨hw,_⟩:=tsk_nums hr hL hl
 obtain⟨⟨g0,g1,g3,g4,g5⟩,_⟩:=okL_rg (okS_at hok hl) hw.1 hx
 have hc0:0≤x.co∧x.co<s.co:=by omega
 obtain⟨c,hc⟩:∃ c:Nat,x.co=(c:Int):=⟨x.co.toNat,by omega⟩
 have hy:(⟨rkP s L i x,i,k⟩:Ap) ∈ apS (c:Int) (rkV s L):=apS_in (rkV_at hl) (show (rkL s L i l)[k]? = some (rkP s L i x)by unfold rkL;rw[List.getElem?_map,hx];rfl) hc
 have hm:ptOf s L ⟨rkP s L i x,i,k⟩ ∈ onN (lyF s L) (c:Int) s.ts.length:=by
  rw[ly_on h (show c<s.co.toNat by omega)]
  exact List.mem_map.2 ⟨_,hy,rfl⟩
 obtain⟨j,_,hj⟩:=onN_mem hm
 have hF:=lyF_fok (s:=s) hp hL (right_nums hr).2.2.1
 have hji:(i:Int)=(j:Int):=(hF.at_ _ _ _ hj).2.1
 refine⟨_,by rw[hc,hji];exact hj,rfl,rfl,?_,(pt_bounds h hy).1,hc0⟩
 rw[own_is h hy]
 show ownV s (rkV s L) i (rkP s L i x)=_
 unfold ownV
 rw[wh_rk]
 rfl
end Go.Proofs.YtikcigjbhohboaaGreat.pln
end
section
namespace Go.Proofs.YtikcigjbhohboaaGreat.pln
set_option linter.unusedVariables false
set_option linter.unusedSimpArgs false
open Go.ChangeShapes Go.WideShapes Go.ChangeAt Go.RowKit Go.Deep Go.Shelf val ter Go.Sort
def rwN (G:Pt→Pc) (l:List Pt) (i:Nat):List Pc:=(l.filter (fun x=>decide (x.i=i))).map G
def rwS (N:Nat) (G:Pt→Pc) (l:List Pt):List (List Pc):=(List.range N).map (rwN G l)
theorem rwS_nil (N:Nat) (G:Pt→Pc):rwS N G []=List.replicate N []:=by
 unfold rwS
 apply List.ext_getElem?
 intro j
 rw[List.getElem?_replicate,List.getElem?_map]
 by_cases h:j<N
 ·simp[h,rwN]
 ·simp[h]
theorem rwS_at {N:Nat} {G:Pt→Pc} {l:List Pt} {i:Nat} (h:i<N):(rwS N G l)[i]? = some (rwN G l i):=by
 unfold rwS
 rw[List.getElem?_map,List.getElem?_range h];rfl
theorem rwS_snoc {N:Nat} {G:Pt→Pc} {l:List Pt} {x:Pt} (h:x.i<N):rwS N G (l ++ [x])=(rwS N G l).set x.i (rwN G l x.i ++ [G x]):=by
 unfold rwS
 apply List.ext_getElem?
 intro j
 rw[List.getElem?_set,List.getElem?_map,List.getElem?_map]
 by_cases hj:j<N
 ·rw[List.getElem?_range hj]
  by_cases e:x.i=j
  ·subst e
   rw[if_pos rfl,if_pos (by simpa using h)]
   show some (rwN G (l ++ [x]) x.i)=some _
   unfold rwN
   rw[List.filter_append,List.map_append]
   simp
  ·rw[if_neg e]
   show some (rwN G (l ++ [x]) j)=some (rwN G l j)
   unfold rwN
   rw[List.filter_append]
   simp[e]
 ·have h2:(List.range N)[j]? = none:=by simp;omega
  rw[h2,if_neg (by omega)]
  rfl
theorem visR_filter (lt:Int) (i j:Nat) (l:List Pc):∀ k,(visR lt i l k).filter (fun x=>decide (x.i=j))=if i=j then visR lt i l k else []
 | 0=>by rw[visR];split <;> rfl
 | k+1=>by
  rw[visR,List.filter_append,visR_filter lt i j l k]
  by_cases e:i=j
  ·subst e
   rw[if_pos rfl,if_pos rfl]
   simp[mkP]
  ·rw[if_neg e,if_neg e]
   simp[mkP,e]
theorem visN_filter (lt:Int) (L:List (List Pc)) (j:Nat):∀ n,(visN lt L n).filter (fun x=>decide (x.i=j))=if j<n then visR lt j (L.getD j []) (L.getD j []).length else []
 | 0=>by rw[visN];rfl
 | n+1=>by
  rw[visN,List.filter_append,visN_filter lt L j n,visR_filter]
  by_cases e:n=j
  ·subst e
   rw[if_pos rfl,if_neg (by omega),if_pos (by omega)];rfl
  ·rw[if_neg e,List.append_nil]
   by_cases h:j<n
   ·rw[if_pos h,if_pos (by omega)]
   ·rw[if_neg h,if_neg (by omega)]
theorem visR_map {lt:Int} {i:Nat} {l:List Pc} {G:Pt→Pc} {H:Pc→Pc} (h:∀ (k:Nat) (x:Pc),l[k]? = some x→G (mkP lt i l k x)=H x):∀ k,k≤l.length→(visR lt i l k).map G=(l.take k).map H
 | 0,_=>rfl
 | k+1,hk=>by
  have hx:l[k]? = some (l[k]'(by omega)):=List.getElem?_eq_getElem (by omega)
  rw[visR,List.map_append,visR_map h k (by omega),List.take_add_one,hx,List.map_append,getD_some hx]
  show _ ++ [G (mkP lt i l k _)]=_
  rw[h k _ hx]
  rfl
theorem rwS_all {s:Sys} {L:List (List Pc)} {lt:Int} {G:Pt→Pc} (h:∀ (i:Nat) (l:List Pc) (k:Nat) (x:Pc),L[i]? = some l→l[k]? = some x→G (mkP lt i l k x)=rkP s L i x):rwS L.length G (vis lt L)=rkV s L:=by
 apply List.ext_getElem?
 intro j
 by_cases hj:j<L.length
 ·have hl:L[j]? = some (L[j]'hj):=List.getElem?_eq_getElem hj
  rw[rwS_at hj,rkV_at hl]
  unfold rwN vis
  rw[visN_filter,if_pos hj,getL hl,visR_map (h j _ · · hl) _ (Nat.le_refl _),List.take_length]
  rfl
 ·rw[List.getElem?_eq_none_iff.2 (by unfold rwS;simp;omega),List.getElem?_eq_none_iff.2 (by rw[rkV_len];omega)]
def rkG (s:Sys) (L:List (List Pc)) (x:Pt):Pc:=(ov (lyF s L x.p.co (x.i:Int))).p
theorem rkG_all {s:Sys} {L:List (List Pc)} {w:World} {A':Option Addr} {N:Nat} (hp:RPl w A' N L) (h:plR s L=true) (lt:Int):rwS L.length (rkG s L) (vis lt L)=rkV s L :=
 rwS_all (fun i l k x hl hx=>by
  obtain⟨z,h1,h2,_⟩:=ly_at hp h hl hx
  show (ov (lyF s L x.co (i:Int))).p=_
  rw[h1]
  exact h2)
theorem RoP.grow {w W W1 w5:World} {g n c r:Nat} {u u5:Value} {vs:List Value} {Ls:List (List Pc)} {l5:List Pc} (h:RoP w W (.slice (some ⟨g,0,none⟩) n c) vs Ls) (hn:vs.length=n) (hb:But No W W1) (hr:r<n) (hur:vs[r]? = some u)
  (hg:W1.grownBy w5 u.ownBlock) (hu:OPc w5 u5 l5) (hat:u5.ownBlock=u.ownBlock∨u5.ownBlock=some W1.heap.size) :
  RoP w (w5.setCell ⟨g,r,none⟩ u5) (.slice (some ⟨g,0,none⟩) n c) (vs.set r u5) (Ls.set r l5)∧But (fun k=>u.ownBlock=some k∨k=g) W (w5.setCell ⟨g,r,none⟩ u5):=by
 subst hn
 have hg0:g<W.heap.size:=(World.ownsRow.lt h.row g rfl).2
 have hgw:w.heap.size≤g:=h.new g rfl
 have h1:=h.no hb
 have hsz:=hb.size
 have hsz0:=h.but.size
 have hB5:But (fun k=>u.ownBlock=some k) W1 w5:=(But.refl _ W1).grown hg (fun k e=>.inl e)
 have hug:u.ownBlock≠some g:=fun e=>h.nb r u g hur e rfl
 have huw:∀ k,u.ownBlock=some k→w.heap.size≤k:=fun k e=>by
  obtain⟨l,hl⟩:∃ l,Ls[r]? = some l:=⟨_,List.getElem?_eq_getElem (by rw[←h.len];exact hr)⟩
  exact(h.own r u l hur hl).2 k e
 have hgu:u5.ownBlock≠some g:=fun e=>by
  rcases hat with f | f
  ·rw[f] at e;exact hug e
  ·rw[f] at e;cases e;omega
 have hrow5:w5.ownsRow 0 38 1 (.slice (some ⟨g,0,none⟩) vs.length c) vs.length vs:=owns_but h1.row hB5 (fun k e f=>by cases e;exact hug f)
 have hst:=(hrow5.stored r u5).1
 have hlt:∀ (q:Nat) (z:Value) (k:Nat),vs[q]? = some z→z.ownBlock=some k→k<W.heap.size:=fun q z k h2 h3=>by
  obtain⟨l',hl'⟩:∃ l',Ls[q]? = some l':=⟨_,List.getElem?_eq_getElem (by rw[←h.len];exact(List.getElem?_eq_some_iff.1 h2).1)⟩
  exact(World.ownsRow.lt (h.own q z l' h2 hl').1 k h3).2
 have nth:∀ (q:Nat) (z:Value),(vs.set r u5)[q]? = some z→(q=r∧z=u5)∨(q≠r∧vs[q]? = some z):=fun q z h2=>by
  rw[List.getElem?_set] at h2
  by_cases e:r=q
  ·subst e
   rw[if_pos rfl,if_pos hr] at h2
   cases h2
   exact .inl ⟨rfl,rfl⟩
  ·rw[if_neg e] at h2
   exact .inr ⟨fun f=>e f.symm,h2⟩
 have sep:∀ (q:Nat) (z:Value) (k:Nat),q≠r→vs[q]? = some z→z.ownBlock=some k→u5.ownBlock=some k→False:=fun q z k hq h2 h3 h4=>by
  rcases hat with f | f
  ·rw[f] at h4;exact hq (h.dis q r z u k h2 hur h3 h4)
  ·rw[f] at h4;cases h4;have:=hlt q z _ h2 h3;omega
 have hbut:But (fun k=>u.ownBlock=some k∨k=g) W (w5.setCell ⟨g,r,none⟩ u5):=((hb.no.trans (hB5.mono (fun k _ e=>.inl e)))).setCell (p:=⟨g,r,none⟩) (.inr rfl) _
 refine⟨⟨h.but.andThen' hbut (fun k _ e=>by rcases e with e | e;exact huw k e;omega),by rw[List.length_set];exact hst,h.new,by rw[List.length_set,List.length_set];exact h.len,fun q z l' h2 h3=>?_,fun q z k h2 h3=>?_,fun q p z y k h2 h3 h4 h5=>?_⟩,hbut⟩
 ·rcases nth q z h2 with⟨rfl,rfl⟩ | ⟨e,h4⟩
  ·rw[List.getElem?_set,if_pos rfl,if_pos (by rw[←h.len];exact hr)] at h3
   cases h3
   refine⟨ownsRow_setCell_other hu hgu _,fun k e=>?_⟩
   rcases hat with f | f
   ·rw[f] at e;exact huw k e
   ·rw[f] at e;cases e;omega
  ·rw[List.getElem?_set,if_neg (fun f=>e f.symm)] at h3
   obtain⟨h5,h6⟩:=h1.own q z l' h4 h3
   refine⟨ownsRow_setCell_other (owns_but h5 hB5 (fun k e' f=>e (h.dis q r z u k h4 hur e' f))) (fun e'=>h.nb q z g h4 e' rfl) _,h6⟩
 ·rcases nth q z h2 with⟨rfl,rfl⟩ | ⟨e,h4⟩
  ·intro e;cases e;exact hgu h3
  ·exact h.nb q z k h4 h3
 ·rcases nth q z h2 with⟨rfl,rfl⟩ | ⟨e,h6⟩ <;> rcases nth p y h3 with⟨rfl,rfl⟩ | ⟨e',h7⟩
  ·rfl
  ·exact(sep p y k e' h7 h5 h4).elim
  ·exact(sep q z k e h6 h4 h5).elim
  ·exact h.dis q p z y k h6 h7 h4 h5
def TR (B g:Nat) (W:World) (k:Nat):Prop:=B≤k∧(k=g∨(∃ r u,W.cell? ⟨g,r,none⟩=some u∧u.ownBlock=some k)∨∃ o:Obj,W.heap[k]? = some o∧o.isCells=false)
theorem tr_alloc {B g:Nat} (hBg:B≤g):∀ X cs e,(∀ k,TR B g X k→k<X.heap.size)→∀ k,TR B g (X.alloc (.cells cs e)) k→TR B g X k:=by
 rintro X cs e hX k ⟨h1,h2⟩
 have hgX:=hX g ⟨hBg,.inl rfl⟩
 refine⟨h1,?_⟩
 rcases h2 with h2 | ⟨r,u,h2,h3⟩ | ⟨o,ho,hc⟩
 ·exact .inl h2
 ·refine .inr (.inl ⟨r,u,?_,h3⟩)
  rw[((But.refl No X).alloc (.cells cs e)).cell hgX (fun f=>f)] at h2
  exact h2
 ·by_cases hk:k<X.heap.size
  ·exact .inr (.inr ⟨o,((((But.refl No X).alloc (.cells cs e)).block k hk (fun f=>f)).symm.trans ho),hc⟩)
  ·have hl:=(Array.getElem?_eq_some_iff.1 ho).1
   rw[World.size_alloc] at hl
   obtain rfl:k=X.heap.size:=by omega
   have hn:=World.alloc_heap_new X (.cells cs e)
   rw[hn] at ho
   cases ho;cases hc
theorem tr_no {B g:Nat} {X Y:World} (h:But No X Y) (hBg:B≤g):KT (TR B g) X Y:=fun ho=>by
 have hgX:=ho g ⟨hBg,.inl rfl⟩
 refine⟨h.no,fun k hk ⟨h1,h2⟩=>⟨h1,?_⟩,fun k ⟨h1,h2⟩=>?_⟩
 ·rcases h2 with h2 | ⟨r,u,h2,h3⟩ | ⟨o,h2,h3⟩
  ·exact .inl h2
  ·rw[h.cell hgX (fun f=>f)] at h2;exact .inr (.inl ⟨r,u,h2,h3⟩)
  ·exact .inr (.inr ⟨o,(h.block k hk (fun f=>f)).symm.trans h2,h3⟩)
 ·rcases h2 with h2 | ⟨r,u,h2,h3⟩ | ⟨o,h2,h3⟩
  ·rw[h2];exact Nat.lt_of_lt_of_le hgX h.size
  ·rw[h.cell hgX (fun f=>f)] at h2;exact Nat.lt_of_lt_of_le (ho k ⟨h1,.inr (.inl ⟨r,u,h2,h3⟩)⟩) h.size
  ·exact(Array.getElem?_eq_some_iff.1 h2).1
theorem tr_put {B g:Nat} (X:World) (l:Nat) (o o':Obj) (hBg:B≤g) (hgl:g<l) (ho:X.heap[l]? = some o) (hc:o.isCells=false):KT (TR B g) X (X.putObj l o'):=fun hk=>by
 have hgX:=hk g ⟨hBg,.inl rfl⟩
 have hl:TR B g X l:=⟨by omega,.inr (.inr ⟨o,ho,hc⟩)⟩
 have hb:But (fun k=>k=l) X (X.putObj l o'):=(But.refl _ X).grown (grownBy_putObj' _ l o') (fun k e=>.inl (by cases e;rfl))
 have hcell:∀ r,(X.putObj l o').cell? ⟨g,r,none⟩=X.cell? ⟨g,r,none⟩:=fun r=>hb.cell hgX (by show ¬g=l;omega)
 refine⟨hb.mono (fun k _ e=>by rw[show k=l from e];exact hl),fun k hk2 ⟨h1,h2⟩=>?_,fun k ⟨h1,h2⟩=>?_⟩
 ·by_cases e:k=l
  ·rw[e];exact hl
  ·rcases h2 with h2 | ⟨r,u,h2,h3⟩ | ⟨z,h3,h4⟩
   ·exact⟨h1,.inl h2⟩
   ·rw[hcell] at h2;exact⟨h1,.inr (.inl ⟨r,u,h2,h3⟩)⟩
   ·exact⟨h1,.inr (.inr ⟨z,(hb.block k hk2 e).symm.trans h3,h4⟩)⟩
 ·rcases h2 with h2 | ⟨r,u,h2,h3⟩ | ⟨z,h3,_⟩
  ·rw[h2];exact Nat.lt_of_lt_of_le hgX hb.size
  ·rw[hcell] at h2;exact Nat.lt_of_lt_of_le (hk k ⟨h1,.inr (.inl ⟨r,u,h2,h3⟩)⟩) hb.size
  ·exact(Array.getElem?_eq_some_iff.1 h3).1
theorem RoP.apart {w W:World} {v:Value} {vs:List Value} {Ls:List (List Pc)} (h:RoP w W v vs Ls) {b:Nat} {cur:Array Value} {e:TypeId} (hb:Blk W b cur e) (he:e≠42) {r:Nat} {u:Value} (hu:vs[r]? = some u):u.ownBlock≠some b:=fun f=>by
 obtain⟨l,hl⟩:∃ l,Ls[r]? = some l:=⟨_,List.getElem?_eq_getElem (by rw[←h.len];exact(List.getElem?_eq_some_iff.1 hu).1)⟩
 obtain⟨h1,h2⟩:=(h.own r u l hu hl).1
 rcases h2 with⟨h2,_⟩ | ⟨g',cap,cu,hv,_,hh,_⟩
 ·rw[h2] at f;cases f
 ·rw[hv] at f;cases f
  unfold Blk at hb
  rw[hb] at hh
  cases hh
  exact he rfl
theorem tr_grow {w W W1 w5:World} {g n c r:Nat} {u u5:Value} {vs:List Value} {Ls:List (List Pc)} (h:RoP w W (.slice (some ⟨g,0,none⟩) n c) vs Ls) (hr:r<n) (hn:vs.length=n) (hur:vs[r]? = some u) (hb1:But No W W1) (hg:W1.grownBy w5 u.ownBlock)
  (hu5:∀ k,u5.ownBlock=some k→k<w5.heap.size) (hat:u5.ownBlock=u.ownBlock∨u5.ownBlock=some W1.heap.size) (hbut:But (fun k=>u.ownBlock=some k∨k=g) W (w5.setCell ⟨g,r,none⟩ u5)):KT (TR w.heap.size g) W (w5.setCell ⟨g,r,none⟩ u5):=fun ho=>by
 subst hn
 have hgw:w.heap.size≤g:=h.new g rfl
 have hgX:=ho g ⟨hgw,.inl rfl⟩
 have hsz:=hb1.size
 have hug:u.ownBlock≠some g:=fun e=>h.nb r u g hur e rfl
 have hcu:W.cell? ⟨g,r,none⟩=some u:=by
  have:=h.row.cells (g:=g) rfl r u hur
  rw[add_plain,Nat.zero_add] at this
  exact this
 have huw:∀ k,u.ownBlock=some k→w.heap.size≤k:=fun k e=>by
  obtain⟨l,hl⟩:∃ l,Ls[r]? = some l:=⟨_,List.getElem?_eq_getElem (by rw[←h.len];exact hr)⟩
  exact(h.own r u l hur hl).2 k e
 have hS:∀ k,(u.ownBlock=some k∨k=g)→TR w.heap.size g W k:=fun k e=>by
  rcases e with e | e
  ·exact⟨huw k e,.inr (.inl ⟨r,u,hcu,e⟩)⟩
  ·exact⟨by omega,.inl e⟩
 have hB5:But (fun k=>u.ownBlock=some k) W w5:=hb1.no.trans ((But.refl _ W1).grown hg (fun k e=>.inl e))
 have hcell:∀ q z,(w5.setCell ⟨g,r,none⟩ u5).cell? ⟨g,q,none⟩=some z→W.cell? ⟨g,q,none⟩=some z∨z=u5:=fun q z hz=>by
  by_cases e:q=r
  ·subst e
   have h5:w5.cell? ⟨g,q,none⟩=some u:=by rw[hB5.cell hgX hug];exact hcu
   rw[World.cell?_setCell_same w5 ⟨g,q,none⟩ u5 h5] at hz
   cases hz
   exact .inr rfl
  ·rw[World.cell?_setCell_other w5 ⟨g,r,none⟩ ⟨g,q,none⟩ u5 (fun f=>by injection f with f1 f2;exact e f2.symm),hB5.cell hgX hug] at hz
   exact .inl hz
 refine⟨hbut.mono (fun k _ e=>hS k e),fun k hk ⟨h1,h2⟩=>?_,fun k ⟨h1,h2⟩=>?_⟩
 ·rcases h2 with h2 | ⟨q,z,h2,h3⟩ | ⟨o,h2,h3⟩
  ·exact⟨h1,.inl h2⟩
  ·rcases hcell q z h2 with h4 | h4
   ·exact⟨h1,.inr (.inl ⟨q,z,h4,h3⟩)⟩
   ·subst h4
    rcases hat with f | f
    ·rw[f] at h3;exact hS k (.inl h3)
    ·rw[f] at h3;cases h3;omega
  ·by_cases e:u.ownBlock=some k∨k=g
   ·exact hS k e
   ·exact⟨h1,.inr (.inr ⟨o,(hbut.block k hk e).symm.trans h2,h3⟩)⟩
 ·rcases h2 with h2 | ⟨q,z,h2,h3⟩ | ⟨o,h2,h3⟩
  ·rw[h2];exact Nat.lt_of_lt_of_le hgX hbut.size
  ·rcases hcell q z h2 with h4 | h4
   ·exact Nat.lt_of_lt_of_le (ho k ⟨h1,.inr (.inl ⟨q,z,h4,h3⟩)⟩) hbut.size
   ·subst h4
    have:=hu5 k h3
    simpa [World.setCell] using this
  ·exact(Array.getElem?_eq_some_iff.1 h2).1
end Go.Proofs.YtikcigjbhohboaaGreat.pln
end
section
namespace Go.Proofs.YtikcigjbhohboaaGreat.pln
set_option linter.unusedVariables false
set_option linter.unusedSimpArgs false
open Go.ChangeShapes Go.WideShapes Go.ChangeAt Go.RowKit Go.Deep Go.Shelf val ter Go.Sort
theorem RoP.turn {w W W':World} {v:Value} {vs:List Value} {Ls:List (List Pc)} {S:Nat→Prop} (h:RoP w W v vs Ls) (hb:But S W W') (hv:∀ k,S k→w.heap.size≤k∧v.ownBlock≠some k∧∀ (r:Nat) (u:Value),vs[r]? = some u→u.ownBlock≠some k):RoP w W' v vs Ls :=
 ⟨h.but.andThen' hb (fun k _ e=>(hv k e).1),owns_but h.row hb (fun k e f=>(hv k f).2.1 e),h.new,h.len,fun r u l h1 h2=>⟨owns_but (h.own r u l h1 h2).1 hb (fun k e f=>(hv k f).2.2 r u h1 e),(h.own r u l h1 h2).2⟩,h.nb,h.dis⟩
theorem owns_cells {w:World} {e:TypeId} {sz n:Nat} {v:Value} {xs:List Value} (h:w.ownsRow 0 e sz v n xs) {k:Nat} (hk:v.ownBlock=some k):∃ cur,Blk w k cur e:=by
 obtain⟨_,h2⟩:=h
 rcases h2 with⟨h2,_⟩ | ⟨g',cap,cur,hv,_,hh,_⟩
 ·rw[h2] at hk;cases hk
 ·rw[hv] at hk;cases hk
  exact⟨cur,hh⟩
structure RkI (w W5:World) (g N:Nat) (Ls:List (List Pc)) (W:World):Prop where
 ex:∃ vs:List Value,vs.length=N∧RoP w W (.slice (some ⟨g,0,none⟩) N N) vs Ls∧∀ (r:Nat) (u:Value) (k:Nat),vs[r]? = some u→u.ownBlock=some k→W5.heap.size≤k
 but:But (Just g) W5 W
section
variable {w W5 W W':World} {g N:Nat} {Ls:List (List Pc)}
theorem RkI.no (h:RkI w W5 g N Ls W) (hb:But No W W'):RkI w W5 g N Ls W':=by
 obtain⟨⟨vs,h1,h2,h3⟩,h4⟩:=h
 exact⟨⟨vs,h1,h2.no hb,h3⟩,h4.trans hb.no⟩
theorem RkI.turn (h:RkI w W5 g N Ls W) (hg5:g<W5.heap.size) {row:Option Nat} (hg:W.grownBy W' row) (hr:∀ r,row=some r→W5.heap.size≤r∧∃ o:Obj,W.heap[r]? = some o∧o.isCells=false):RkI w W5 g N Ls W':=by
 obtain⟨⟨vs,h1,h2,h3⟩,h4⟩:=h
 have hb:But (fun k=>row=some k) W W':=(But.refl _ W).grown hg (fun k e=>.inl e)
 refine⟨⟨vs,h1,h2.turn hb (fun k e=>?_),h3⟩,h4.grown hg (fun k e=>.inr (hr k e).1)⟩
 obtain⟨h5,o,h6,h7⟩:=hr k e
 refine⟨?_,fun e2=>?_,fun r u hu e2=>?_⟩
 ·have hgn:=h2.new g rfl
  omega
 ·obtain⟨cur,hc⟩:=owns_cells h2.row e2
  unfold Blk at hc
  rw[h6] at hc
  cases hc
  cases h7
 ·obtain⟨l,hl⟩:∃ l,Ls[r]? = some l:=⟨_,List.getElem?_eq_getElem (by rw[←h2.len];exact(List.getElem?_eq_some_iff.1 hu).1)⟩
  obtain⟨cur,hc⟩:=owns_cells (h2.own r u l hu hl).1 e2
  unfold Blk at hc
  rw[h6] at hc
  cases hc
  cases h7
theorem RkI.push (h:RkI w W5 g N Ls W) (hg5:g<W5.heap.size) {r:Nat} {l:List Pc} (hl:Ls[r]? = some l) :
  ∃ u:Value,W.cell? ⟨g,r,none⟩=some u∧OPc W u l∧(∀ k,u.ownBlock=some k→W5.heap.size≤k∧∃ cur,Blk W k cur 42)∧r<N ∧
   ∀ (W1 w5:World) (u5:Value) (l5:List Pc),But No W W1→W1.grownBy w5 u.ownBlock→OPc w5 u5 l5→(u5.ownBlock=u.ownBlock∨u5.ownBlock=some W1.heap.size) →
    (w5.cell? ⟨g,r,none⟩=some u∧w5.frozen? ⟨g,r,none⟩=false)∧But (fun k=>u.ownBlock=some k∨k=g) W (w5.setCell ⟨g,r,none⟩ u5)∧KeepsFrom W5.heap.size W (w5.setCell ⟨g,r,none⟩ u5)∧KT (TR w.heap.size g) W (w5.setCell ⟨g,r,none⟩ u5)∧RkI w W5 g N (Ls.set r l5) (w5.setCell ⟨g,r,none⟩ u5):=by
 obtain⟨⟨vs,h1,h2,h3⟩,h4⟩:=h
 have hr:r<N:=by have:=(List.getElem?_eq_some_iff.1 hl).1;have:=h2.len;omega
 obtain⟨u,hu⟩:∃ u,vs[r]? = some u:=⟨_,List.getElem?_eq_getElem (by omega)⟩
 have hrow:W.ownsRow 0 38 1 (.slice (some ⟨g,0,none⟩) N N) N vs:=by have:=h2.row;rw[h1] at this;exact this
 have hcu:W.cell? ⟨g,r,none⟩=some u:=by
  have:=hrow.cells (g:=g) rfl r u hu
  rw[add_plain,Nat.zero_add] at this
  exact this
 have hou:=(h2.own r u l hu hl).1
 refine⟨u,hcu,hou,fun k e=>⟨h3 r u k hu e,owns_cells hou e⟩,hr,fun W1 w5 u5 l5 hb hg ho hat=>?_⟩
 obtain⟨hg1,hg2⟩:=h2.grow h1 hb hr hu hg ho hat
 have hug:u.ownBlock≠some g:=fun e=>by have:=h3 r u g hu e;omega
 have hgW:g<W.heap.size:=Nat.lt_of_lt_of_le hg5 h4.size
 have hsz:=hb.size
 have hB5:But (fun k=>u.ownBlock=some k) W w5:=hb.no.trans ((But.refl _ W1).grown hg (fun k e=>.inl e))
 refine⟨⟨by rw[hB5.cell hgW hug];exact hcu,?_⟩,hg2,⟨hg2.size,fun k o hB hk hc=>?_⟩,tr_grow h2 hr h1 hu hb hg (fun k e=>(World.ownsRow.lt ho k e).2) hat hg2,⟨vs.set r u5,by rw[List.length_set];exact h1,hg1,fun q z k h5 h6=>?_⟩,?_⟩
 ·exact(owns_but hrow hB5 (fun k e f=>by cases e;exact hug f)).frozenAt r
 ·have hkl:=(Array.getElem?_eq_some_iff.1 hk).1
  refine(hg2.block k hkl (fun e=>?_)).trans hk
  rcases e with e | e
  ·obtain⟨cur,hb⟩:=owns_cells hou e
   unfold Blk at hb
   rw[hk] at hb;cases hb;cases hc
  ·subst e
   obtain⟨cur,hb⟩:=owns_cells hrow (k:=k) rfl
   unfold Blk at hb
   rw[hk] at hb;cases hb;cases hc
 ·rw[List.getElem?_set] at h5
  by_cases e:r=q
  ·subst e
   rw[if_pos rfl,if_pos (by omega)] at h5
   cases h5
   rcases hat with f | f
   ·rw[f] at h6;exact h3 r u k hu h6
   ·rw[f] at h6;cases h6
    have:=h4.size;omega
  ·rw[if_neg e] at h5
   exact h3 q z k h5 h6
 ·refine h4.andThen hg2 (fun k e=>?_)
  rcases e with e | e
  ·exact .inr (h3 r u k hu e)
  ·exact .inl e
end
theorem tr_start {w w5 W:World} {g N:Nat} {Ls:List (List Pc)} (h:RoP w w5 (.slice (some ⟨g,0,none⟩) N N) (List.replicate N (.slice none 0 0)) Ls) (hg5:g<w5.heap.size) (hW:But No w5 W) {b1 b2:Nat} {c1 c2:Array Value} {e1 e2:TypeId} (hb1:g<b1) (hb2:g<b2) (hk1:Blk w5 b1 c1 e1) (hk2:Blk w5 b2 c2 e2) :
  (∀ k,TR w.heap.size g W k→k<W.heap.size)∧(∀ k,k<w.heap.size→¬TR w.heap.size g W k)∧¬TR w.heap.size g W b1∧¬TR w.heap.size g W b2:=by
 have hno:∀ (r:Nat) (u:Value) (k:Nat),W.cell? ⟨g,r,none⟩=some u→u.ownBlock=some k→False:=fun r u k h1 h2=>by
  rw[hW.cell hg5 (fun f=>f)] at h1
  have hrow:=h.row
  rw[List.length_replicate] at hrow
  obtain⟨_,h3⟩:=hrow
  rcases h3 with⟨h3,_⟩ | ⟨g',cap,cur,hv,_,hh,_,_,hs,ht⟩
  ·cases h3
  ·cases hv
   have hcur:cur[r]? = some u:=by simpa [World.cell?,hh] using h1
   have hr:r<cur.size:=(Array.getElem?_eq_some_iff.1 hcur).1
   have e:(cur.toList.take (N*1))[r]? = some u:=by
    rw[List.getElem?_take,if_pos (by omega)]
    simpa using hcur
   rw[ht,List.getElem?_replicate] at e
   split at e
   ·cases e;cases h2
   ·cases e
 have hnot:∀ {b:Nat} {c:Array Value} {e:TypeId},g<b→Blk w5 b c e→¬TR w.heap.size g W b:=fun {b c e} hb hk ⟨_,h2⟩=>by
  rcases h2 with h2 | ⟨r,u,h2,h3⟩ | ⟨o,h2,h3⟩
  ·omega
  ·exact hno r u b h2 h3
  ·have:=hk.but hW (fun f=>f)
   unfold Blk at this
   rw[this] at h2
   cases h2;cases h3
 refine⟨fun k ⟨_,h2⟩=>?_,fun k hk ⟨h1,_⟩=>by omega,hnot hb1 hk1,hnot hb2 hk2⟩
 rcases h2 with h2 | ⟨r,u,h2,h3⟩ | ⟨o,h2,_⟩
 ·rw[h2];exact Nat.lt_of_lt_of_le hg5 hW.size
 ·exact(hno r u k h2 h3).elim
 ·exact(Array.getElem?_eq_some_iff.1 h2).1
theorem offN_few {L:List (List Pc)} (h:∀ l ∈ L,l.length≤8):∀ n,offN L n≤8*n
 | 0=>Nat.le_refl _
 | n+1=>by
  rw[offN]
  have h1:=offN_few h n
  have h2:(L.getD n []).length≤8:=by
   by_cases hn:n<L.length
   ·rw[getL (List.getElem?_eq_getElem hn)];exact h _ (List.getElem_mem hn)
   ·rw[List.getD_eq_getElem?_getD,List.getElem?_eq_none_iff.2 (by omega)];exact Nat.zero_le _
  omega
theorem vis_few {lt:Int} {L:List (List Pc)} (h:∀ l ∈ L,l.length≤8) (hn:L.length≤24):(vis lt L).length≤192:=by
 unfold vis
 rw[visN_len]
 have:=offN_few h L.length
 omega
theorem rwN_len (G:Pt→Pc) (l:List Pt) (i:Nat):(rwN G l i).length≤l.length:=by
 unfold rwN
 rw[List.length_map]
 exact List.length_filter_le _ _
end Go.Proofs.YtikcigjbhohboaaGreat.pln
end
