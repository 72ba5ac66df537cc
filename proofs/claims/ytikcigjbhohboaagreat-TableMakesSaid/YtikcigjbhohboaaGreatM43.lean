/- Part 43 of a proof: PeA PeW. -/
import Derived.Test.YtikcigjbhohboaaGreatM38
section
namespace Go.Proofs.YtikcigjbhohboaaGreat.pln
set_option linter.unusedVariables false
open Go.ChangeShapes Go.WideShapes Go.ChangeAt Go.RowKit Go.Deep
abbrev CheckAt (s:Sys):Prop:=∀ (A:Option Addr) (n c:Nat) (A':Option Addr) (N c':Nat) (L:List (List Pc)) (w:World),RSys w A n c s→RPl w A' N L→Calls Tryz.prog 53 #[sysV s A n c,.slice A' N c'] w fun e w'=>∃ v,e=.returned (.tuple #[v,.int .i64 (chkV s L).2.1,.int .i64 (chkV s L).2.2])∧But No w w'∧Ov w' v (chkV s L).1
def iL (l:List Nat):List Int:=l.map (fun i:Nat=>(i:Int))
theorem run_append_back {P:Program} (w:World) (t ty e:TypeId) (i:TypeInfo) (z:Value) (size bytes:Nat) (ht:P.underlying t=some (.slice e)) (hi:P.info? e=some i) (hz:i.zero=some z)
  (hsize:i.size=size) (hby:i.bytes=bytes) (hzs:z.cells.size=size) (hsz:0<size) (v:Value) (n:Nat) (xs:List Value) (hown:w.ownsRow 0 e size v n xs)
  (a:Addr) (m c:Nat) (news:List Value) (hl:news.length=m*size) (hnews:∀ j u,news[j]? = some u→w.cell? (a.add j)=some u) (h1:∀ u ∈ news,u.oneCell'=true) (h63:n+m≤maxLen) (hbytes:(n+m)*bytes≤140737488355328) :
  ∃ A' c' w',(Builtin.append_ #[t,t] ty #[v,.slice (some a) m c]).run P w=.ok (.slice A' (n+m) c') w'∧w'.ownsRow 0 e size (.slice A' (n+m) c') (n+m) (xs ++ news)∧w.grownBy w' v.ownBlock ∧
   ((Value.slice A' (n+m) c').ownBlock=v.ownBlock∨(Value.slice A' (n+m) c').ownBlock=some w.heap.size)∧w'.ownsRow 0 e size v n xs:=by
 have K:=run_append_own_at (P:=P) w 0 t ty e i z size bytes ht hi hz hsize hby hzs hsz v n xs hown a m c news hl hnews h1 h63 hbytes (Nat.zero_le _)
 obtain⟨v',w',hr,h2,h3,_,h5⟩:=K
 obtain⟨A',c',rfl⟩:=owns_slice h2
 refine⟨A',c',w',hr,h2,h3,h5,?_⟩
 obtain⟨g1,g2⟩:=hown
 rcases g2 with⟨rfl,rfl⟩ | ⟨g,cap,cur,rfl,hbg,hg,hnc,hcm,hcs,htake⟩
 ·exact⟨g1,.inl ⟨rfl,rfl⟩⟩
 ·by_cases hroom:n+m≤cap
  ·obtain⟨w2,hr2,h6,_⟩:=run_append_fits (P:=P) w 0 t ty e i size ht hi hsize g n cap xs ⟨g1,.inr ⟨g,cap,cur,rfl,hbg,hg,hnc,hcm,hcs,htake⟩⟩ a m c news hl hnews h1 hroom
   rw[hr] at hr2
   cases hr2
   refine⟨g1,?_⟩
   obtain⟨_,h7⟩:=h6
   rcases h7 with⟨h7,_⟩ | ⟨g',cap',cur',hv,_,hg',_,_,hcs',ht'⟩
   ·cases h7
   cases hv
   refine .inr ⟨g,_,cur',rfl,hbg,hg',hnc,hcm,hcs',?_⟩
   have e1:(cur'.toList.take ((n+m)*size)).take (n*size)=(xs ++ news).take (n*size):=by rw[ht']
   rw[List.take_take,Nat.min_eq_left (Nat.mul_le_mul_right _ (by omega))] at e1
   rw[e1,←g1,List.take_left]
  ·subst hsize
   have holds:∀ j u,xs[j]? = some u→w.cell? ((⟨g,0,none⟩:Addr).add j)=some u:=World.ownsRow.cells (g:=g) ⟨g1,.inr ⟨g,cap,cur,rfl,hbg,hg,hnc,hcm,hcs,htake⟩⟩ rfl
   have hr2:=run_append_grow (P:=P) w t ty e i z ht hi hz ⟨g,0,none⟩ n cap xs g1 holds a m c news hl hnews (by omega) (by simp only[maxLen] at h63;omega) (growslice_fits (by omega) (by rw[hby];exact hbytes))
   rw[hr] at hr2
   cases hr2
   refine⟨g1,.inr ⟨g,cap,cur,rfl,hbg,?_,hnc,hcm,hcs,htake⟩⟩
   have hlt:g<w.heap.size:=(Array.getElem?_eq_some_iff.1 hg).1
   exact(Below.heap_alloc w.drew _ _ hlt).trans hg
theorem step_append_bk {P:Program} {ops:Array Oper} {o:Oper} {a:Act} {w:World} {K:Act→World→Prop} {Q:Exit→Act→World→Prop} {E:Prop} (hgd:o.guard=none) (s x:Operand) (t:TypeId)
  (ho:o.op=.call { callee:=.builtin .append,args:=#[s,x],argTypes:=#[t,t] })
  (e:TypeId) (i:TypeInfo) (z:Value) (size bytes:Nat) (ht:P.underlying t=some (.slice e)) (hi:P.info? e=some i) (hz:i.zero=some z)
  (hsize:i.size=size) (hby:i.bytes=bytes) (hzs:z.cells.size=size) (hsz:0<size)
  (v:Value) (n:Nat) (xs:List Value) (hs:a.eval s=v) (hown:w.ownsRow 0 e size v n xs)
  (ad:Addr) (m c:Nat) (news:List Value) (hx:a.eval x=.slice (some ad) m c) (hl:news.length=m*size) (hnews:∀ j u,news[j]? = some u→w.cell? (ad.add j)=some u) (h1:∀ u ∈ news,u.oneCell'=true)
  (h63:n+m≤maxLen) (hbytes:(n+m)*bytes≤140737488355328)
  (h:∀ A' c' w',Hid (w'.ownsRow 0 e size (.slice A' (n+m) c') (n+m) (xs ++ news))→Hid (w.grownBy w' v.ownBlock)→Hid ((Value.slice A' (n+m) c').ownBlock=v.ownBlock∨(Value.slice A' (n+m) c').ownBlock=some w.heap.size)→Hid (w'.ownsRow 0 e size v n xs)→K (a.put o.dst (.slice A' (n+m) c')) w') :
  if Region.wanted o (yielded ops a.tmps)=true then Oper.wp P o a w K Q else E:=by
 have hw:Region.wanted o (yielded ops a.tmps)=true:=by simp[Region.wanted,hgd]
 rw[if_pos hw]
 obtain⟨A',c',w',hr,h2,h3,h4,h5⟩:=run_append_back (P:=P) w t o.type e i z size bytes ht hi hz hsize hby hzs hsz v n xs hown ad m c news hl hnews h1 h63 hbytes
 unfold Oper.wp execOp
 simp only[ho,resolve,invoke,builtin,Sem.run_bind,Sem.run_pure,Result.andThen_ok,List.map_toArray,List.map_cons,List.map_nil,hs,hx,hr]
 exact h A' c' w' h2 h3 h4 h5
section
variable {w W W1 w5 W2:World} {g n c r:Nat} {u u5:Value} {vs:List Value} {Ls:List (List Pc)} {l l5:List Pc}
theorem _root_.List.set_getElem_self' {α:Type} {l:List α} {r:Nat} {u:α} (h:l[r]? = some u):l.set r u=l:=by
 apply List.ext_getElem?
 intro j
 rw[List.getElem?_set]
 by_cases e:r=j
 ·subst e;rw[if_pos rfl,h];simp[(List.getElem?_eq_some_iff.1 h).1]
 ·rw[if_neg e]
theorem RoP.back (h:RoP w W (.slice (some ⟨g,0,none⟩) n c) vs Ls) (hn:vs.length=n) (hr:r<n) (hur:vs[r]? = some u) (hlr:Ls[r]? = some l)
  (h2:RoP w W1 (.slice (some ⟨g,0,none⟩) n c) (vs.set r u5) (Ls.set r l5)) (hu:OPc W1 u l):RoP w (W1.setCell ⟨g,r,none⟩ u) (.slice (some ⟨g,0,none⟩) n c) vs Ls:=by
 subst hn
 have hug:u.ownBlock≠some g:=fun e=>h.nb r u g hur e rfl
 have hrw:=h2.row
 rw[List.length_set] at hrw
 have hst:=(hrw.stored r u).1
 rw[List.set_set,List.set_getElem_self' hur] at hst
 refine⟨h2.but.setNew (h.new g rfl) _,hst,h.new,h.len,fun q z l' a1 a2=>?_,h.nb,h.dis⟩
 by_cases e:q=r
 ·subst e
  rw[hur] at a1;cases a1
  rw[hlr] at a2;cases a2
  exact⟨ownsRow_setCell_other hu hug _,(h.own q u l hur hlr).2⟩
 ·obtain⟨b1,b2⟩:=h2.own q z l' (by rw[List.getElem?_set_ne (fun f=>e f.symm)];exact a1) (by rw[List.getElem?_set_ne (fun f=>e f.symm)];exact a2)
  exact⟨ownsRow_setCell_other b1 (fun e'=>h.nb q z g a1 e' rfl) _,b2⟩
end
end Go.Proofs.YtikcigjbhohboaaGreat.pln
end
section
namespace Go.Proofs.YtikcigjbhohboaaGreat.pln
open Go.Lib (hid)
set_option linter.unusedVariables false
set_option linter.unusedSimpArgs false
open Go.ChangeShapes Go.WideShapes Go.ChangeAt Go.RowKit Go.Deep Go.Shelf val ter Go.Sort
set_option maxRecDepth 100000 in
set_option maxHeartbeats 4000000 in
theorem check_core_f {w0 w:World} {s:Sys} {L:List (List Pc)} {A:Option Addr} {n c m b K:Nat} (hpo:s.po=1) (hp:plR s L=true) (h:LY w0 w s A n c m b K (lyF s L) (lyW s L)) (hF:Fok n (lyF s L)) (co:Nat) (hco:co<s.co.toNat) {bb:Nat} {g:Nat→Int} (hbb:Vals w bb 3 n (fun j=>.int .i64 (g j))) (hbm:bb≠m) (hbw:bb≠b) (hb0:w0.heap.size≤bb) :
  Calls Tryz.prog 85 #[lyV s A n c m b,.int .i64 (co:Int),.slice (some ⟨bb,0,none⟩) n n] w fun e w'=>e=.returned (.int .i64 (erC s (rkV s L) (ceV s L) (apS (co:Int) (rkV s L)) co))∧But (Just bb) w w'∧(erC s (rkV s L) (ceV s L) (apS (co:Int) (rkV s L)) co=0→Vals w' bb 3 n (fun j=>.int .i64 (bdJ s (rkV s L) (ceV s L) (apS (co:Int) (rkV s L)) co g (apS (co:Int) (rkV s L)).length j))):=by
 obtain⟨hr,hL,hok⟩:=plR_parts hp
 obtain⟨hcs,hla,hn24,_⟩:=right_nums hr
 obtain⟨hspr,hspo,hrs⟩:=right_pr hr
 have hn:s.ts.length=n:=h.len
 have hnn:n≤24:=by omega
 have hcoR:inR (co:Int):=by unfold inR;omega
 have hon:onN (lyF s L) (co:Int) n=(apS (co:Int) (rkV s L)).map (ptOf s L):=by rw[←hn];exact ly_on hp hco
 have hwh:(List.range n).map (lyW s L)=L.map whO:=by rw[←hn];exact lyW_is hL
 have hw1:But No w (w.alloc (.cells (lyA s A n c m b) 123)):=(But.refl No w).alloc _
 have hbw1:Blk (w.alloc (.cells (lyA s A n c m b) 123)) w.heap.size (lyA s A n c m b) 123:=Blk.new w _ _
 have HB1:=hid hw1
 obtain⟨rs,hrsn⟩:∃ rs:Nat,s.rs=(rs:Int):=⟨s.rs.toNat,by omega⟩
 obtain⟨⟨l0,l1,l2,l3,l4,l5,l6,l7,l8⟩,l9,l10⟩:=ly_cells hbw1
 have hfx:=fixed_any (h.no hw1) hF hr hnn (co:Int) hcoR hrsn (by omega) (fun x hx=>by
  rw[hon] at hx
  obtain⟨y,hy,rfl⟩:=List.mem_map.1 hx
  exact pt_bounds hp hy) (hbb.but hw1 (fun f=>f)) hbm hbw hb0
 rw[hon,hwh] at hfx
 have hlen:((apS (co:Int) (rkV s L)).map (ptOf s L)).length=(apS (co:Int) (rkV s L)).length:=List.length_map ..
 rw[hlen,fxE_is hp hco hpo _ (Nat.le_refl _),fxB_is hp hco hpo g _ (Nat.le_refl _)] at hfx
 have he:erC s (rkV s L) (ceV s L) (apS (co:Int) (rkV s L)) co=erJ s (rkV s L) (ceV s L) (apS (co:Int) (rkV s L)) co (apS (co:Int) (rkV s L)).length:=by unfold erC;rw[if_neg (by omega)]
 rw[←he] at hfx
 have CF:=hid hfx
 have q2:(s.po == 2)=false:=by simp;omega
 clear hfx he hlen hrsn hspr hpo hF h hp hr hL hok hcs hla hn24 hrs hon hwh hbb hw1 hbw1 hn hnn hcoR
 dsimp only[lyV,lyA] at CF HB1 l0 l1 l2 l3 l4 l5 l6 l7 l8 l9 l10 ⊢
 go_enter Tryz.func85,Tryz.ntmps85
 go_wp2_with (go_at_call 110;(with_reducible refine CF.out.mono ?_);rintro e w2 ⟨rfl,h2,h3⟩;have H2:=hid h2;have H3:=hid h3;clear h2 h3)
 go_ret
 exact⟨rfl,HB1.out.no.trans H2.out,H3.out⟩
set_option maxRecDepth 100000 in
set_option maxHeartbeats 4000000 in
theorem check_at (s:Sys) (hpo:s.po=1):CheckAt s:=by
 intro A n c A' N c' L w hs hl
 have HPO:=hid hpo
 clear hpo
 have hw1:But No w (w.alloc (.cells (boxS s A n c) 24)):=(But.refl No w).alloc _
 have hly:=lay_any s A n c A' N c' L _ (hs.no hw1) (hl.no hw1)
 have hx0:=Blk.new w (boxS s A n c) 24
 rw[lyB_is] at hly
 have CL:=hid hly
 have HB1:=hid hw1
 have HX0:=hid hx0
 have HL:=hid hl
 have HSN:=hid hs.ts.len
 obtain⟨b0,b1,b2,b3,b4,b5,b6,b7,b8⟩:=sys_cells hx0
 clear hly hs hl hw1 hx0
 unfold sysV
 cases hp:plR s L with
 | false =>
  rw[hp] at CL
  have HV:Hid (chkV s L=([], -1,1)):=hid (by unfold chkV;rw[if_neg (by rw[hp];simp)])
  clear hp
  rw[HV.out]
  unfold sysV at CL
  unfold boxS at CL HB1 b0 b1 b2 b3 b4 b5 b6 b7 b8
  go_enter Tryz.func53,Tryz.ntmps53
  go_wp2_with (go_at_call 62;(with_reducible refine CL.out.mono ?_);rintro e w1 ⟨h1,v,rfl,h2,h3⟩;obtain rfl:=h3 rfl;unfold zeroLy;have H1:=hid h1;clear h1 h2 h3)
  go_ret3
  exact⟨_,rfl,HB1.out.trans (H1.out.alloc _),Ov.nil _⟩
 | true =>
  rw[hp] at CL
  obtain⟨hr,hL,hok⟩:=plR_parts hp
  obtain⟨hcs,hla,hn24,_⟩:=right_nums hr
  have hn:s.ts.length=n:=HSN.out
  obtain⟨co,hco⟩:∃ co:Nat,s.co=(co:Int):=⟨s.co.toNat,by omega⟩
  have hco2:s.co.toNat=co:=by omega
  have HFK:Hid (Fok n (lyF s L)):=hid (by rw[←hn];exact lyF_fok HL.out hL hn24)
  have HP:=hid hp
  have HCO:=hid (And.intro hco hco2)
  have HN:=hid (And.intro hn (And.intro hL hn24))
  have hco8:co≤8:=by omega
  have hn24':n≤24:=by omega
  obtain⟨i3,hi0,hz0,hz1,hz2⟩:=info_parts info3
  have I3:Hid (Tryz.prog.info? 3=some i3∧i3.zero=some (.int .i64 0)∧i3.size=1∧i3.bytes=8):=⟨hi0,hz0,hz1,hz2⟩
  clear hp hr hL hok hcs hla hn24 hn hco hco2 hi0 hz0 hz1 hz2
  unfold sysV at CL
  unfold boxS at CL HB1 HX0 b0 b1 b2 b3 b4 b5 b6 b7 b8
  go_enter Tryz.func53,Tryz.ntmps53
  go_upto_region 2 with(go_at_call 62;(with_reducible refine CL.out.mono ?_);rintro e w1 ⟨h1,v,rfl,h2,h3⟩;obtain⟨m,b,K,rfl,h4⟩:=h2 rfl;have H1:=hid h1;have H4:=hid h4;clear h1 h2 h3 h4)
  clear b0 b1 b2 b3 b4 b5 b6 b7 b8
  obtain⟨w2,hw2⟩:∃ w2,w1.alloc (.cells #[.int .i64 s.co,.int .i64 s.po,.int .i64 s.pr,.int .i64 s.re,.int .i64 s.sw,.int .i64 s.fi,.int .i64 s.la,.int .i64 s.rs,.slice A n c,.map (some m),.slice (some ⟨b,0,none⟩) n n] 123)=w2:=⟨_,rfl⟩
  have hb2:But No w1 w2:=by rw[←hw2];exact(But.refl No w1).alloc _
  have hk2:Blk w2 w1.heap.size (lyA s A n c m b) 123:=by rw[←hw2];exact Blk.new w1 _ _
  rw[hw2]
  have HB2:=hid (H1.out.trans hb2)
  have HLY:=hid (H4.out.no hb2)
  have HK:=hid hk2
  have hmw:m<w1.heap.size:=H4.out.map.lt
  have hbw:b<w1.heap.size:=H4.out.whr.lt
  have hs2:w1.heap.size<w2.heap.size:=hk2.lt
  obtain⟨b0,b1,b2,b3,b4,b5,b6,b7,b8⟩:=sys_cells (HX0.out.but HB2.out (fun f=>f))
  clear hw2 hb2 hk2
  go_upto_region 5 with(at_make;refine wpList_make_full _ rfl _ _ 26 rfl 0 3 i3 _ 1 Tryz.underlying26 I3.out.1 I3.out.2.1 I3.out.2.2.1 .i64 .i64 _ _ n rfl rfl rfl rfl (by rw[I3.out.2.2.2];omega) (by unfold maxLen;omega) (Nat.zero_le _) ?_;intro w3 hown hgrow;have hb3:=(But.refl No w2).grown hgrow (fun k e=>by cases e);have HV3:Hid (Vals w3 w2.heap.size 3 n (fun j=>.int .i64 (bdC s (rkV s L) (ceV s L) 0 j))):=hid (vals_made1 rfl hown);have HB3:=hid hb3;clear hown hgrow hb3)
  obtain⟨bb,hbb⟩:∃ bb,w2.heap.size=bb:=⟨_,rfl⟩
  rw[hbb] at HV3 hs2 ⊢
  have HBB:=hid hbb
  have HLY3:=hid (HLY.out.no HB3.out)
  have HK3:=hid (HK.out.but HB3.out (fun f=>f))
  have hw0:w.heap.size<bb:=by have h1:=HB2.out.size;rw[World.size_alloc] at h1;omega
  have HOLD:Hid ((w.alloc (.cells #[.int .i64 s.co,.int .i64 s.po,.int .i64 s.pr,.int .i64 s.re,.int .i64 s.sw,.int .i64 s.fi,.int .i64 s.la,.int .i64 s.rs,.slice A n c] 24)).heap.size≤bb):=hid (by have h1:=HB2.out.size;rw[HBB.out] at h1;exact h1)
  clear b0 b1 b2 b3 b4 b5 b6 b7 b8 hbb
  obtain⟨b0,b1,b2,b3,b4,b5,b6,b7,b8⟩:=sys_cells (HX0.out.but (HB2.out.trans HB3.out) (fun f=>f))
  rw[HCO.out.1] at b0
  go_wp2_with fail
  go_loopw [26] (fun i wr=>∃ k:Nat,i=.int .i64 (k:Int)∧k≤co∧Hid (But (Just bb) w3 wr∧Vals wr bb 3 n (fun j=>.int .i64 (bdC s (rkV s L) (ceV s L) k j))∧(erN s (rkV s L) (ceV s L) k).2=0)) (fun i _=>co-(intOf i).toNat)
  case atStart=>exact⟨0,rfl,by omega,But.refl _ _,HV3.out,rfl⟩
  case round =>
   clear b0 b1 b2 b3 b4 b5 b6 b7 b8
   obtain⟨k,rfl,hk,HI⟩:=hrel
   have hk0:(0:Int)≤(k:Int):=Int.natCast_nonneg k
   by_cases hlt:k<co
   ·have c3:decide ((k:Int)<(co:Int))=true:=by simp;omega
    obtain⟨hbr,hvr,her⟩:=HI.out
    have hkr:=HK3.out.but hbr (fun e=>by have e':w1.heap.size=bb:=e;omega)
    have hlyr:=HLY3.out.turn hbr (fun j _ e=>by rw[show j=bb from e];exact⟨HOLD.out,by omega,by omega⟩)
    have hcc:=check_core_f HPO.out HP.out hlyr HFK.out k (by rw[HCO.out.2];exact hlt) hvr (by omega) (by omega) HOLD.out
    obtain⟨⟨l0,l1,l2,l3,l4,l5,l6,l7,l8⟩,l9,l10⟩:=ly_cells hkr
    have HER:=hid her
    have HBR:=hid hbr
    obtain⟨E,hE⟩:∃ E,erC s (rkV s L) (ceV s L) (apS (k:Int) (rkV s L)) k=E:=⟨_,rfl⟩
    rw[hE] at hcc
    have HE:=hid hE
    have HCC:=hid hcc
    clear hcc hE her hbr hvr hkr hlyr
    dsimp only[lyV,lyA] at HCC
    by_cases h0:E=0
    ·subst h0
     go_wp2_with (go_at_call 85;(with_reducible refine HCC.out.mono ?_);rintro e w4 ⟨rfl,h4,h5⟩;have H44:=hid h4;have H5:=hid (h5 rfl);clear h4 h5 l0 l1 l2 l3 l4 l5 l6 l7 l8 l9 l10)
     have HREL:Hid (But (Just bb) w3 w4∧Vals w4 bb 3 n (fun j=>.int .i64 (bdC s (rkV s L) (ceV s L) (k+1) j))∧(erN s (rkV s L) (ceV s L) (k+1)).2=0):=hid ⟨HBR.out.trans H44.out,H5.out,by rw[erN,if_neg (by rw[HER.out];simp),if_neg (by rw[HE.out];simp)]⟩
     go_roundw
     case rel=>exact⟨k+1,by go_num,by omega,HREL⟩
     case measure=>simp[intOf];omega
    ·have q0:(E != 0)=true:=by simp[h0]
     have q1:(E == 0)=false:=by simp[h0]
     have HV:Hid (chkV s L=([],(k:Int),E)):=hid (by
      have hk1:erN s (rkV s L) (ceV s L) (k+1)=((k:Int),E):=by rw[erN,if_neg (by rw[HER.out];simp),HE.out,if_pos h0]
      have hst:=erN_stay (s:=s) (R:=rkV s L) (Z:=ceV s L) (m:=k+1) (by rw[hk1];exact h0) (co-(k+1))
      rw[show k+1+(co-(k+1))=co by omega,hk1] at hst
      unfold chkV
      rw[if_pos HP.out,HCO.out.2,hst,if_pos h0])
     clear h0
     go_wp2_with (go_at_call 85;(with_reducible refine HCC.out.mono ?_);rintro e w4 ⟨rfl,h4,h5⟩;have H44:=hid h4;clear h4 h5 l0 l1 l2 l3 l4 l5 l6 l7 l8 l9 l10)
     go_ret3
     rw[HV.out]
     exact⟨_,rfl,(HB1.out.trans (HB2.out.trans HB3.out)).andThen' (HBR.out.trans H44.out) (fun j _ e=>by rw[show j=bb from e];omega),Ov.nil _⟩
   ·obtain rfl:k=co:=by omega
    have c3:decide ((k:Int)<(k:Int))=false:=by simp
    have HV:Hid (chkV s L=((List.range L.length).map (bdC s (rkV s L) (ceV s L) k), -1,0)):=hid (by unfold chkV;rw[if_pos HP.out,HCO.out.2,if_neg (by rw[HI.out.2.2];simp)])
    have HFIN:Hid (But No w wr∧Ov wr (.slice (some ⟨bb,0,none⟩) n n) ((List.range L.length).map (bdC s (rkV s L) (ceV s L) k))):=hid ⟨(HB1.out.trans (HB2.out.trans HB3.out)).andThen' HI.out.1 (fun j _ e=>by rw[show j=bb from e];omega),by
     have h9:=vals_ov HI.out.2.1 (by unfold maxLen;omega)
     rw[show L.length=n by have:=HN.out;omega];exact h9⟩
    go_wp2_with fail
    go_ret3
    rw[HV.out]
    exact⟨_,rfl,HFIN.out⟩
end Go.Proofs.YtikcigjbhohboaaGreat.pln
end
