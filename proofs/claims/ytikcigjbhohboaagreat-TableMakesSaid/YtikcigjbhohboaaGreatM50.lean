/- Part 50 of a proof: PeJ PeK PeN. -/
import Derived.WalkMore
import Derived.Test.YtikcigjbhohboaaGreatM09
import Derived.Test.YtikcigjbhohboaaGreatM39
import Derived.Test.YtikcigjbhohboaaGreatM43
import Derived.Test.YtikcigjbhohboaaGreatM44
import Derived.Test.YtikcigjbhohboaaGreatM47
import Derived.Test.YtikcigjbhohboaaGreatM49
section
namespace Go.Proofs.YtikcigjbhohboaaGreat.pln
open Go.Lib (hid)
set_option linter.unusedVariables false
set_option linter.unusedSimpArgs false
open Go.ChangeShapes Go.WideShapes Go.ChangeAt Go.RowKit Go.Deep val Go.Sort ter
set_option maxRecDepth 100000 in
set_option maxHeartbeats 4000000 in
theorem order_any {KK:Nat} (ST:pls.StableTo KK) (CG:pls.CmpGrow) (s:Sys) (hKK:right s=true→s.ts.length≤KK) (A:Option Addr) (n c:Nat) (w:World) (hs:RSys w A n c s) :
  Calls Tryz.prog 49 #[sysV s A n c] w fun e w'=>(right s=false∧e=.returned (.tuple #[.slice none 0 0,.int .i64 1])∧But No w w')∨(right s=true∧∃ v,e=.returned (.tuple #[v,.int .i64 0])∧But No w w'∧Ov w' v (iL (ordN s n))∧∀ k,v.ownBlock=some k→w.heap.size≤k):=by
 have CR:Hid (∀ W,But No w W→Calls Tryz.prog 75 #[sysV s A n c] W fun e w'=>e=.returned (.bool (right s))∧But No W w'):=hid (fun W hb=>right_any s A n c W (hs.no hb))
 have hw1:But No w (w.alloc (.cells (boxS s A n c) 24)):=(But.refl No w).alloc _
 have hx0:=Blk.new w (boxS s A n c) 24
 obtain⟨b0,b1,b2,b3,b4,b5,b6,b7,b8⟩:=sys_cells hx0
 have HB1:=hid hw1
 have HX:=hid hx0
 have HSYS:=hid hs
 clear hw1 hx0
 cases hr:right s with
 | false =>
  rw[hr] at CR
  clear hr hs
  unfold sysV at CR ⊢
  unfold boxS at HB1 b0 b1 b2 b3 b4 b5 b6 b7 b8
  go_enter Tryz.func49,Tryz.ntmps49
  go_wp2_with (go_at_call 75;(with_reducible refine(CR.out _ HB1.out).mono ?_);rintro e w1 ⟨rfl,hb⟩;have HB2:=hid hb;clear hb)
  go_ret2
  exact .inl ⟨trivial,rfl,HB1.out.trans HB2.out⟩
 | true =>
  obtain⟨hcs,hla,hn24,_⟩:=right_nums hr
  have hnn:=(right_len hr).2.2.1
  have hn:s.ts.length=n:=hs.ts.len
  have hn1:1≤n∧n≤24:=by omega
  obtain⟨i3,hi0,hz0,hz1,hz2⟩:=info_parts info3
  have I3:Hid (Tryz.prog.info? 3=some i3∧i3.zero=some (.int .i64 0)∧i3.size=1∧i3.bytes=8):=⟨hi0,hz0,hz1,hz2⟩
  have CS:Hid (∀ (W:World) (g:Nat) (zs:List Value),But No w W→Blk W w.heap.size (boxS s A n c) 24→W.ownsRow 0 3 1 (.slice (some ⟨g,0,none⟩) n n) n zs→(∀ j,j<n→zs[j]? = some (.int .i64 (j:Int)))→w.heap.size≤g→w.heap.size≠g→Calls Tryz.prog 76 #[.slice (some ⟨g,0,none⟩) n n,.func (.func 77) #[] #[.pointer (some ⟨w.heap.size,0,none⟩)]] W fun e w'=>e=.returned (.tuple #[])∧But (Just g) W w'∧w'.ownsRow 0 3 1 (.slice (some ⟨g,0,none⟩) n n) n ((iL (ordN s n)).map (Value.int .i64))):=hid (fun W g zs h1 h2 h3 h4 h5 h6=>pls.sort_any ST CG hs hr (by omega) (by have:=hKK hr;rw[hs.ts.len] at this;exact this) h1 h2 h3 h4 h5 h6)
  have HOL:Hid ((iL (ordN s n)).length=n):=hid (by unfold iL;rw[List.length_map,ordN_len])
  rw[hr] at CR
  clear hr hs hn hnn hn24 hi0 hz0 hz1 hz2 hcs hla
  unfold sysV at CR ⊢
  have HB1':=HB1
  unfold boxS at HB1 b0 b1 b2 b3 b4 b5 b6 b7 b8
  go_enter Tryz.func49,Tryz.ntmps49
  go_upto_region 3 with(go_at_call 75;(with_reducible refine(CR.out _ HB1.out).mono ?_);rintro e w1 ⟨rfl,hb⟩;have HB2:=hid hb;clear hb)
  have HX2:=hid (HX.out.but HB2.out (fun f=>f))
  clear b0 b1 b2 b3 b4 b5 b6 b7 b8
  obtain⟨b0,b1,b2,b3,b4,b5,b6,b7,b8⟩:=sys_cells HX2.out
  have HBW:Hid (But No w w1):=hid (HB1'.out.trans HB2.out)
  have hlt:w.heap.size<w1.heap.size:=HX2.out.lt
  clear HX
  go_wp2_with (at_make;refine wpList_make_full _ rfl _ _ 26 rfl 0 3 i3 _ 1 Tryz.underlying26 I3.out.1 I3.out.2.1 I3.out.2.2.1 .i64 .i64 _ _ n rfl rfl rfl rfl (by rw[I3.out.2.2.2];omega) (by unfold maxLen;omega) (Nat.zero_le _) ?_;intro w2 hown hgrow;have hb2:=(But.refl No w1).grown hgrow (fun k e=>by cases e);have HV2:Hid (Vals w2 w1.heap.size 3 n (fun _=>.int .i64 0)):=hid (vals_made1 rfl hown);have HB3:=hid hb2;clear hown hgrow hb2 b0 b1 b2 b3 b4 b5 b6 b7 b8)
  obtain⟨g,hg⟩:∃ g,w1.heap.size=g:=⟨_,rfl⟩
  rw[hg] at HV2 hlt ⊢
  have HX3:=hid (HX2.out.but HB3.out (fun f=>f))
  have HBW2:Hid (But No w w2):=hid (HBW.out.trans HB3.out)
  clear hg HX2 HB3 HBW
  go_loopw [15] (fun x wr=>∃ q:Nat,x=.int .i64 (q:Int)∧q≤n∧Hid (Vals wr g 3 n (fun j=>if j<q then .int .i64 (j:Int) else .int .i64 0))∧Hid (But No w wr)∧Hid (Blk wr w.heap.size (boxS s A n c) 24)) (fun x _=>n-(intOf x).toNat)
  case atStart=>exact⟨0,rfl,by omega,HV2.out.congr (fun j hj=>by rw[if_neg (by omega)]),HBW2.out,HX3.out⟩
  case round =>
   clear HV2 HBW2 HX3
   obtain⟨q,rfl,hq,HV,HBR,HXR⟩:=hrel
   have hq0:(0:Int)≤(q:Int):=Int.natCast_nonneg q
   by_cases hqn:q<n
   ·have hqn2:(q:Int)<(n:Int):=by omega
    have c0:=HV.out.cell hqn
    have f0:=HV.out.frozen q
    rw[if_neg (Nat.lt_irrefl q)] at c0
    have HN:Hid (∀ v,v=Value.int .i64 (q:Int)→Vals (wr.setCell ⟨g,q,none⟩ v) g 3 n (fun j=>if j<q+1 then .int .i64 (j:Int) else .int .i64 0)∧But No w (wr.setCell ⟨g,q,none⟩ v)∧Blk (wr.setCell ⟨g,q,none⟩ v) w.heap.size (boxS s A n c) 24):=hid (fun v hv=>by
     subst hv
     refine⟨(HV.out.set (k:=q) _).congr (fun j hj=>?_),HBR.out.setNew (p:=⟨g,q,none⟩) (by dsimp only;omega) _,HXR.out.other (a:=⟨g,q,none⟩) (by dsimp only;omega) _⟩
     by_cases e:j=q
     ·subst e;rw[if_pos rfl,if_pos (by omega)]
     ·rw[if_neg e]
      by_cases e2:j<q
      ·rw[if_pos e2,if_pos (by omega)]
      ·rw[if_neg e2,if_neg (by omega)])
    go_wp2
    go_roundw
    case rel=>exact⟨q+1,by first | rfl | go_num,by omega,(HN.out _ rfl).1,(HN.out _ rfl).2.1,(HN.out _ rfl).2.2⟩
    case measure=>simp[intOf];omega
   ·have hqn2:¬(q:Int)<(n:Int):=by omega
    have hqe:q=n:=by omega
    subst hqe
    have hov:=vals_ov (f:=fun j=>if j<q then (j:Int) else 0) (HV.out.congr (fun j hj=>by split <;> rfl)) (by unfold maxLen;omega)
    unfold Ov at hov
    rw[List.length_map,List.length_range] at hov
    have CS2:=hid (CS.out wr g _ HBR.out HXR.out hov (fun j hj=>by simp[hj]) (by omega) (by omega))
    have hgn:w.heap.size<g:=hlt
    clear hov
    go_wp2_with (go_at_call 76;(with_reducible refine CS2.out.mono ?_);rintro e w3 ⟨rfl,h3,h4⟩;have H3:=hid h3;have H4:=hid h4;clear h3 h4)
    go_ret2
    refine .inr ⟨trivial,_,rfl,HBR.out.andThen H3.out (fun k e=>.inr (by rw[show k=g from e];omega)),?_,fun k e=>(show w.heap.size≤k by have e':k=g:=(by simpa [Value.ownBlock] using e.symm);omega)⟩
    unfold Ov
    rw[HOL.out]
    exact H4.out
end Go.Proofs.YtikcigjbhohboaaGreat.pln
end
section
namespace Go.Proofs.YtikcigjbhohboaaGreat.pln
set_option linter.unusedVariables false
set_option linter.unusedSimpArgs false
open Go.ChangeShapes Go.WideShapes Go.ChangeAt Go.RowKit Go.Deep val Go.Sort ter
def nxV (s:Sys) (o:List Nat) (r:Option (List (List Pc)) × (Bool × Bool)):Except Int (List (List Pc)):=match r.1 with
 | some L1=>plV s o L1
 | none=>.error (erM r.2)
theorem plV_cons {s:Sys} {i:Nat} {o:List Nat} {L:List (List Pc)}:plV s (i :: o) L=nxV s o (hdN s i 9 L (s.ts.getD i ts0).w (s.ts.getD i ts0).d (false,false)):=by
 rw[plV,plT_hd]
 unfold nxV
 rcases hdN s i 9 L (s.ts.getD i ts0).w (s.ts.getD i ts0).d (false,false)with⟨o,m⟩
 cases o <;> rfl
theorem hdN_end {s:Sys} {i n:Nat} {L:List (List Pc)} {rest left:Int} {m:Bool × Bool} {c:Nat} (h:(laN s L i rest left m s.co.toNat).1=some c):(hdN s i n L rest left m).1=some (laL L i rest left (laN s L i rest left m s.co.toNat).1):=by
 unfold hdN
 rcases e:laN s L i rest left m s.co.toNat with⟨o,m1⟩
 rw[e] at h
 dsimp only at h
 subst h
 rfl
theorem hdN_none {s:Sys} {i n:Nat} {L:List (List Pc)} {rest left:Int} {m:Bool × Bool} (h:(laN s L i rest left m s.co.toNat).1=none) (h2:(spR s L i rest left (laN s L i rest left m s.co.toNat).2).1=none) (hf:n=0→frN L i s.co.toNat=0):hdN s i n L rest left m=(none,(spR s L i rest left (laN s L i rest left m s.co.toNat).2).2):=by
 unfold hdN
 rcases e:laN s L i rest left m s.co.toNat with⟨o,m1⟩
 rw[e] at h h2
 dsimp only at h h2
 subst h
 dsimp only
 unfold spR at h2 ⊢
 by_cases hs:(s.ts.getD i ts0).secs ≠ []
 ·rw[if_pos hs,if_pos hs]
 ·rw[if_neg hs] at h2 ⊢
  rw[if_neg hs]
  cases n with
  | zero=>rw[tiN_has _ (frN_zero (hf rfl))];rfl
  | succ n=>exact spN_none (by rw[←h2])
theorem hdN_split {s:Sys} {i n:Nat} {L:List (List Pc)} {rest left:Int} {m:Bool × Bool} {c:Nat} {a:Int} (h:(laN s L i rest left m s.co.toNat).1=none) (h2:(spR s L i rest left (laN s L i rest left m s.co.toNat).2).1=some (c,a)) :
  hdN s i (n+1) L rest left m=hdN s i n (addP L i (tiP c a)) (rest-a) (left-a-(s.la-1)) (spR s L i rest left (laN s L i rest left m s.co.toNat).2).2∧c<s.co.toNat∧hasC L i c=false∧0<a∧tiN s L i rest left (laN s L i rest left m s.co.toNat).2 s.co.toNat=(some (c,a),(spR s L i rest left (laN s L i rest left m s.co.toNat).2).2):=by
 unfold spR at h2 ⊢
 by_cases hs:(s.ts.getD i ts0).secs ≠ []
 ·rw[if_pos hs] at h2;cases h2
 ·rw[if_neg hs] at h2 ⊢
  have he:(s.ts.getD i ts0).secs = []:=Classical.not_not.1 hs
  obtain⟨g1,g2,g3⟩:=tiN_some h2
  have h3:tiN s L i rest left (laN s L i rest left m s.co.toNat).2 s.co.toNat=(some (c,a),(tiN s L i rest left (laN s L i rest left m s.co.toNat).2 s.co.toNat).2):=by rw[←h2]
  refine⟨?_,g1,g2,g3,h3⟩
  rw[←spN_hd he h3]
  conv=>lhs;unfold hdN
  rcases e:laN s L i rest left m s.co.toNat with⟨o,m1⟩
  rw[e] at h
  dsimp only at h
  subst h
  dsimp only
  rw[if_neg hs]
theorem spR_some {s:Sys} {i:Nat} {L:List (List Pc)} {rest left:Int} {m:Bool × Bool} {c:Nat} {a:Int} (hr:1≤rest) (h2:(spR s L i rest left m).1=some (c,a)):c<s.co.toNat∧hasC L i c=false∧0<a∧a<rest∧rest≤left-(s.la-1):=by
 unfold spR at h2
 by_cases hs:(s.ts.getD i ts0).secs ≠ []
 ·rw[if_pos hs] at h2;cases h2
 ·rw[if_neg hs] at h2
  obtain⟨g1,g2,g3⟩:=tiN_some h2
  refine⟨g1,g2,g3,tiN_lt hr h2,?_⟩
  by_cases hsh:left-(s.la-1)<rest
  ·rw[tiN_short hsh] at h2;cases h2
  ·omega
end Go.Proofs.YtikcigjbhohboaaGreat.pln
end
section
namespace Go.Proofs.YtikcigjbhohboaaGreat.pln
open Go.Lib (hid)
set_option linter.unusedVariables false
set_option linter.unusedSimpArgs false
open Go.ChangeShapes Go.WideShapes Go.ChangeAt Go.RowKit Go.Deep val Go.Sort ter
theorem plc_of {s:Sys} {L:List (List Pc)} (h:right s=true) (e:plV s (ordN s s.ts.length) (List.replicate s.ts.length [])=.ok L):Plc s L∧L.length=s.ts.length:=by
 have hn:=(right_len h).2.2.1
 obtain⟨g1,g2,g3,g4⟩:=plV_ok _ _ (fun i hi=>by rw[List.length_replicate];exact ordN_mem.1 hi) (ordN_nodup (per_pos h) (Nat.le_refl _)) e
 refine⟨⟨g3 (fun e2=>?_),fun i hi=>g4 i (ordN_mem.2 hi)⟩,by rw[g1,List.length_replicate]⟩
 have:=ordN_len (s:=s) s.ts.length
 rw[e2] at this
 simp at this
 omega
theorem plcV_ok {s:Sys} {L:List (List Pc)} (h:right s=true) (e:plV s (ordN s s.ts.length) (List.replicate s.ts.length [])=.ok L):plcV s=(rkV s L,(chkV s L).1,0):=by
 unfold plcV;rw[if_pos h,e]
theorem plcV_err {s:Sys} {x:Int} (h:right s=true) (e:plV s (ordN s s.ts.length) (List.replicate s.ts.length [])=.error x):plcV s=([], [],x):=by
 unfold plcV;rw[if_pos h,e]
def PlAns (s:Sys) (w:World) (e:Ending) (w':World):Prop:=∃ A1 N1 c1 v,e=.returned (.tuple #[.slice A1 N1 c1,v,.int .i64 (plcV s).2.2])∧But No w w'∧RPl w' A1 N1 (plcV s).1∧Ov w' v (plcV s).2.1
theorem pl_none {s:Sys} {w w':World} {x:Int} (h:plcV s=([], [],x)) (hb:But No w w'):PlAns s w (.returned (.tuple #[.slice none 0 0,.slice none 0 0,.int .i64 x])) w':=by
 unfold PlAns
 rw[h]
 exact⟨none,0,0,.slice none 0 0,rfl,hb,RPl.nil w',Ov.nil w'⟩
abbrev OrderAt (s:Sys):Prop:=∀ (A:Option Addr) (n c:Nat) (w:World),RSys w A n c s→Calls Tryz.prog 49 #[sysV s A n c] w fun e w'=>(right s=false∧e=.returned (.tuple #[.slice none 0 0,.int .i64 1])∧But No w w')∨(right s=true∧∃ v,e=.returned (.tuple #[v,.int .i64 0])∧But No w w'∧Ov w' v (iL (ordN s n))∧∀ k,v.ownBlock=some k→w.heap.size≤k)
set_option maxRecDepth 100000 in
set_option maxHeartbeats 16000000 in
theorem place_any (s:Sys) (OR:OrderAt s) (CK:CheckAt s) (A:Option Addr) (n c:Nat) (w:World) (hs:RSys w A n c s):Calls Tryz.prog 19 #[sysV s A n c] w fun e w'=>PlAns s w e w':=by
 have CO:Hid (∀ W,But No w W→Calls Tryz.prog 49 #[sysV s A n c] W fun e w'=>(right s=false∧e=.returned (.tuple #[.slice none 0 0,.int .i64 1])∧But No W w')∨(right s=true∧∃ v,e=.returned (.tuple #[v,.int .i64 0])∧But No W w'∧Ov w' v (iL (ordN s n))∧∀ k,v.ownBlock=some k→W.heap.size≤k)):=hid (fun W hb=>OR A n c W (hs.no hb))
 have hw1:But No w (w.alloc (.cells (boxS s A n c) 24)):=(But.refl No w).alloc _
 have hx0:=Blk.new w (boxS s A n c) 24
 obtain⟨b0,b1,b2,b3,b4,b5,b6,b7,b8⟩:=sys_cells hx0
 have HB1:=hid hw1
 have HX:=hid hx0
 clear hw1 hx0
 cases hr:right s with
 | false =>
  have HF:Hid (plcV s=([], [],1)):=hid (by unfold plcV;rw[hr];rfl)
  have CO2:Hid (∀ W,But No w W→Calls Tryz.prog 49 #[sysV s A n c] W fun e w'=>e=.returned (.tuple #[.slice none 0 0,.int .i64 1])∧But No W w'):=hid (fun W hb=>(CO.out W hb).mono fun e w' h=>by
   rcases h with⟨_,h⟩ | ⟨h,_⟩
   ·exact h
   ·rw[hr] at h;cases h)
  clear hr hs CO
  unfold sysV at CO2 ⊢
  unfold boxS at HB1 b0 b1 b2 b3 b4 b5 b6 b7 b8
  go_enter Tryz.func19,Tryz.ntmps19
  go_wp2_with fail
  go_step3
  go_wp2_with (go_at_call 49;(with_reducible refine(CO2.out _ HB1.out).mono ?_);rintro e w1 ⟨rfl,hb⟩;have HB2:=hid hb;clear hb)
  rw[Exit.noGoto_ret]
  go_ret3
  exact pl_none HF.out (HB1.out.trans HB2.out)
 | true =>
  obtain⟨hcs,hla,hn24,_⟩:=right_nums hr
  have hnn:=(right_len hr).2.2.1
  have hn:s.ts.length=n:=hs.ts.len
  have hn1:1≤n∧n≤24:=by omega
  have hwd:=right_nums hr
  obtain⟨i40,hi0,hz0,hz1,hz2⟩:=info_parts infoPS
  have I40:Hid (Tryz.prog.info? 38=some i40∧i40.zero=some (.slice none 0 0)∧i40.size=1∧i40.bytes=24):=⟨hi0,hz0,hz1,hz2⟩
  have CO2:Hid (∀ W,But No w W→Calls Tryz.prog 49 #[sysV s A n c] W fun e w'=>∃ v,e=.returned (.tuple #[v,.int .i64 0])∧But No W w'∧Ov w' v (iL (ordN s n))):=hid (fun W hb=>(CO.out W hb).mono fun e w' h=>by
   rcases h with⟨h,_⟩ | ⟨_,v,h1,h2,h3,_⟩
   ·rw[hr] at h;cases h
   ·exact⟨v,h1,h2,h3⟩)
  have CBEG:Hid (∀ (w2 W:World) (g:Nat) (vs:List Value) (L:List (List Pc)) (i:Nat) (t:Tsk),But No w w2→RoP w2 W (.slice (some ⟨g,0,none⟩) n n) vs L→vs.length=n→s.ts[i]? = some t→Calls Tryz.prog 50 #[sysV s A n c,.slice (some ⟨g,0,none⟩) n n,.int .i64 (i:Int)] W fun e w'=>∃ d:Ad,d.g=g∧e=.returned (.pointer (some ⟨d.b,0,none⟩))∧PG w2 s A n c d i vs L t.w t.d 12 w'):=hid (fun w2 W g vs L i t hb h1 h2 h3=>begin_any h1 h2 (hs.no hb) h3 (by omega))
  have CEND:Hid (∀ (w2 W:World) (d:Ad) (i K:Nat) (vs:List Value) (L:List (List Pc)) (rest left:Int) (m:Bool × Bool),But No w w2→PG w2 s A n c d i vs L rest left (erM m) W→PlOk K n L→K+1≤1000→i<n→inR rest→inR left→Calls Tryz.prog 51 #[.pointer (some ⟨d.b,0,none⟩)] W fun e w'=>e=.returned (.bool (laN s L i rest left m s.co.toNat).1.isSome)∧∃ vs',PG w2 s A n c d i vs' (laL L i rest left (laN s L i rest left m s.co.toNat).1) rest left (erM (laN s L i rest left m s.co.toNat).2) w'):=hid (fun w2 W d i K vs L rest left m hb h1 h2 h3 h4 h5 h6=>end_any CK h1 (hs.no hb) h2 h3 (by omega) h4 h5 h6 (by omega))
  have CSPL:Hid (∀ (w2 W:World) (d:Ad) (i K:Nat) (vs:List Value) (L:List (List Pc)) (rest left:Int) (m:Bool × Bool),But No w w2→PG w2 s A n c d i vs L rest left (erM m) W→PlOk K n L→K+1≤1000→i<n→(1≤rest∧rest≤2199023255552)→(-2199023255552≤left∧left≤2199023255552)→Calls Tryz.prog 52 #[.pointer (some ⟨d.b,0,none⟩)] W fun e w'=>e=.returned (.bool (spR s L i rest left m).1.isSome)∧∃ vs',PG w2 s A n c d i vs' (spS s L i rest left (spR s L i rest left m).1).1 (spS s L i rest left (spR s L i rest left m).1).2.1 (spS s L i rest left (spR s L i rest left m).1).2.2 (erM (spR s L i rest left m).2) w'):=hid (fun w2 W d i K vs L rest left m hb h1 h2 h3 h4 h5 h6=>split_any CK h1 (hs.no hb) h2 h3 (by omega) h4 h5 h6 (by omega) hla)
  have CFIN:Hid (∀ (w2 W:World) (A':Option Addr) (L:List (List Pc)),But No w w2→But No w2 W→RPl W A' n L→plR s L=true→Calls Tryz.prog 28 #[sysV s A n c,.slice A' n n] W fun e w'=>∃ A1 c1,e=.returned (.tuple #[.slice A1 n c1,.int .i64 0])∧But No W w'∧RPl w' A1 n (rkV s L)):=hid (fun w2 W A' L hb hb2 h1 h2=>rank_ok (hs.no (hb.trans hb2)) h1 h2)
  have CCHK:Hid (∀ (W:World) (A':Option Addr) (L:List (List Pc)),But No w W→RPl W A' n L→Calls Tryz.prog 53 #[sysV s A n c,.slice A' n n] W fun e w'=>∃ v,e=.returned (.tuple #[v,.int .i64 (chkV s L).2.1,.int .i64 (chkV s L).2.2])∧But No W w'∧Ov w' v (chkV s L).1):=hid (fun W A' L hb h1=>CK A n c A' n n L W (hs.no hb) h1)
  have HPC:Hid (∀ L,plV s (ordN s n) (List.replicate n [])=.ok L→Plc s L∧L.length=n∧plcV s=(rkV s L,(chkV s L).1,0)):=hid (fun L e=>by
   rw[←hn] at e ⊢
   exact⟨(plc_of hr e).1,(plc_of hr e).2,plcV_ok hr e⟩)
  have HPE:Hid (∀ x,plV s (ordN s n) (List.replicate n [])=.error x→plcV s=([], [],x)):=hid (fun x e=>by rw[←hn] at e;exact plcV_err hr e)
  have HTS:Hid (∀ i,i<n→∃ t,s.ts[i]? = some t∧s.ts.getD i ts0=t∧(1≤t.w∧t.w≤1099511627776)∧1≤t.d∧t.d≤1099511627776):=hid (fun i hi=>by
   have e:s.ts[i]? = some (s.ts[i]'(by omega)):=List.getElem?_eq_getElem _
   exact⟨_,e,getT e,hwd.2.2.2 _ (List.mem_of_getElem? e)⟩)
  have HOL:Hid ((ordN s n).length=n):=hid (ordN_len n)
  have HOM:Hid (∀ k ∈ ordN s n,k<n):=hid (fun k hk=>ordN_mem.1 hk)
  have HCS:=hid hcs
  have HLA:=hid hla
  clear hr hs hn hnn hn24 hwd hi0 hz0 hz1 hz2 CO hcs hla
  unfold sysV at CO2 CBEG CFIN CCHK ⊢
  have HB1':=HB1
  unfold boxS at HB1 b0 b1 b2 b3 b4 b5 b6 b7 b8
  go_enter Tryz.func19,Tryz.ntmps19
  go_wp2_with fail
  go_step3
  go_upto_region 4 with(go_at_call 49;(with_reducible refine(CO2.out _ HB1.out).mono ?_);rintro e w2 ⟨vo,rfl,hb,ho⟩;have HB2:=hid hb;have HO:=hid ho;clear hb ho)
  have HX2:=hid (HX.out.but HB2.out (fun f=>f))
  have HBW:Hid (But No w w2):=hid (HB1'.out.trans HB2.out)
  clear b0 b1 b2 b3 b4 b5 b6 b7 b8 HX CO2 HB1 HB1' HB2
  obtain⟨b0,b1,b2,b3,b4,b5,b6,b7,b8⟩:=sys_cells HX2.out
  obtain⟨Ao,co,hvo⟩:=owns_slice HO.out
  rw[show (iL (ordN s n)).length=n by unfold iL;rw[List.length_map];exact HOL.out] at hvo
  subst hvo
  go_upto_region 5 with(at_make;refine wpList_make_full _ rfl _ _ 25 rfl 0 38 i40 _ 1 Tryz.underlying25 I40.out.1 I40.out.2.1 I40.out.2.2.1 .i64 .i64 _ _ n rfl rfl rfl rfl (by rw[I40.out.2.2.2];omega) (by unfold maxLen;omega) (Nat.zero_le _) ?_;intro w3 hown hgrow;have HV3:=hid (RoP.made (But.refl No w2) hown hgrow);clear hown hgrow)
  obtain⟨g,hg⟩:∃ g,w2.heap.size=g:=⟨_,rfl⟩
  rw[hg] at HV3 ⊢
  have HSG:Hid (w2.heap.size=g):=hid hg
  clear hg b0 b1 b2 b3 b4 b5 b6 b7 b8
  obtain⟨go,cap,hgo,_,_⟩:=World.ownsRow.form HO.out (by unfold iL;rw[List.length_map,HOL.out];omega)
  obtain⟨rfl, -,rfl⟩:Ao=some ⟨go,0,none⟩∧n=(iL (ordN s n)).length∧co=cap:=by injection hgo with h1 h2 h3;exact⟨h1,h2,h3⟩
  have HOC:Hid (∀ q,q<n→∃ i,i<n∧(ordN s n).drop q=i :: (ordN s n).drop (q+1)∧w2.cell? ⟨go,q,none⟩=some (.int .i64 (i:Int))):=hid (fun q hq=>by
   have hq2:q<(ordN s n).length:=by rw[HOL.out];exact hq
   refine⟨(ordN s n)[q],HOM.out _ (List.getElem_mem hq2),List.drop_eq_getElem_cons hq2,?_⟩
   have:=World.ownsRow.cells (g:=go) HO.out rfl q (.int .i64 (((ordN s n)[q]:Nat):Int)) (by unfold iL;rw[List.map_map,List.getElem?_map,List.getElem?_eq_getElem hq2];rfl)
   rwa [add_plain,Nat.zero_add] at this)
  clear hgo HO
  go_step3
  go_wp2_with fail
  go_loopw [6,30] (fun y x wr=>∃ (q:Nat) (L:List (List Pc)) (vs:List Value),y=.int .i64 0∧x=.int .i64 (q:Int)∧q≤n∧Hid (plV s (ordN s n) (List.replicate n [])=plV s ((ordN s n).drop q) L)∧Hid (PlOk (10*q) n L)∧Hid (vs.length=n)∧Hid (RoP w2 wr (.slice (some ⟨g,0,none⟩) n n) vs L)) (fun _ x _=>n-(intOf x).toNat)
  case atStart=>exact⟨0,_,_,rfl,rfl,by omega,by rw[List.drop_zero];rfl,⟨List.length_replicate,fun l hl=>by rw[(List.mem_replicate.1 hl).2];exact Nat.zero_le _,fun l hl x hx=>by rw[(List.mem_replicate.1 hl).2] at hx;cases hx⟩,List.length_replicate,HV3.out⟩
  case round =>
   clear HV3
   obtain⟨q,L,vs,rfl,rfl,hq,HPV,HOK,HVS,HRO⟩:=hrel
   have hq0:(0:Int)≤(q:Int):=Int.natCast_nonneg q
   have HBR:Hid (But No w2 wr):=hid HRO.out.but
   obtain⟨b0,b1,b2,b3,b4,b5,b6,b7,b8⟩:=sys_cells (HX2.out.but HBR.out (fun f=>f))
   by_cases hqn:q<n
   ·have hqn2:(q:Int)<(n:Int):=by omega
    obtain⟨i,hin,hdr,hci⟩:=HOC.out q hqn
    obtain⟨t,ht,htd,htw,htb⟩:=HTS.out i hin
    have hcq:=cell_keep hci HBR.out
    have CB:=hid (CBEG.out w2 wr g vs L i t HBW.out HRO.out HVS.out ht)
    have HPV2:Hid (plV s (ordN s n) (List.replicate n [])=nxV s ((ordN s n).drop (q+1)) (hdN s i 9 L t.w t.d (false,false))):=hid (by rw[HPV.out,hdr,plV_cons,htd])
    have HTW:=hid htw
    have HTD:=hid htb
    clear ht htd htw htb hci hdr
    go_wp2_with (go_at_call 50;(with_reducible refine CB.out.mono ?_);rintro e w4 ⟨d,hdg,rfl,hpg⟩;have HDG:=hid hdg;have G4:=hid hpg;clear hdg hpg)
    have HKB:Hid (10*q≤230):=hid (by omega)
    clear b0 b1 b2 b3 b4 b5 b6 b7 b8 hcq CB
    go_loopg [6] 10 (fun gg x wr2=>∃ (k:Nat) (L2:List (List Pc)) (vs2:List Value) (rest left:Int) (m:Bool × Bool),x=.int .i64 0∧k≤gg∧k≤9∧(1≤rest∧rest≤1099511627776)∧(1≤left∧left≤1099511627776)∧Hid (hdN s i 9 L t.w t.d (false,false)=hdN s i k L2 rest left m)∧Hid (frN L2 i s.co.toNat≤k)∧Hid (PlOk (10*q+(9-k)) n L2)∧Hid (PG w2 s A n c d i vs2 L2 rest left (erM m) wr2))
    case atStart=>exact⟨9,L,vs,t.w,t.d,(false,false),rfl,by omega,Nat.le_refl _,HTW.out,HTD.out,rfl,by have:=frN_le L i s.co.toNat;have:=HCS.out;show _≤_;omega,HOK.out,G4.out⟩
    case round =>
     clear G4
     obtain⟨k,L2,vs2,rest,left,m,rfl,hkg,hk9,hrs,hlf,HHD,HFR,HOK2,HP⟩:=hrel
     have HKK:Hid (10*q+(9-k)+1≤1000):=hid (by have:=HKB.out;omega)
     have CE:=hid (CEND.out w2 wr d i _ vs2 L2 rest left m HBW.out HP.out HOK2.out HKK.out hin (by unfold inR;omega) (by unfold inR;omega))
     rcases hl1:(laN s L2 i rest left m s.co.toNat)with⟨r1,m1⟩
     have HL1:=hid hl1
     rw[hl1] at CE
     cases r1 with
     | some c1 =>
      dsimp only[Option.isSome] at CE
      have HE:=hid (hdN_end (n:=k) (s:=s) (L:=L2) (i:=i) (rest:=rest) (left:=left) (m:=m) (c:=c1) (by rw[hl1]))
      clear hl1
      go_wp2_with (go_at_call 51;(with_reducible refine CE.out.mono ?_);rintro e w5 ⟨rfl,vs5,h5⟩;have H5:=hid h5;clear h5)
      go_roundw
      case rel=>exact⟨q+1,laL L2 i rest left (some c1),vs5,rfl,by first | rfl | go_num,by omega,hid (by rw[HPV2.out,HHD.out];unfold nxV;rw[HE.out,HL1.out]),(HOK2.out.add ⟨by show inR (c1:Int);unfold inR;have:=(laN_good (s:=s) (L:=L2) (i:=i) (bu:=rest) (de:=left) (m:=m) (n:=s.co.toNat) (d:=c1) (by rw[HL1.out])).1;have:=HCS.out;omega,by show inR rest;unfold inR;omega,by show inR left;unfold inR;omega,by show inR 0;unfold inR;omega⟩).mono (by omega),H5.out.len,by have:=H5.out.pl;rw[HDG.out] at this;exact this⟩
      case measure=>simp[intOf];omega
     | none =>
      dsimp only[Option.isSome] at CE
      have CS1:Hid (∀ W vs5,PG w2 s A n c d i vs5 L2 rest left (erM m1) W→Calls Tryz.prog 52 #[.pointer (some ⟨d.b,0,none⟩)] W fun e w'=>e=.returned (.bool (spR s L2 i rest left m1).1.isSome)∧∃ vs',PG w2 s A n c d i vs' (spS s L2 i rest left (spR s L2 i rest left m1).1).1 (spS s L2 i rest left (spR s L2 i rest left m1).1).2.1 (spS s L2 i rest left (spR s L2 i rest left m1).1).2.2 (erM (spR s L2 i rest left m1).2) w'):=hid (fun W vs5 h=>CSPL.out w2 W d i _ vs5 L2 rest left m1 HBW.out h HOK2.out HKK.out hin (by omega) (by omega))
      rcases hl2:(spR s L2 i rest left m1)with⟨r2,m2⟩
      rw[hl2] at CS1
      have HL2:=hid hl2
      cases r2 with
      | some ca =>
       obtain⟨c2,a2⟩:=ca
       dsimp only[Option.isSome,spS] at CS1
       have HSP:Hid (∀ k1,k=k1+1→hdN s i k L2 rest left m=hdN s i k1 (addP L2 i (tiP c2 a2)) (rest-a2) (left-a2-(s.la-1)) m2∧c2<s.co.toNat∧hasC L2 i c2=false∧0<a2∧tiN s L2 i rest left m1 s.co.toNat=(some (c2,a2),m2)):=hid (fun k1 e=>by
        subst e
        have:=hdN_split (n:=k1) (s:=s) (i:=i) (L:=L2) (rest:=rest) (left:=left) (m:=m) (c:=c2) (a:=a2) (by rw[HL1.out]) (by rw[HL1.out];dsimp only;rw[HL2.out])
        rw[HL1.out] at this
        dsimp only at this
        rw[HL2.out] at this
        exact this)
       clear hl1 hl2
       go_wp2_with (first | (go_at_call 51;(with_reducible refine CE.out.mono ?_);rintro e w5 ⟨rfl,vs5,h5⟩;have H5:=hid h5;clear h5) | (go_at_call 52;(with_reducible refine(CS1.out _ _ H5.out).mono ?_);rintro e w6 ⟨rfl,vs6,h6⟩;have H6:=hid h6;clear h6))
       obtain⟨x1,x2,x3,x4,x5⟩:=spR_some (s:=s) (i:=i) (L:=L2) (rest:=rest) (left:=left) (m:=m1) (c:=c2) (a:=a2) hrs.1 (by rw[HL2.out])
       have hfa:=frN_add (L:=L2) (i:=i) (by rw[HOK2.out.len];exact hin) (p:=tiP c2 a2) (c:=c2) rfl x2 s.co.toNat
       rw[if_pos x1] at hfa
       have hfr:=HFR.out
       obtain⟨k1,hk1⟩:∃ k1,k=k1+1:=⟨k-1,by omega⟩
       have hnx:=(HSP.out k1 hk1).1
       have hla:=HLA.out
       go_roundg k1
       case measure=>omega
       case rel=>exact⟨k1,addP L2 i (tiP c2 a2),vs6,rest-a2,left-a2-(s.la-1),m2,rfl,Nat.le_refl _,by omega,by omega,by omega,hid (HHD.out.trans hnx),hid (by omega),(HOK2.out.add ⟨by show inR (c2:Int);unfold inR;have:=HCS.out;omega,by show inR a2;unfold inR;omega,by show inR a2;unfold inR;omega,by show inR 0;unfold inR;omega⟩).mono (by omega),H6.out⟩
      | none =>
       dsimp only[Option.isSome,spS] at CS1
       have HNN:Hid (hdN s i k L2 rest left m=(none,m2)):=hid (by
        have:=hdN_none (n:=k) (s:=s) (i:=i) (L:=L2) (rest:=rest) (left:=left) (m:=m) (by rw[HL1.out]) (by rw[HL1.out];dsimp only;rw[HL2.out]) (fun e=>by have:=HFR.out;omega)
        rw[HL1.out] at this
        dsimp only at this
        rw[HL2.out] at this
        exact this)
       have HAN:Hid (plcV s=([], [],erM m2)):=hid (HPE.out _ (by rw[HPV2.out,HHD.out,HNN.out];rfl))
       obtain⟨E,hE⟩:∃ E,erM m2=E:=⟨_,rfl⟩
       have hE0:(E != 0)=true:=by have:=erM_range m2;rw[bne_iff_ne];omega
       rw[hE] at CS1 HAN
       clear hl1 hl2 hE
       go_wp2_with (first | (go_at_call 51;(with_reducible refine CE.out.mono ?_);rintro e w5 ⟨rfl,vs5,h5⟩;have H5:=hid h5;clear h5) | (go_at_call 52;(with_reducible refine(CS1.out _ _ H5.out).mono ?_);rintro e w6 ⟨rfl,vs6,h6⟩;have H6:=hid h6;have y14:w6.cell? ⟨d.b,14,none⟩=some (.int .i64 E):=h6.xb.cell rfl;clear h6))
       rw[Exit.noGoto_ret]
       go_ret3
       exact pl_none HAN.out (HBW.out.trans H6.out.pl.but)
   ·have hqn2:¬(q:Int)<(n:Int):=by omega
    have hqe:q=n:=by omega
    subst hqe
    obtain⟨hplc,hlen,hpv⟩:=HPC.out L (by rw[HPV.out,List.drop_of_length_le (by rw[HOL.out];exact Nat.le_refl _)];rfl)
    have hplr:=hplc.right
    obtain⟨Ap,cp,hAp,hpl⟩:=HRO.out.pl (by rw[hlen];omega) (fun l hl=>Nat.le_trans (HOK.out.row l hl) (by omega)) HOK.out.fit
    have hAe:Ap=some ⟨g,0,none⟩:=by injection hAp with h1 _ _;exact h1.symm
    subst hAe
    clear hAp
    rw[hlen] at hpl
    have CF:=hid (CFIN.out w2 wr _ L HBW.out HBR.out hpl hplr)
    have CC:=hid (fun W (hb:But No wr W)=>CCHK.out W _ L (HBW.out.trans (HBR.out.trans hb)) (hpl.no hb))
    have HK5:Hid (∀ W,But No wr W→S9 W w.heap.size s A q c):=hid (fun W hb=>sys_cells (HX2.out.but (HBR.out.trans hb) (fun f=>f)))
    have HPV9:=hid hpv
    clear hplc hplr hpl hpv
    go_wp2_with (first | (go_at_call 28;(with_reducible refine CF.out.mono ?_);rintro e w5 ⟨A1,c1,rfl,hb5,hr5⟩;have HB5:=hid hb5;have HR5:=hid hr5;clear b0 b1 b2 b3 b4 b5 b6 b7 b8;obtain⟨b0,b1,b2,b3,b4,b5,b6,b7,b8⟩:=HK5.out w5 HB5.out;clear hb5 hr5) | (go_at_call 53;(with_reducible refine(CC.out w5 HB5.out).mono ?_);rintro e w6 ⟨v6,rfl,hb6,ho6⟩;have HB6:=hid hb6;have HO6:=hid ho6;clear hb6 ho6))
    rw[Exit.noGoto_ret]
    go_ret3
    unfold PlAns
    rw[HPV9.out]
    exact⟨A1,q,c1,v6,rfl,HBW.out.trans (HBR.out.trans (HB5.out.trans HB6.out)),HR5.out.no HB6.out,HO6.out⟩
end Go.Proofs.YtikcigjbhohboaaGreat.pln
end
