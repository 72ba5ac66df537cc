/- Part 27 of a proof: PlWc PlCo PlLe PlLe2 PlLe3. -/
import Derived.Test.YtjfaiaipojfhgaaGreatC02
import Derived.Test.YtjfaiaipojfhgaaGreatC13
import Derived.Test.YtjfaiaipojfhgaaGreatC24
import Derived.Test.YtjfaiaipojfhgaaGreatC25
import Derived.Test.YtjfaiaipojfhgaaGreatC26
section
namespace Go.Proofs.YtjfaiaipojfhgaaGreat.pln
open Go.ChangeShapes Go.WideShapes Go.ChangeAt Go.RowKit Go.Deep val
theorem chkV_len (s:Sys) (L:List (List Pc)):(chkV s L).1.length≤100000:=by
 unfold chkV
 split
 ·next h =>
  have:=(plR_small h).1
  split
  ·simp
  ·simp;omega
 ·simp
namespace analysisChecks
end analysisChecks
end Go.Proofs.YtjfaiaipojfhgaaGreat.pln
end
section
namespace Go.Proofs.YtjfaiaipojfhgaaGreat.pln
open Go.Lib (hid)
set_option linter.unusedVariables false
set_option linter.unusedSimpArgs false
open Go.ChangeShapes Go.WideShapes Go.ChangeAt Go.RowKit Go.Deep val
theorem chk_right {s:Sys} {L:List (List Pc)} (h:(chkV s L).2.2=0):plR s L=true:=by
 apply Classical.byContradiction
 intro hn
 unfold chkV at h
 rw[if_neg hn] at h
 exact absurd h (by decide)
theorem chk_none {s:Sys} {L:List (List Pc)} (h:(chkV s L).2.2≠0):(chkV s L).1 = []:=by
 unfold chkV at h ⊢
 split
 ·next h1 =>
  rw[if_pos h1] at h
  split
  ·rfl
  ·next h2=>rw[if_neg h2] at h;exact absurd rfl h
 ·rfl
theorem costs_rel {s:Sys} {L:List (List Pc)} {w:World} {A:Option Addr} {N:Nat} (hl:RPl w A N L) (h:(chkV s L).2.2=0) :
  (chkV (noCosts s) L).2.2=11∨((chkV (noCosts s) L).2.2=0∧(chkV (noCosts s) L).1.length=(chkV s L).1.length∧∀ k,k<(chkV s L).1.length→(chkV (noCosts s) L).1.getD k 0≤(chkV s L).1.getD k 0):=by
 rcases(rel_costs (chk_right h)).chk hl h with h1 | ⟨h1,h2,h3,h4⟩
 ·exact .inl h1
 ·exact .inr ⟨h1,by rw[h2,h3],fun k hk=>(h4 k (by rw[←h3];exact hk)).2⟩
namespace analysisCosts
set_option maxRecDepth 100000 in
set_option maxHeartbeats 4000000 in
theorem walk (CK:CheckIs) (s:Sys) (A:Option Addr) (c:Nat) (A':Option Addr) (N c':Nat) (L:List (List Pc)) (_:N≤c') (w:World) (hs:RSys w A s.ts.length c s) (hl:RPl w A' N L) :
  Calls Tryz.prog 8 #[sysV s A s.ts.length c,.slice A' N c'] w fun e w'=>e=.returned (.bool true)∧But No w w':=by
 have CX:Hid (∀ W,Calls Tryz.prog 10 #[] W fun e w'=>e=.returned (.bool true)∧But No W w'):=hid (fun W=>examples_ok CK W)
 have hlen:=chkV_len s L
 have hlen2:=chkV_len (noCosts s) L
 have hs2:RSys w A s.ts.length c (noCosts s):=⟨hs.cap,hs.ts,hs.fit.1,hs.fit.2.1,hs.fit.2.2.1,(show inR 0 by unfold inR;decide),(show inR 0 by unfold inR;decide),(show inR 0 by unfold inR;decide),hs.fit.2.2.2.2.2.2⟩
 have CA:Hid (∀ W,But No w W→Calls Tryz.prog 21 #[sysV s A s.ts.length c,.slice A' N c'] W fun e w'=>∃ B k,e=.returned (.tuple #[.slice B (chkV s L).1.length k,.int .i64 (chkV s L).2.1,.int .i64 (chkV s L).2.2])∧But No W w'∧Rl w' B (chkV s L).1.length (chkV s L).1) :=
  hid (fun W hw=>(CK s A _ c A' N c' L W (hs.no hw) (hl.no hw)).mono fun e w' h=>by
   obtain⟨v,he,hb,ho⟩:=h
   obtain⟨B,k,rfl,hc⟩:=ho.slice
   exact⟨B,k,he,hb,(ho.rl hlen).1⟩)
 have CB:Hid (∀ W,But No w W→Calls Tryz.prog 21 #[sysV (noCosts s) A s.ts.length c,.slice A' N c'] W fun e w'=>∃ B k,e=.returned (.tuple #[.slice B (chkV (noCosts s) L).1.length k,.int .i64 (chkV (noCosts s) L).2.1,.int .i64 (chkV (noCosts s) L).2.2])∧But No W w'∧Rl w' B (chkV (noCosts s) L).1.length (chkV (noCosts s) L).1) :=
  hid (fun W hw=>(CK (noCosts s) A _ c A' N c' L W (hs2.no hw) (hl.no hw)).mono fun e w' h=>by
   obtain⟨v,he,hb,ho⟩:=h
   obtain⟨B,k,rfl,hc⟩:=ho.slice
   exact⟨B,k,he,hb,(ho.rl hlen2).1⟩)
 have HR:=hid (costs_rel (s:=s) hl)
 have HN:=hid (chk_none (s:=s) (L:=L))
 generalize (chkV s L).1=zs at CA HR HN hlen
 generalize (chkV s L).2.1=x at CA
 generalize (chkV s L).2.2=y at CA HR HN
 generalize (chkV (noCosts s) L).1=zs2 at CB HR hlen2
 generalize (chkV (noCosts s) L).2.1=x2 at CB
 generalize (chkV (noCosts s) L).2.2=y2 at CB HR
 have hB0:=(But.refl No w).alloc (.cells (boxS s A s.ts.length c) 24)
 have hS0:=hid (Blk.new w (boxS s A s.ts.length c) 24)
 have HB0:=hid hB0
 have BK:Hid (∀ W,But No (w.alloc (.cells (boxS s A s.ts.length c) 24)) W→S9 W w.heap.size s A s.ts.length c):=hid (fun W hb=>sys_cells (hS0.out.but hb (fun f=>f)))
 clear hs hs2 hl hB0 hS0 CK
 unfold boxS at BK HB0
 unfold sysV noCosts at CB
 unfold sysV at CA ⊢
 dsimp only at CB
 by_cases hy:y=0
 ·subst hy
  rcases HR.out rfl with h11 | ⟨h0,hle,hat⟩
  ·subst h11
   clear HR HN
   generalize zs.length=m at CA
   generalize zs2.length=m2 at CB
   go_enter Tryz.func8,Tryz.ntmps8
   go_upto_region 2 with(go_at_call 10;(with_reducible refine(CX.out _).mono ?_);rintro e w1 ⟨rfl,h1⟩)
   have H1:=hid h1
   obtain⟨c0,c1,c2,c3,c4,c5,c6,c7,c8⟩:=BK.out _ H1.out
   clear h1
   go_upto_region 3 with(go_at_call 21;(with_reducible refine(CA.out _ (HB0.out.trans H1.out)).mono ?_);rintro e w2 ⟨B,k,rfl,h2,r2⟩)
   have H2:=hid (HB0.out.trans (H1.out.trans h2))
   have R2:=hid r2
   have hb2:=H1.out.trans h2
   clear c0 c1 c2 c3 c4 c5 c6 c7 c8 h2 r2
   obtain⟨c0,c1,c2,c3,c4,c5,c6,c7,c8⟩:=BK.out _ hb2
   clear hb2
   go_upto_region 9 with fail
   clear c0 c1 c2 c3 c4 c5 c6 c7 c8
   have H3:=hid (H2.out.alloc (.cells #[.int .i64 s.co,.int .i64 s.po,.int .i64 s.pr,.int .i64 0,.int .i64 0,.int .i64 0,.int .i64 s.la,.int .i64 s.rs,.slice A s.ts.length c] 24))
   go_wp2_with (go_at_call 21;(with_reducible refine(CB.out _ H3.out).mono ?_);rintro e w4 ⟨D,q,rfl,h4,r4⟩)
   go_ret
   exact⟨rfl,H3.out.trans h4⟩
  ·subst h0
   have HAT:=hid hat
   rw[hle] at CB
   have HM:Hid (zs.length≤100000):=hlen
   clear HR HN hat hle hlen hlen2
   generalize zs.length=m at CA CB HAT HM
   go_enter Tryz.func8,Tryz.ntmps8
   go_upto_region 2 with(go_at_call 10;(with_reducible refine(CX.out _).mono ?_);rintro e w1 ⟨rfl,h1⟩)
   have H1:=hid h1
   obtain⟨c0,c1,c2,c3,c4,c5,c6,c7,c8⟩:=BK.out _ H1.out
   clear h1
   go_upto_region 3 with(go_at_call 21;(with_reducible refine(CA.out _ (HB0.out.trans H1.out)).mono ?_);rintro e w2 ⟨B,k,rfl,h2,r2⟩)
   have H2:=hid (HB0.out.trans (H1.out.trans h2))
   have R2:=hid r2
   have hb2:=H1.out.trans h2
   clear c0 c1 c2 c3 c4 c5 c6 c7 c8 h2 r2
   obtain⟨c0,c1,c2,c3,c4,c5,c6,c7,c8⟩:=BK.out _ hb2
   clear hb2
   go_upto_region 9 with fail
   clear c0 c1 c2 c3 c4 c5 c6 c7 c8
   have H3:=hid (H2.out.alloc (.cells #[.int .i64 s.co,.int .i64 s.po,.int .i64 s.pr,.int .i64 0,.int .i64 0,.int .i64 0,.int .i64 s.la,.int .i64 s.rs,.slice A s.ts.length c] 24))
   go_wp2_with (go_at_call 21;(with_reducible refine(CB.out _ H3.out).mono ?_);rintro e w4 ⟨D,q,rfl,h4,r4⟩;have H4:=hid (H3.out.trans h4);have R4:=hid (And.intro (R2.out.no ((((But.refl No w2).alloc _)).trans h4)) r4);clear h4 r4)
   go_loopw [13] (fun i wr=>∃ k:Nat,k≤m∧i=.int .i64 k∧Hid (But No w4 wr)) (fun i _=>m-(intOf i).toNat)
   case atStart=>exact⟨0,by omega,rfl,But.refl _ _⟩
   case round =>
    have hM:m≤100000:=HM.out
    obtain⟨j,hj,rfl,hbw⟩:=hrel
    by_cases hlt:j<m
    ·obtain⟨b,off,rfl,hb,hc⟩:=(R4.out.1.no hbw.out).at_ (by omega)
     obtain⟨b',off',rfl,hb',hc'⟩:=(R4.out.2.no hbw.out).at_ (by omega)
     have hck:=hc j hlt
     have hck':=hc' j hlt
     clear hc hc'
     have kn':(j:Int)<(m:Int):=by omega
     have hle:=HAT.out j hlt
     obtain⟨z,hze⟩:∃ z,z=zs.getD j 0:=⟨_,rfl⟩
     obtain⟨t,hte⟩:∃ t,t=zs2.getD j 0:=⟨_,rfl⟩
     rw[←hze] at hck hle
     rw[←hte] at hck' hle
     have hng:¬z<t:=by omega
     clear hze hte hle
     go_wp2_with fail
     go_quiet (fail)
     go_wp2
     go_roundw
     case rel=>exact⟨j+1,by omega,by go_num,hbw.out.drewN _⟩
     case measure=>simp[intOf];omega
    ·go_wp2
     go_ret
     exact⟨rfl,H4.out.trans hbw.out⟩
 ·have hzs:=HN.out hy
  have hy':(y != 0)=true:=by simp[hy]
  subst hzs
  clear HR HN CB hy hlen hlen2
  simp only[List.length_nil] at CA
  go_enter Tryz.func8,Tryz.ntmps8
  go_upto_region 2 with(go_at_call 10;(with_reducible refine(CX.out _).mono ?_);rintro e w1 ⟨rfl,h1⟩)
  have H1:=hid h1
  obtain⟨c0,c1,c2,c3,c4,c5,c6,c7,c8⟩:=BK.out _ H1.out
  clear h1
  go_upto_region 3 with(go_at_call 21;(with_reducible refine(CA.out _ (HB0.out.trans H1.out)).mono ?_);rintro e w2 ⟨B,k,rfl,h2,r2⟩)
  have H2:=hid (HB0.out.trans (H1.out.trans h2))
  have R2:=hid r2
  have hb2:=H1.out.trans h2
  clear c0 c1 c2 c3 c4 c5 c6 c7 c8 h2 r2
  obtain⟨c0,c1,c2,c3,c4,c5,c6,c7,c8⟩:=BK.out _ hb2
  clear hb2
  go_wp2
  go_ret
  exact⟨rfl,H2.out⟩
end analysisCosts
end Go.Proofs.YtjfaiaipojfhgaaGreat.pln
end
section
namespace Go.Proofs.YtjfaiaipojfhgaaGreat.pln
open Go.ChangeShapes Go.WideShapes Go.ChangeAt Go.RowKit Go.Deep val
theorem chk_dead {s:Sys} {L:List (List Pc)} {w:World} {A:Option Addr} {N:Nat} (hl:RPl w A N L) (h:(chkV s L).2.2=0) {k:Nat} {t:Tsk} (ht:s.ts[k]? = some t) (hk:k<L.length):(chkV s L).1.getD k 0≤t.d:=by
 have hr:=chk_right h
 have h0:(erN s (rkV s L) (ceV s L) s.co.toNat).2=0:=by
  apply Classical.byContradiction
  intro hn
  unfold chkV at h
  rw[if_pos hr,if_pos hn] at h
  exact hn h
 have e:(chkV s L).1=(List.range L.length).map (bdC s (rkV s L) (ceV s L) s.co.toNat):=by
  unfold chkV
  rw[if_pos hr,if_neg (fun f=>f h0)]
 have:=bnd_dead hl hr h0 ht s.co.toNat (Nat.le_refl _)
 rw[e]
 simpa [List.getD,hk] using this
theorem less_rel {s:Sys} {L:List (List Pc)} {w:World} {A:Option Addr} {N:Nat} (hl:RPl w A N L) (h:(chkV s L).2.2=0) (i:Nat) :
  (chkV s (L.set i [])).2.2=11∨((chkV s (L.set i [])).2.2=0∧(chkV s (L.set i [])).1.length=L.length∧(chkV s L).1.length=L.length∧∀ k,k<L.length→(k=i→(chkV s (L.set i [])).1.getD k 0=0)∧(chkV s (L.set i [])).1.getD k 0≤(chkV s L).1.getD k 0):=by
 rcases(rel_less (chk_right h) i).chk hl h with h1 | ⟨h1,h2,h3,h4⟩
 ·exact .inl h1
 ·refine .inr ⟨h1,h2,h3,fun k hk=>⟨fun e=>(h4 k hk).1 ?_,(h4 k hk).2⟩⟩
  subst e
  simp[hk]
end Go.Proofs.YtjfaiaipojfhgaaGreat.pln
end
section
namespace Go.Proofs.YtjfaiaipojfhgaaGreat.pln
open Go.ChangeShapes Go.WideShapes Go.ChangeAt Go.RowKit Go.Deep val
theorem infoPL : (Tryz.prog.info? 40).map (fun i=>(i.zero,i.size,i.bytes))=some (some (.slice none 0 0),1,24):=by kernel_rfl
theorem pl_reads {w:World} {A:Option Addr} {N:Nat} {L:List (List Pc)} (h:RPl w A N L):∃ vs:List Value,Reads w w.heap.size 1 A N vs∧(∀ u ∈ vs,u.oneCell'=true)∧∀ (k:Nat) (l:List Pc),L[k]? = some l→∃ A' c',vs[k]? = some (.slice A' l.length c')∧l.length≤c'∧RPc w A' l.length l:=by
 have key:∀ k,∃ v:Value,∀ l,L[k]? = some l→∃ A' c',v=.slice A' l.length c'∧(∀ b off,A=some ⟨b,off,none⟩→w.cell? ⟨b,off+k,none⟩=some v)∧l.length≤c'∧RPc w A' l.length l:=by
  intro k
  cases e:L[k]? with
  | none=>exact⟨.slice none 0 0,fun l h=>by cases h⟩
  | some l =>
   obtain⟨b,off,A',c',rfl,_,h1,h2,h3⟩:=h.at1 e
   exact⟨.slice A' l.length c',fun l' h'=>by cases h';exact⟨A',c',rfl,fun b' off' e=>by cases e;exact h1,h2,h3⟩⟩
 obtain⟨f,hf⟩:=Classical.axiomOfChoice key
 have hlen:=h.len
 have sm:∀ k,k<N→∃ l,L[k]? = some l:=fun k hk=>⟨_,List.getElem?_eq_getElem (by omega)⟩
 refine⟨(List.range N).map f,⟨by simp,fun hn=>?_⟩,fun u hu=>?_,fun k l hl=>?_⟩
 ·obtain⟨b,off,rfl,hb,_⟩:=h.at_ hn
  refine⟨⟨b,off,none⟩,rfl,hb,fun j u hu=>?_⟩
  have hj:j<N:=by have:=(List.getElem?_eq_some_iff.1 hu).1;simpa using this
  obtain⟨l,hl⟩:=sm j hj
  have e:f j=u:=by simpa [hj] using hu
  obtain⟨A',c',h1,h2,_⟩:=hf j l hl
  rw[add_plain,←e]
  exact h2 _ _ rfl
 ·obtain⟨k,hk,rfl⟩:=List.mem_map.1 hu
  obtain⟨l,hl⟩:=sm k (List.mem_range.1 hk)
  obtain⟨A',c',h1,_⟩:=hf k l hl
  rw[h1];rfl
 ·have hk:k<N:=by have:=(List.getElem?_eq_some_iff.1 hl).1;omega
  obtain⟨A',c',h1,h2,h3,h4⟩:=hf k l hl
  exact⟨A',c',by simp[hk,h1],h3,h4⟩
theorem pl_set {w w':World} {g N c' i:Nat} {L:List (List Pc)} {vs:List Value} (hN:L.length=N) (hm:N≤1000) (ho:w'.ownsRow 0 40 1 (.slice (some ⟨g,0,none⟩) N c') N vs) (hb:But No w w') (hg:w.heap.size≤g)
  (hv:∀ (k:Nat) (l:List Pc),L[k]? = some l→∃ A' c',vs[k]? = some (.slice A' l.length c')∧l.length≤c'∧RPc w A' l.length l) (hi:i<N) :
  RPl (w'.setCell ⟨g,i,none⟩ (.slice none 0 0)) (some ⟨g,0,none⟩) N (L.set i [])∧But No w (w'.setCell ⟨g,i,none⟩ (.slice none 0 0)):=by
 have hB:But No w (w'.setCell ⟨g,i,none⟩ (.slice none 0 0)):=hb.setNew hg _
 have hcell:=ho.cells (g:=g) rfl
 obtain⟨h1,h2⟩:=ho
 rcases h2 with⟨h2,_⟩ | ⟨g',cap,cur,hv',_,hh,_⟩
 ·cases h2
 ·cases hv'
  have hB':Blk w' g cur 40:=hh
  have hcur:∀ j u,vs[j]? = some u→cur[j]? = some u:=fun j u hu=>by
   have:=hcell j u hu
   rw[add_plain,Nat.zero_add] at this
   simpa [World.cell?,hh] using this
  have hS:=hB'.set i (.slice none 0 0)
  refine⟨⟨by simp[hN],by omega,fun _=>⟨g,0,rfl,hS.lt,fun k l hl=>?_⟩⟩,hB⟩
  rw[List.getElem?_set] at hl
  by_cases e:i=k
  ·subst e
   rw[if_pos rfl,if_pos (by omega)] at hl
   cases hl
   refine⟨none,0,?_,Nat.le_refl _,RPc.nil _⟩
   rw[Nat.zero_add]
   obtain⟨A',c',h3,_⟩:=hv i _ (List.getElem?_eq_getElem (show i<L.length by omega))
   have hlt:i<cur.size:=(Array.getElem?_eq_some_iff.1 (hcur i _ h3)).1
   exact hS.cell (by simp[hlt])
  ·rw[if_neg e] at hl
   obtain⟨A',c',h3,h4,h5⟩:=hv k l hl
   refine⟨A',c',?_,h4,h5.no hB⟩
   rw[Nat.zero_add]
   exact hS.cell (by rw[Array.getElem?_setIfInBounds_ne e];exact hcur k _ h3)
theorem place_neg {x:Int} {n:Nat} (hx:x<0) (hn:0<n):∃ q:Nat,q<n ∧ -((x+1).tmod (n:Int))=(q:Int):=by
 refine⟨((-(x+1)) % (n:Int)).toNat,?_,?_⟩
 ·have:=Int.emod_lt_of_pos (-(x+1)) (show (0:Int)<n by omega)
  have:=Int.emod_nonneg (-(x+1)) (show (n:Int)≠0 by omega)
  omega
 ·have:=Int.emod_nonneg (-(x+1)) (show (n:Int)≠0 by omega)
  rw[Int.toNat_of_nonneg this,←Int.neg_tmod,Int.tmod_eq_emod_of_nonneg (by omega)]
theorem place_pos {x:Int} {n:Nat} (hx:0≤x) (hn:0<n):∃ q:Nat,q<n∧x.tmod (n:Int)=(q:Int):=by
 refine⟨(x % (n:Int)).toNat,?_,?_⟩
 ·have:=Int.emod_lt_of_pos x (show (0:Int)<n by omega)
  have:=Int.emod_nonneg x (show (n:Int)≠0 by omega)
  omega
 ·have:=Int.emod_nonneg x (show (n:Int)≠0 by omega)
  rw[Int.toNat_of_nonneg this,Int.tmod_eq_emod_of_nonneg hx]
end Go.Proofs.YtjfaiaipojfhgaaGreat.pln
end
section
namespace Go.Proofs.YtjfaiaipojfhgaaGreat.pln
open Go.ChangeShapes Go.WideShapes Go.ChangeAt Go.RowKit Go.Deep val
theorem plR_pos {s:Sys} {L:List (List Pc)} (h:plR s L=true):1≤s.ts.length:=by
 obtain⟨h1,_⟩:=right_parts (plR_parts h).1
 unfold vWhole at h1
 simp only[Bool.and_eq_true,wi_true] at h1
 omega
theorem chkV_ok {s:Sys} {L:List (List Pc)} (h:(chkV s L).2.2=0):(chkV s L).1.length=L.length:=by
 have hr:=chk_right h
 unfold chkV at h ⊢
 rw[if_pos hr] at h ⊢
 split
 ·next h2=>rw[if_pos h2] at h;exact absurd h h2
 ·simp
theorem pl_thaw {w:World} {g N c:Nat} {vs:List Value} (h:w.ownsRow 0 40 1 (.slice (some ⟨g,0,none⟩) N c) N vs) (_:0<N) (q:Nat):w.frozen? ⟨g,q,none⟩=false:=by
 obtain⟨h1,h2⟩:=h
 rcases h2 with⟨h2,_⟩ | ⟨g',cap,cur,hv',_,hh,_⟩
 ·cases h2
 ·cases hv'
  exact Blk.frozen (show Blk w g cur 40 from hh) q
theorem pl_cell {w:World} {g N c:Nat} {vs:List Value} (h:w.ownsRow 0 40 1 (.slice (some ⟨g,0,none⟩) N c) N vs) {q:Nat} (hq:q<N):∃ u,w.cell? ⟨g,q,none⟩=some u:=by
 have hl:vs.length=N:=by have:=h.1;omega
 have:=h.cells (g:=g) rfl q vs[q] (List.getElem?_eq_getElem (by omega))
 rw[add_plain,Nat.zero_add] at this
 exact⟨_,this⟩
end Go.Proofs.YtjfaiaipojfhgaaGreat.pln
end
