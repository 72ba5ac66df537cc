/- Part 36 of a proof: DeC5 DeC7 PaE PaC PaD PaM2. -/
import Derived.Deep.RegionHeld3
import Derived.ScopeJumps
import Derived.StillTailTactics
import Derived.WalkMore
import Derived.Test.YtikcigjbhohboaaGreatM14
import Derived.Test.YtikcigjbhohboaaGreatM19
import Derived.Test.YtikcigjbhohboaaGreatM21
import Derived.Test.YtikcigjbhohboaaGreatM32
import Derived.Test.YtikcigjbhohboaaGreatM35
section
namespace Go.Proofs.YtikcigjbhohboaaGreat.dem
open Go.ChangeShapes Go.WideShapes Go.ChangeAt Go.RowKit Go.Deep
structure FT (w wr:World) (R:Int × Int):Prop where
 box:Blk wr w.heap.size #[.int .i64 R.1,.int .i64 R.2] 275
 res:Blk wr (w.heap.size+1) #[.int .i64 0,.int .i64 0] 275
 but:But No w wr
end Go.Proofs.YtikcigjbhohboaaGreat.dem
end
section
namespace Go.Proofs.YtikcigjbhohboaaGreat.dem
open Go.ChangeShapes Go.WideShapes Go.ChangeAt Go.RowKit Go.Deep
structure FS (w wr:World) (v u:Value) (zs ts:List Int):Prop where
 two:Two w wr v u zs ts
 box:Blk wr w.heap.size #[v,u] 269
 res:Blk wr (w.heap.size+1) #[.slice none 0 0,.slice none 0 0] 269
end Go.Proofs.YtikcigjbhohboaaGreat.dem
end
section
namespace Go.Proofs.YtikcigjbhohboaaGreat.pln
set_option linter.unusedVariables false
set_option linter.unusedSimpArgs false
open Go.ChangeShapes Go.WideShapes Go.ChangeAt Go.RowKit Go.Deep Go.Shelf val ter Go.Sort
attribute [local go_sem] Oper.semAt_some
structure Oe (e tS:TypeId) (sz:Nat) (W0:World) (g:Nat) (bb n:Nat) (v:Value) (k:Nat) (cs:List Value) (f:Nat→Int) (W:World):Prop where
 but:But (fun z=>z=g∨z=bb) W0 W
 blk:Blk W g #[v] tS
 own:W.ownsRow 0 e sz v k cs
 new:∀ i,v.ownBlock=some i→W0.heap.size≤i
 bnd:Vals W bb 3 n (fun j=>.int .i64 (f j))
section
variable {e tS:TypeId} {sz g bb n k:Nat} {W0 W W':World} {v:Value} {cs:List Value} {f:Nat→Int}
end
theorem ceS_in {P:Int} {ss:List (Int × Int × Int)} {f:Nat→Int} (hP:inR P) (hf:∀ r,inR (f r)):∀ k r,inR (ceS P ss f k r)
 | 0,r=>hf r
 | k+1,r=>by
  rw[ceS]
  split
  ·unfold tp
   split
   ·exact hP
   ·exact ceS_in hP hf k r
  ·exact ceS_in hP hf k r
theorem ceF_in {s:Sys} {l:List Pt} (h:∀ x ∈ l,inR x.p.pr) (r:Nat):inR (ceF s l r):=by
 have go:∀ (l:List Pt) (f:Nat→Int),(∀ x ∈ l,inR x.p.pr)→(∀ r,inR (f r))→∀ r,inR (l.foldl (fun f x=>ceX s x f) f r):=by
  intro l
  induction l with
  | nil=>intro f _ hf r;exact hf r
  | cons x l ih =>
   intro f hl hf r
   rw[List.foldl_cons]
   refine ih _ (fun y hy=>hl y (List.mem_cons_of_mem _ hy)) (fun r=>?_) r
   unfold ceX
   refine ceS_in ?_ hf _ r
   have:=hl x (List.mem_cons_self ..)
   unfold inR at *
   omega
 exact go l _ h (fun _=>by unfold inR;omega) r
theorem hoX_mem {s:Sys} {wh:List Int} {z:Nat→Int} {x:Pt} {h:Int × Int × Int}:∀ {k},h ∈ hoX s wh z x k→∃ j r:Nat,h=(holdV s wh (x.i:Int) (j:Int),x.p.pr,z r)
 | 0,hm=>by cases hm
 | k+1,hm=>by
  rw[hoX,List.mem_append] at hm
  rcases hm with hm | hm
  ·exact hoX_mem hm
  ·simp at hm;exact⟨k,_,hm⟩
theorem hoF_mem {s:Sys} {wh:List Int} {z:Nat→Int} {l:List Pt} {h:Int × Int × Int} (hm:h ∈ hoF s wh z l):∃ x ∈ l,∃ j r:Nat,h=(holdV s wh (x.i:Int) (j:Int),x.p.pr,z r):=by
 unfold hoF at hm
 obtain⟨x,hx,hm⟩:=List.mem_flatMap.1 hm
 obtain⟨j,r,e⟩:=hoX_mem hm
 exact⟨x,hx,j,r,e⟩
theorem hoF_ok {s:Sys} (hs:right s=true) {wh:List Int} {z:Nat→Int} {l:List Pt} (hp:∀ x ∈ l,inR x.p.pr) (hz:∀ r,inR (z r)):∀ h ∈ hoF s wh z l,(0≤h.1∧h.1≤9895604650000)∧inR h.2.1∧inR h.2.2:=fun h hm=>by
 obtain⟨x,hx,j,r,rfl⟩:=hoF_mem hm
 exact⟨hold_bd hs wh _ _,hp x hx,hz r⟩
theorem rsec_of {w:World} {v:Value} {l:List (Int × Int × Int)} (h:w.ownsRow 0 232 3 v l.length (l.flatMap hoC)) (hm:l.length≤9223372036854775807) (hf:∀ x ∈ l,inR x.1∧inR x.2.1∧inR x.2.2):∃ A c,v=.slice A l.length c∧l.length≤c∧RSec w A l.length l:=by
 obtain⟨h1,h2⟩:=h
 rcases h2 with⟨h2,e⟩ | ⟨g,cap,cur,hv,_,hh,hc,hcap,hs,ht⟩
 ·exact⟨none,0,by rw[e];exact h2,by omega,rfl,hm,fun h=>absurd h (by omega),hf⟩
 ·refine⟨_,_,hv,hc,rfl,hm,fun hn=>⟨g,0,rfl,Blk.lt hh,fun k x hx=>?_⟩,hf⟩
  have hk:k<l.length:=(List.getElem?_eq_some_iff.1 hx).1
  have rdc:∀ j u,j<3→(hoC x)[j]? = some u→w.cell? ⟨g,0+k*3+j,none⟩=some u:=fun j u hj hu=>by
   rw[Nat.zero_add]
   refine Blk.cell hh ?_
   have:=flat_at (f:=hoC) (sz:=3) (fun _=>rfl) hx hj
   rw[←ht,List.getElem?_take,if_pos (by omega),hu] at this
   simpa using this
  exact⟨rdc 0 _ (by omega) rfl,rdc 1 _ (by omega) rfl,rdc 2 _ (by omega) rfl⟩
end Go.Proofs.YtikcigjbhohboaaGreat.pln
end
section
namespace Go.Proofs.YtikcigjbhohboaaGreat.pln
set_option linter.unusedVariables false
set_option linter.unusedSimpArgs false
open Go.ChangeShapes Go.WideShapes Go.ChangeAt Go.RowKit Go.Deep Go.Shelf val ter Go.Sort
theorem rld_of {w:World} {v:Value} {l:List rsp.Ld} (h:w.ownsRow 0 211 3 v l.length (l.flatMap rsp.ldC)) (hm:l.length≤9223372036854775807) (hf:∀ x ∈ l,inR x.w∧inR x.p∧inR x.j):∃ A c,v=.slice A l.length c∧l.length≤c∧rsp.RLd w A l.length l:=by
 obtain⟨h1,h2⟩:=h
 rcases h2 with⟨h2,e⟩ | ⟨g,cap,cur,hv,_,hh,hc,hcap,hs,ht⟩
 ·exact⟨none,0,by rw[e];exact h2,by omega,rfl,hm,fun h=>absurd h (by omega),hf⟩
 ·refine⟨_,_,hv,hc,rfl,hm,fun hn=>⟨g,0,rfl,Blk.lt hh,fun k x hx=>?_⟩,hf⟩
  have hk:k<l.length:=(List.getElem?_eq_some_iff.1 hx).1
  have rdc:∀ j u,j<3→(rsp.ldC x)[j]? = some u→w.cell? ⟨g,0+k*3+j,none⟩=some u:=fun j u hj hu=>by
   rw[Nat.zero_add]
   refine Blk.cell hh ?_
   have:=flat_at (f:=rsp.ldC) (sz:=3) (fun _=>rfl) hx hj
   rw[←ht,List.getElem?_take,if_pos (by omega),hu] at this
   simpa using this
  exact⟨rdc 0 _ (by omega) rfl,rdc 1 _ (by omega) rfl,rdc 2 _ (by omega) rfl⟩
def fx1 (s:Sys) (wh:List Int) (HL:List (Int × Int × Int)) (l:List Pt) (x:Pt):Int × Int :=
 rsp.bnP (ownP s wh x) (blH s x.p.pr HL+heN s x.p.pr l l.length) s.re (abN x.p.pr l (l.map (ldP s wh)) l.length) (l.map (ldP s wh)) x.p.de
def fxE (s:Sys) (wh:List Int) (HL:List (Int × Int × Int)) (l:List Pt):Nat→Int
 | 0=>0
 | q+1=>if fxE s wh HL l q≠0 then fxE s wh HL l q else if (l.getD q pt0).p.ti=true then 0 else (fx1 s wh HL l (l.getD q pt0)).2
def fxB (s:Sys) (wh:List Int) (HL:List (Int × Int × Int)) (l:List Pt) (g:Nat→Int):Nat→Nat→Int
 | 0=>g
 | q+1=>if (l.getD q pt0).p.ti=true then fxB s wh HL l g q else fun j=>if j=(l.getD q pt0).i then (l.getD q pt0).dn+(l.getD q pt0).ji+(fx1 s wh HL l (l.getD q pt0)).1 else fxB s wh HL l g q j
theorem fxE_next {s:Sys} {wh:List Int} {HL:List (Int × Int × Int)} {l:List Pt} {q:Nat} {x:Pt} (e:l[q]? = some x):fxE s wh HL l (q+1)=if fxE s wh HL l q≠0 then fxE s wh HL l q else if x.p.ti=true then 0 else (fx1 s wh HL l x).2:=by
 have e':l.getD q pt0=x:=by simp[List.getD,e]
 rw[fxE,e']
theorem fxB_next {s:Sys} {wh:List Int} {HL:List (Int × Int × Int)} {l:List Pt} {g:Nat→Int} {q:Nat} {x:Pt} (e:l[q]? = some x):fxB s wh HL l g (q+1)=if x.p.ti=true then fxB s wh HL l g q else fun j=>if j=x.i then x.dn+x.ji+(fx1 s wh HL l x).1 else fxB s wh HL l g q j:=by
 have e':l.getD q pt0=x:=by simp[List.getD,e]
 rw[fxB,e']
theorem abN_mem {pr:Int} {l:List Pt} {ls:List rsp.Ld} (hl:ls.length=l.length):∀ {q},q≤l.length→∀ y ∈ abN pr l ls q,y ∈ ls
 | 0,_,y,h=>by simp[abN] at h
 | q+1,hq,y,h=>by
  rw[abN,List.mem_append] at h
  rcases h with h | h
  ·exact abN_mem hl (by omega) y h
  ·split at h
   ·simp at h
    rw[h]
    have:q<ls.length:=by omega
    simp[this]
   ·cases h
end Go.Proofs.YtikcigjbhohboaaGreat.pln
end
section
namespace Go.Proofs.YtikcigjbhohboaaGreat.pln
open Go.Lib (hid)
set_option linter.unusedVariables false
set_option linter.unusedSimpArgs false
open Go.ChangeShapes Go.WideShapes Go.ChangeAt Go.RowKit Go.Deep Go.Shelf val ter Go.Sort
theorem fxE_stay {s:Sys} {wh:List Int} {HL:List (Int × Int × Int)} {l:List Pt} {q:Nat} (h:fxE s wh HL l q≠0):∀ d,fxE s wh HL l (q+d)=fxE s wh HL l q
 | 0=>rfl
 | d+1=>by
  have ih:=fxE_stay h d
  rw[←Nat.add_assoc,fxE,ih,if_pos h]
theorem rsec_but {w w':World} {A:Option Addr} {n:Nat} {l:List (Int × Int × Int)} {S:Nat→Prop} (h:RSec w A n l) (hb:But S w w') (hs:∀ b off,A=some ⟨b,off,none⟩→¬S b):RSec w' A n l :=
 ⟨h.len,h.max,fun hn=>by
  obtain⟨b,off,e,hl,hc⟩:=h.at_ hn
  have h9:=hs b off e
  exact⟨b,off,e,Nat.lt_of_lt_of_le hl hb.size,fun k x hx=>by
   obtain⟨h1,h2,h3⟩:=hc k x hx
   exact⟨(hb.cell hl h9).trans h1,(hb.cell hl h9).trans h2,(hb.cell hl h9).trans h3⟩⟩,h.fit⟩
set_option maxRecDepth 100000 in
set_option maxHeartbeats 8000000 in
theorem fixed_any {w0 w:World} {s:Sys} {A:Option Addr} {n c m b K:Nat} {F:Int→Int→Option Pt} {f:Nat→Int} (h:LY w0 w s A n c m b K F f) (hF:Fok n F) (hs:right s=true) (hn:n≤24) (co:Int) (hco:inR co) {rs:Nat} (hrs:s.rs=(rs:Int)) (hr8:rs≤8)
  (hbu:∀ x ∈ onN F co n,(0≤x.p.bu∧x.p.bu≤1099511627776)∧(0≤x.dn∧x.dn≤1125899906842624)∧(0≤x.ji∧x.ji≤1125899906842624)) {bb:Nat} {g:Nat→Int} (hbb:Vals w bb 3 n (fun j=>.int .i64 (g j))) (hbm:bb≠m) (hbw:bb≠b) (hb0:w0.heap.size≤bb) :
  Calls Tryz.prog 110 #[lyV s A n c m b,.int .i64 co,.slice (some ⟨bb,0,none⟩) n n] w fun e w'=>e=.returned (.int .i64 (fxE s ((List.range n).map f) (hoF s ((List.range n).map f) (ceF s (onN F co n)) (onN F co n)) (onN F co n) (onN F co n).length))∧But (Just bb) w w' ∧
   (fxE s ((List.range n).map f) (hoF s ((List.range n).map f) (ceF s (onN F co n)) (onN F co n)) (onN F co n) (onN F co n).length=0→Vals w' bb 3 n (fun j=>.int .i64 (fxB s ((List.range n).map f) (hoF s ((List.range n).map f) (ceF s (onN F co n)) (onN F co n)) (onN F co n) g (onN F co n).length j))):=by
 have CO:Hid (∀ W,Calls Tryz.prog 102 #[lyV s A n c m b,.int .i64 co] W fun e w'=>e=.returned (.func (.func 120) #[] #[.pointer (some ⟨W.heap.size,0,none⟩),.pointer (some ⟨W.heap.size+1,0,none⟩)])∧w'=(W.alloc (.cells (lyA s A n c m b) 123)).alloc (.cells #[.int .i64 co] 3)):=hid (fun W=>on_any s A n c m b co W)
 have HPR:Hid (∀ x ∈ onN F co n,inR x.p.pr∧inR x.p.de):=hid (fun x hx=>by obtain⟨i,_,e⟩:=onN_mem hx;exact⟨(hF.fit _ _ _ e).2.2.2,(hF.fit _ _ _ e).2.2.1⟩)
 have HIN:Hid (∀ x ∈ onN F co n,x.i<n):=hid (fun x hx=>by obtain⟨i,_,e⟩:=onN_mem hx;exact(hF.at_ _ _ _ e).2.2)
 have HOL:=hid (onN_len (F:=F) (co:=co) n)
 have CCO:Hid (∀ W Bs Bc,But No w W→Blk W Bs (lyA s A n c m b) 123→Blk W Bc #[.int .i64 co] 3→Calls Tryz.prog 134 #[.func (.func 120) #[] #[.pointer (some ⟨Bs,0,none⟩),.pointer (some ⟨Bc,0,none⟩)]] W fun e w'=>∃ A4 c4,e=.returned (.slice A4 (onN F co n).length c4)∧But No W w'∧(onN F co n).length≤c4∧RPt w' A4 (onN F co n).length (onN F co n)∧∀ b9 o9,A4=some ⟨b9,o9,none⟩→W.heap.size≤b9):=hid (fun W Bs Bc hb h1 h2=>(collect_any co hco hn h1 h2 (h.map.no hb)).mono (fun e w' h9=>by
  obtain⟨v,he,hg⟩:=h9
  have hl2:=HOL.out
  obtain⟨A4,c4,hv,hc,_,hr⟩:=rpt_of hg.own (by omega)
  exact⟨A4,c4,by rw[he,hv],hg.but,hc,hr,fun b9 o9 e=>hg.new b9 (by rw[hv,e];rfl)⟩))
 have CLO:Hid (∀ W,But No w W→∀ AH ch,(onN F co n).length≤ch→RPt W AH (onN F co n).length (onN F co n)→Calls Tryz.prog 135 #[lyV s A n c m b,.slice AH (onN F co n).length ch] W fun e w'=>∃ A4 c4,e=.returned (.slice A4 (onN F co n).length c4)∧But No W w'∧(onN F co n).length≤c4∧rsp.RLd w' A4 (onN F co n).length ((onN F co n).map (ldP s ((List.range n).map f)))∧∀ b9 o9,A4=some ⟨b9,o9,none⟩→W.heap.size≤b9):=hid (fun W hb AH ch hc hr=>(loads_any (h.no hb) hs hn hr hc (by have:=HOL.out;omega) (fun x hx=>⟨HIN.out x hx,(hbu x hx).1⟩)).mono (fun e w' h9=>by
  obtain⟨v,he,hg⟩:=h9
  have hl2:=HOL.out
  have hml:((onN F co n).map (ldP s ((List.range n).map f))).length=(onN F co n).length:=List.length_map ..
  obtain⟨A4,c4,hv,hc4,hr4⟩:=rld_of (l:=(onN F co n).map (ldP s ((List.range n).map f))) (by rw[hml];exact hg.own) (by rw[hml];omega) (fun y hy=>by
   obtain⟨x,hx,rfl⟩:=List.mem_map.1 hy
   have h1:=extra_bd hs ((List.range n).map f) (x.i:Int)
   obtain⟨⟨r0,r1⟩,⟨s0,s1⟩,f0,f1⟩:=right_costs hs
   have h2:=hbu x hx
   have hlt:x.i<s.ts.length:=by rw[h.len];exact HIN.out x hx
   have ht:s.ts[x.i]? = some s.ts[x.i]:=List.getElem?_eq_getElem hlt
   have h3:=h.cur.ts.fit _ (List.getElem_mem hlt)
   unfold ldP
   rw[getT ht]
   refine⟨?_,h3.1,?_⟩
   ·unfold ownP
    split <;> (unfold inR;dsimp only;omega)
   ·unfold inR;dsimp only;omega)
  rw[hml] at hv hc4 hr4
  exact⟨A4,c4,by rw[he,hv],hg.but,hc4,hr4,fun b9 o9 e=>hg.new b9 (by rw[hv,e];rfl)⟩))
 have CHO:Hid (∀ W,But No w W→Calls Tryz.prog 133 #[lyV s A n c m b,.int .i64 co] W fun e w'=>∃ A4 c4,e=.returned (.slice A4 (hoF s ((List.range n).map f) (ceF s (onN F co n)) (onN F co n)).length c4)∧But No W w'∧(hoF s ((List.range n).map f) (ceF s (onN F co n)) (onN F co n)).length≤c4∧RSec w' A4 (hoF s ((List.range n).map f) (ceF s (onN F co n)) (onN F co n)).length (hoF s ((List.range n).map f) (ceF s (onN F co n)) (onN F co n))∧∀ b9 o9,A4=some ⟨b9,o9,none⟩→W.heap.size≤b9):=hid (fun W hb=>(holds_any (h.no hb) hF hs hn co hco hrs hr8).mono (fun e w' h9=>by
  obtain⟨v,he,hg⟩:=h9
  have hl:=hoF_len (s:=s) (wh:=(List.range n).map f) (z:=ceF s (onN F co n)) (ter.right_len hs).2.2.2.2 (onN F co n)
  have hl2:=HOL.out
  obtain⟨A4,c4,hv,hc,hr⟩:=rsec_of hg.own (by omega) (fun x hx=>by
   have h1:=hoF_ok hs (fun x hx=>(HPR.out x hx).1) (fun r=>ceF_in (fun x hx=>(HPR.out x hx).1) r) x hx
   exact⟨by unfold inR;omega,h1.2.1,h1.2.2⟩)
  exact⟨A4,c4,by rw[he,hv],hg.but,hc,hr,fun b9 o9 e=>hg.new b9 (by rw[hv,e];rfl)⟩))
 have HYX:Hid (∀ W,But (fun z=>z=bb∨w.heap.size≤z) w W→LY w0 W s A n c m b K F f):=hid (fun W hb=>h.turn hb (fun k hk e=>by rcases e with e | e;exact⟨by omega,by omega,by omega⟩;omega))
 have CBK:Hid (∀ W,But (fun z=>z=bb∨w.heap.size≤z) w W→∀ p AH ch,inR p→(hoF s ((List.range n).map f) (ceF s (onN F co n)) (onN F co n)).length≤ch→RSec W AH (hoF s ((List.range n).map f) (ceF s (onN F co n)) (onN F co n)).length (hoF s ((List.range n).map f) (ceF s (onN F co n)) (onN F co n))→Calls Tryz.prog 132 #[lyV s A n c m b,.int .i64 p,.slice AH (hoF s ((List.range n).map f) (ceF s (onN F co n)) (onN F co n)).length ch] W fun e w'=>e=.returned (.int .i64 (blH s p (hoF s ((List.range n).map f) (ceF s (onN F co n)) (onN F co n))))∧But No W w'):=hid (fun W hb p AH ch hp hc hr=>block_any (HYX.out W hb) hs p hp hr hc (by
  have hl:=hoF_len (s:=s) (wh:=(List.range n).map f) (z:=ceF s (onN F co n)) (ter.right_len hs).2.2.2.2 (onN F co n)
  have hl2:=HOL.out
  omega) (fun x hx=>by
   have h1:=hoF_ok hs (fun x hx=>(HPR.out x hx).1) (fun r=>ceF_in (fun x hx=>(HPR.out x hx).1) r) x hx
   omega))
 have CHE:Hid (∀ W,But (fun z=>z=bb∨w.heap.size≤z) w W→∀ p AH ch,(onN F co n).length≤ch→RPt W AH (onN F co n).length (onN F co n)→Calls Tryz.prog 136 #[lyV s A n c m b,ptV p,.slice AH (onN F co n).length ch] W fun e w'=>e=.returned (.int .i64 (heN s p.p.pr (onN F co n) (onN F co n).length))∧But No W w'):=hid (fun W hb p AH ch hc hr=>helped_any (HYX.out W hb) hs p hr hc (by have:=HOL.out;omega) HIN.out)
 have HBLB:Hid (∀ p,0≤blH s p (hoF s ((List.range n).map f) (ceF s (onN F co n)) (onN F co n))∧blH s p (hoF s ((List.range n).map f) (ceF s (onN F co n)) (onN F co n))≤9895604650200):=hid (fun p=>by
  obtain⟨⟨r0,r1⟩,⟨s0,s1⟩,f0,f1⟩:=right_costs hs
  have h1:=blN_le (s:=s) (pr:=p) (l:=hoF s ((List.range n).map f) (ceF s (onN F co n)) (onN F co n)) (B:=9895604650000) (by omega) (fun x hx=>(hoF_ok hs (fun x hx=>(HPR.out x hx).1) (fun r=>ceF_in (fun x hx=>(HPR.out x hx).1) r) x hx).1) (hoF s ((List.range n).map f) (ceF s (onN F co n)) (onN F co n)).length
  unfold blH
  omega)
 have HHEB:Hid (∀ p q,q≤24→0≤heN s p (onN F co n) q∧heN s p (onN F co n) q≤1200):=hid (fun p q hq=>by
  have:=heN_le (s:=s) (pr:=p) (l:=onN F co n) (right_costs hs).2.2 q
  omega)
 have hREF:=h.sys.fit.2.2.2.1
 have hbl:bb<w.heap.size:=hbb.lt
 clear h hF hs hrs hr8
 obtain⟨wh,hwh⟩:∃ wh,(List.range n).map f=wh:=⟨_,rfl⟩
 rw[hwh] at CLO CHO CBK HBLB ⊢
 obtain⟨HL,hHL⟩:∃ HL,hoF s wh (ceF s (onN F co n)) (onN F co n)=HL:=⟨_,rfl⟩
 rw[hHL] at CHO CBK HBLB ⊢
 obtain⟨PL,hPL⟩:∃ PL,onN F co n=PL:=⟨_,rfl⟩
 rw[hPL] at CCO CLO CHE HHEB HPR HIN HOL hbu ⊢
 clear hwh hHL hPL
 obtain⟨L,hL⟩:∃ L,PL.length=L:=⟨_,rfl⟩
 have hL24:L≤24:=by have:=HOL.out;omega
 have HLL:=hid hL
 obtain⟨HN,hHN⟩:∃ HN,HL.length=HN:=⟨_,rfl⟩
 rw[hL] at CCO CLO CHE ⊢
 rw[hHN] at CHO CBK
 clear hL hHN HOL
 have HBU:=hid hbu
 have HBB:=hid hbb
 clear hbu hbb
 have HW:Hid (∀ W1 W2 W3:World,W1=w.alloc (.cells (lyA s A n c m b) 123)→W2=W1.alloc (.cells (lyA s A n c m b) 123)→W3=W2.alloc (.cells #[.int .i64 co] 3)→But No w W3∧W3.heap.size=w.heap.size+3∧Blk W3 w.heap.size (lyA s A n c m b) 123∧Blk W3 (w.heap.size+1) (lyA s A n c m b) 123∧Blk W3 (w.heap.size+1+1) #[.int .i64 co] 3):=hid (fun W1 W2 W3 e1 e2 e3=>by
  have s1:W1.heap.size=w.heap.size+1:=by rw[e1,size_alloc1]
  have s2:W2.heap.size=w.heap.size+1+1:=by rw[e2,size_alloc1,s1]
  have b1:But No w W1:=by rw[e1];exact(But.refl No w).alloc _
  have b2:But No W1 W2:=by rw[e2];exact(But.refl No W1).alloc _
  have b3:But No W2 W3:=by rw[e3];exact(But.refl No W2).alloc _
  have k1:Blk W1 w.heap.size (lyA s A n c m b) 123:=by rw[e1];exact Blk.new w _ _
  have k2:Blk W2 (w.heap.size+1) (lyA s A n c m b) 123:=by have:=Blk.new W1 (lyA s A n c m b) 123;rw[←e2,s1] at this;exact this
  have k3:Blk W3 (w.heap.size+1+1) #[.int .i64 co] 3:=by have:=Blk.new W2 #[.int .i64 co] 3;rw[←e3,s2] at this;exact this
  exact⟨(b1.trans b2).trans b3,by rw[e3,size_alloc1,s2],(k1.but b2 (fun f=>f)).but b3 (fun f=>f),k2.but b3 (fun f=>f),k3⟩)
 dsimp only[lyV,lyA] at CO CCO CLO CHO CBK CHE HW ⊢
 go_enter Tryz.func110,Tryz.ntmps110
 go_upto_region 2 with(first
  | (go_at_call 102;(with_reducible refine(CO.out _).mono ?_);rintro e w2 ⟨rfl,hw2⟩;obtain⟨hB0,hs0,hk1,hk2,hk3⟩:=HW.out _ _ _ rfl rfl hw2;have HB0:=hid hB0;have HK1:=hid hk1;have HK2:=hid hk2;have HK3:=hid hk3;clear hw2 hB0 hk1 hk2 hk3)
  | (go_at_call 134;(with_reducible refine(CCO.out _ _ _ HB0.out HK2.out HK3.out).mono ?_);rintro e w3 ⟨A1,c1,rfl,h3,hc1,hr1,hn1⟩;have HB1:=hid h3;have HR1:=hid hr1;have HN1:=hid hn1;clear h3 hr1 hn1))
 have HW3:=hid (HB0.out.trans HB1.out)
 have BLY:=hid (HK1.out.but HB1.out (fun f=>f))
 clear HK1 HK2 HK3 HW
 obtain⟨⟨l0,l1,l2,l3,l4,l5,l6,l7,l8⟩,l9,l10⟩:=ly_cells BLY.out
 go_upto_region 3 with(go_at_call 135;(with_reducible refine(CLO.out _ HW3.out _ _ hc1 HR1.out).mono ?_);rintro e w4 ⟨A2,c2,rfl,h4,hc2,hr2,hn2⟩;have HB4:=hid h4;have HR2:=hid hr2;have HN2:=hid hn2;clear h4 hr2 hn2)
 have HW4:=hid (HW3.out.trans HB4.out)
 have BLY4:=hid (BLY.out.but HB4.out (fun f=>f))
 clear l0 l1 l2 l3 l4 l5 l6 l7 l8 l9 l10
 obtain⟨⟨l0,l1,l2,l3,l4,l5,l6,l7,l8⟩,l9,l10⟩:=ly_cells BLY4.out
 go_upto_region 4 with(go_at_call 133;(with_reducible refine(CHO.out _ HW4.out).mono ?_);rintro e w5 ⟨A3,c3,rfl,h5,hc3,hr3,hn3⟩;have HB5:=hid h5;have HR3:=hid hr3;have HN3:=hid hn3;clear h5 hr3 hn3)
 have HW5:=hid (HW4.out.trans HB5.out)
 have BLY5:=hid (BLY4.out.but HB5.out (fun f=>f))
 have HP5:=hid ((HR1.out.no HB4.out).no HB5.out)
 have HL5:=hid (HR2.out.no HB5.out)
 clear l0 l1 l2 l3 l4 l5 l6 l7 l8 l9 l10 BLY BLY4 HR1 HR2
 have hz3:w.heap.size+3≤w3.heap.size:=by have:=HB1.out.size;omega
 have hz4:w3.heap.size≤w4.heap.size:=HB4.out.size
 have hz5:w4.heap.size≤w5.heap.size:=HB5.out.size
 have HBB5:=hid (HBB.out.but HW5.out (fun f=>f))
 go_wp2_with fail
 go_loopw [27] (fun i wr=>∃ q:Nat,i=.int .i64 (q:Int)∧q≤L∧Hid (fxE s wh HL PL q=0∧Vals wr bb 3 n (fun j=>.int .i64 (fxB s wh HL PL g q j))∧But (Just bb) w5 wr)) (fun i _=>L-(intOf i).toNat)
 case atStart=>exact⟨0,rfl,by omega,rfl,HBB5.out,But.refl _ _⟩
 case round =>
  obtain⟨q,rfl,hq,HI⟩:=hrel
  have hq0:(0:Int)≤(q:Int):=Int.natCast_nonneg q
  by_cases hqn:q<L
  ·have hqn2:(q:Int)<(L:Int):=by omega
   have b4:decide ((q:Int)<(L:Int))=true:=by simp;omega
   obtain⟨y,hy⟩:∃ y,PL[q]? = some y:=⟨_,List.getElem?_eq_getElem (by rw[HLL.out];exact hqn)⟩
   have hym:=List.mem_of_getElem? hy
   have HEN:=hid (fxE_next (s:=s) (wh:=wh) (HL:=HL) hy)
   have HBN:=hid (fxB_next (s:=s) (wh:=wh) (HL:=HL) (g:=g) hy)
   have hyi:=HIN.out y hym
   have hpr:=(HPR.out y hym).1
   have hyb:=HBU.out y hym
   have HPX:=hid (HP5.out.but HI.out.2.2 (fun _ b9 o9 e e'=>by have:=HN1.out b9 o9 e;rw[show b9=bb from e'] at this;omega))
   have HLX:=hid (HL5.out.but HI.out.2.2 (fun _ b9 o9 e e'=>by have:=HN2.out b9 o9 e;rw[show b9=bb from e'] at this;omega))
   have HSX:=hid (rsec_but HR3.out HI.out.2.2 (fun b9 o9 e e'=>by have:=HN3.out b9 o9 e;rw[show b9=bb from e'] at this;omega))
   have hly:=BLY5.out.but HI.out.2.2 (fun e=>by have e':w.heap.size=bb:=e;omega)
   have HWr:Hid (But (fun z=>z=bb∨w.heap.size≤z) w wr):=hid (HW5.out.no.trans (HI.out.2.2.mono (fun z _ e=>.inl e)))
   obtain⟨bR,oR,hAR,_,c0,c1',c2',c3',c4',c5',c6,c7,c8,c9⟩:=HPX.out.at1 hy
   subst hAR
   obtain⟨⟨x0,x1,x2,x3,x4⟩,xi,xk,xl,xd,xj⟩:=y
   dsimp only at c0 c1' c2' c3' c4' c5' c6 c7 c8 c9 HEN HBN hyi hpr hyb
   have HNB:Hid (But No wr (wr.alloc (.cells #[.int .i64 x0,.int .i64 x1,.int .i64 x2,.int .i64 x3,.bool x4,.int .i64 (xi:Int),.int .i64 (xk:Int),.bool xl,.int .i64 xd,.int .i64 xj] 130))∧Blk (wr.alloc (.cells #[.int .i64 x0,.int .i64 x1,.int .i64 x2,.int .i64 x3,.bool x4,.int .i64 (xi:Int),.int .i64 (xk:Int),.bool xl,.int .i64 xd,.int .i64 xj] 130)) wr.heap.size #[.int .i64 x0,.int .i64 x1,.int .i64 x2,.int .i64 x3,.bool x4,.int .i64 (xi:Int),.int .i64 (xk:Int),.bool xl,.int .i64 xd,.int .i64 xj] 130):=hid ⟨(But.refl No wr).alloc _,Blk.new wr _ _⟩
   clear hym
   go_upto_region 7 with fail
   obtain⟨hbx,hpx⟩:=HNB.out
   generalize wr.alloc (.cells #[.int .i64 x0,.int .i64 x1,.int .i64 x2,.int .i64 x3,.bool x4,.int .i64 (xi:Int),.int .i64 (xk:Int),.bool xl,.int .i64 xd,.int .i64 xj] 130)=wx at hbx hpx ⊢
   have HBX:=hid hbx
   have HWX:=hid (HWr.out.trans hbx.no)
   have d4:=hpx.cell (o:=4) rfl
   have hlx:=hly.but hbx (fun f=>f)
   have KEEP:Hid (∀ w',But No wx w'→(fun w'=>PR w.heap.size wr.heap.size m x0 x1 x2 x3 x4 xi xk xl xd xj w'∧L11 w' w.heap.size s A n c m b) w'):=hid (fun w' hb=>⟨pr_of (x:=⟨⟨x0,x1,x2,x3,x4⟩,xi,xk,xl,xd,xj⟩) (hlx.but hb (fun f=>f)) (hpx.but hb (fun f=>f)),ly_cells (hlx.but hb (fun f=>f))⟩)
   clear hbx hpx hlx hly c0 c1' c2' c3' c4' c5' c6 c7 c8 c9 HNB
   cases x4 with
   | true =>
    go_wp2_with fail
    refine⟨⟨q+1,rfl,by omega,by rw[HEN.out,HI.out.1];simp,by rw[HBN.out];exact HI.out.2.1.but HBX.out (fun f=>f),HI.out.2.2.trans HBX.out.no⟩,?_⟩
    simp only[intOf];omega
   | false =>
    go_upto_region 8 with fail
    obtain⟨BK,hBK⟩:∃ BK,blH s x3 HL=BK:=⟨_,rfl⟩
    obtain⟨HE,hHE⟩:∃ HE,heN s x3 PL L=HE:=⟨_,rfl⟩
    have hbk:=HBLB.out x3
    have hhe:=HHEB.out x3 L hL24
    rw[hBK] at hbk
    rw[hHE] at hhe
    have CB2:Hid (∀ W,But No wx W→Calls Tryz.prog 132 #[.agg #[.int .i64 s.co,.int .i64 s.po,.int .i64 s.pr,.int .i64 s.re,.int .i64 s.sw,.int .i64 s.fi,.int .i64 s.la,.int .i64 s.rs,.slice A n c,.map (some m),.slice (some ⟨b,0,none⟩) n n],.int .i64 x3,.slice A3 HN c3] W fun e w'=>e=.returned (.int .i64 BK)∧But No W w'):=hid (fun W hb=>by rw[←hBK];exact CBK.out W (HWX.out.trans hb.no) x3 A3 c3 hpr hc3 ((HSX.out.no HBX.out).no hb))
    have CE2:Hid (∀ W,But No wx W→Calls Tryz.prog 136 #[.agg #[.int .i64 s.co,.int .i64 s.po,.int .i64 s.pr,.int .i64 s.re,.int .i64 s.sw,.int .i64 s.fi,.int .i64 s.la,.int .i64 s.rs,.slice A n c,.map (some m),.slice (some ⟨b,0,none⟩) n n],.agg #[.int .i64 x0,.int .i64 x1,.int .i64 x2,.int .i64 x3,.bool false,.int .i64 (xi:Int),.int .i64 (xk:Int),.bool xl,.int .i64 xd,.int .i64 xj],.slice (some ⟨bR,oR,none⟩) L c1] W fun e w'=>e=.returned (.int .i64 HE)∧But No W w'):=hid (fun W hb=>by rw[←hHE];exact CHE.out W (HWX.out.trans hb.no) ⟨⟨x0,x1,x2,x3,false⟩,xi,xk,xl,xd,xj⟩ _ c1 hc1 ((HPX.out.no HBX.out).no hb))
    have HBKE:=hid hBK
    have HHEE:=hid hHE
    clear hBK hHE
    go_region_held3 (fun w'=>PR w.heap.size wr.heap.size m x0 x1 x2 x3 false xi xk xl xd xj w'∧L11 w' w.heap.size s A n c m b)
     (first | exact KEEP.out _ HB9.out | exact KEEP.out _ HB8.out | exact KEEP.out _ (But.refl No wx).drew)
     (first | (go_at_call 132;first | ((with_reducible refine(CB2.out _ HB8.out).mono ?_);rintro e w9 ⟨rfl,h9⟩;have HB9:Hid (But No wx w9):=hid (HB8.out.trans h9);clear h9) | ((with_reducible refine(CB2.out _ (But.refl No wx).drew).mono ?_);rintro e w8 ⟨rfl,h8⟩;have HB8:Hid (But No wx w8):=hid ((But.refl No wx).drew.trans h8);clear h8)) | (go_at_call 136;first | ((with_reducible refine(CE2.out _ HB8.out).mono ?_);rintro e w9 ⟨rfl,h9⟩;have HB9:Hid (But No wx w9):=hid (HB8.out.trans h9);clear h9) | ((with_reducible refine(CE2.out _ (But.refl No wx).drew).mono ?_);rintro e w8 ⟨rfl,h8⟩;have HB8:Hid (But No wx w8):=hid ((But.refl No wx).drew.trans h8);clear h8)))
    all_goals
     obtain⟨ld,hld⟩:∃ ld,(PL.map (ldP s wh))[q]? = some ld:=⟨_,List.getElem?_eq_getElem (by rw[List.length_map,HLL.out];exact hqn)⟩
     obtain⟨b2,o2,hA2,_,z0,_,_⟩:=HLX.out.at1 hld
     subst hA2
     have hldw:ld=ldP s wh ⟨⟨x0,x1,x2,x3,false⟩,xi,xk,xl,xd,xj⟩:=by
      rw[List.getElem?_map,hy] at hld
      exact(Option.some.inj hld).symm
     obtain⟨OW,hOW⟩:∃ OW,ld.w=OW:=⟨_,rfl⟩
     rw[hOW] at z0
     have HOW:Hid (ownP s wh ⟨⟨x0,x1,x2,x3,false⟩,xi,xk,xl,xd,xj⟩=OW):=hid (by rw[←hOW,hldw];rfl)
     have hb9:But No wx w9:=HB9.out
     have z1:=cell_keep z0 (HBX.out.trans hb9)
     obtain⟨AB,hAB⟩:∃ AB,abN x3 PL (PL.map (ldP s wh)) L=AB:=⟨_,rfl⟩
     have hABl:AB.length≤L:=by rw[←hAB];exact abN_len L
     have KEEP9:Hid (∀ w',But No w9 w'→(fun w'=>PR w.heap.size wr.heap.size m x0 x1 x2 x3 false xi xk xl xd xj w'∧L11 w' w.heap.size s A n c m b∧w'.cell? ⟨b2,o2+q*3,none⟩=some (.int .i64 OW)) w'):=hid (fun w' hb=>⟨(KEEP.out w' (hb9.trans hb)).1,(KEEP.out w' (hb9.trans hb)).2,cell_keep z1 hb⟩)
     have CA2:Hid (∀ W,But No w9 W→Calls Tryz.prog 138 #[.agg #[.int .i64 x0,.int .i64 x1,.int .i64 x2,.int .i64 x3,.bool false,.int .i64 (xi:Int),.int .i64 (xk:Int),.bool xl,.int .i64 xd,.int .i64 xj],.slice (some ⟨bR,oR,none⟩) L c1,.slice (some ⟨b2,o2,none⟩) L c2] W fun e w'=>∃ A9 c9,e=.returned (.slice A9 AB.length c9)∧But No W w'∧rsp.RLd w' A9 AB.length AB):=hid (fun W hb=>(above_any ⟨⟨x0,x1,x2,x3,false⟩,xi,xk,xl,xd,xj⟩ (((HPX.out.no HBX.out).no hb9).no hb) (((rsp.RLd.but HLX.out HBX.out (fun _ _ _ _ f=>f)).but hb9 (fun _ _ _ _ f=>f)).but hb (fun _ _ _ _ f=>f)) hc1 hc2 hL24).mono (fun e w' h9=>by
      obtain⟨v,he,hg⟩:=h9
      dsimp only at hg
      rw[hAB] at hg
      obtain⟨A4,c4,hv,_,hr4⟩:=rld_of hg.own (by omega) (fun y9 hy9=>HLX.out.fit y9 (abN_mem (pr:=x3) (l:=PL) (q:=L) (by simp) (by rw[HLL.out];exact Nat.le_refl L) y9 (by rw[hAB];exact hy9)))
      exact⟨A4,c4,by rw[he,hv],hg.but,hr4⟩))
     have hOWR:inR OW:=by rw[←hOW];exact(HLX.out.fit ld (List.mem_of_getElem? hld)).1
     have hx2R:inR x2:=(HPR.out _ (List.mem_of_getElem? hy)).2
     obtain⟨BN,hBN⟩:∃ BN,rsp.bnP OW (BK+HE) s.re AB (PL.map (ldP s wh)) x2=BN:=⟨_,rfl⟩
     have HFX:Hid (fx1 s wh HL PL ⟨⟨x0,x1,x2,x3,false⟩,xi,xk,xl,xd,xj⟩=BN):=hid (by
      unfold fx1
      dsimp only
      rw[HOW.out,HBKE.out,HLL.out,HHEE.out,hAB,hBN])
     have CBD:Hid (∀ W A9 c9,But No w9 W→rsp.RLd W A9 AB.length AB→Calls Tryz.prog 137 #[.int .i64 OW,.int .i64 (BK+HE),.int .i64 s.re,.slice A9 AB.length c9,.slice (some ⟨b2,o2,none⟩) L c2,.int .i64 x2] W fun e w'=>e=.returned (.tuple #[.int .i64 BN.1,.int .i64 BN.2])∧But No W w'):=hid (fun W A9 c9 hb hr=>by
      rw[←hBN]
      exact rsp.bound_any A9 AB.length c9 AB _ L c2 _ OW (BK+HE) s.re x2 W hr (((rsp.RLd.but HLX.out HBX.out (fun _ _ _ _ f=>f)).but hb9 (fun _ _ _ _ f=>f)).but hb (fun _ _ _ _ f=>f)) hOWR (by unfold inR;omega) hREF hx2R)
     have HBOK:Hid (BN.2=0→1≤BN.1∧BN.1≤1099511627776):=hid (fun h0=>by
      rw[←hBN] at h0 ⊢
      exact⟨(rsp.bn_ok h0).2.2.1,(rsp.bn_ok h0).2.2.2.1⟩)
     obtain⟨B1,B2⟩:=BN
     have hbq:(q:Int)<(L:Int):=hqn2
     clear hld hldw hOW hAB hBN hy z0 z1
     have hwr:IntKind.i64.wrap (BK+HE)=BK+HE:=wrp_in (by unfold inR;omega)
     rw[hwr]
     go_upto_region 9 with fail
     go_region_held3 (fun w'=>PR w.heap.size wr.heap.size m x0 x1 x2 x3 false xi xk xl xd xj w'∧L11 w' w.heap.size s A n c m b∧w'.cell? ⟨b2,o2+q*3,none⟩=some (.int .i64 OW))
      (first | exact KEEP9.out _ HBD.out | exact KEEP9.out _ HBA.out | exact KEEP9.out _ (But.refl No w9).drew)
      (first | (go_at_call 138;(with_reducible refine(CA2.out _ (But.refl No w9).drew).mono ?_);rintro e wa ⟨A9,c9,rfl,ha,hra⟩;have HBA:Hid (But No w9 wa):=hid ((But.refl No w9).drew.trans ha);have HRA:=hid hra;clear ha hra) | (go_at_call 137;(with_reducible refine(CBD.out _ _ _ HBA.out HRA.out).mono ?_);rintro e wd ⟨rfl,hd⟩;have HBD:Hid (But No w9 wd):=hid (HBA.out.trans hd);clear hd))
     have hyb2:=hyb
     obtain⟨_,⟨hd0,hd1⟩,hj0,hj1⟩:=hyb2
     have HBD2:=hid (HBX.out.trans (hb9.trans HBD.out))
     have HVD:=hid (HI.out.2.1.but HBD2.out (fun f=>f))
     have hxi1:(xi:Int)<(n:Int):=by omega
     have hxi0:(0:Int)≤(xi:Int):=Int.natCast_nonneg _
     have CBF:Hid (∀ W,Calls Tryz.prog 113 #[.agg #[.int .i64 x0,.int .i64 x1,.int .i64 x2,.int .i64 x3,.bool false,.int .i64 (xi:Int),.int .i64 (xk:Int),.bool xl,.int .i64 xd,.int .i64 xj]] W fun e w'=>e=.returned (.int .i64 (xd+xj))∧But No W w'):=hid (fun W=>by
      have h9:=before_any ⟨⟨x0,x1,x2,x3,false⟩,xi,xk,xl,xd,xj⟩ W
      dsimp only at h9
      rw[wrp_in (show inR (xd+xj)by unfold inR;omega)] at h9
      exact h9)
     have KEEP12:Hid (∀ w',But (Just bb) wd w'→(fun w'=>PR w.heap.size wr.heap.size m x0 x1 x2 x3 false xi xk xl xd xj w') w'):=hid (fun w' hb=>((KEEP.out wd (hb9.trans HBD.out)).1).butS hb (fun e=>by have e':w.heap.size=bb:=e;omega) (fun e=>by have e':wr.heap.size=bb:=e;have:=HI.out.2.2.size;omega))
     by_cases hB2:B2=0
     ·have b5:(B2 == 0)=true:=by simp[hB2]
      have b6:(B2 != 0)=false:=by simp[hB2]
      have hbok:=HBOK.out hB2
      have HB20:=hid hB2
      clear hB2
      go_upto_region 12 with fail
      go_region_held3 (fun w'=>PR w.heap.size wr.heap.size m x0 x1 x2 x3 false xi xk xl xd xj w')
       (first | exact KEEP12.out _ HBS.out | exact KEEP12.out _ HBE.out.no | exact KEEP12.out _ (But.refl No wd).drew.no)
       ((go_at_call 113;(with_reducible refine(CBF.out _).mono ?_);rintro e we ⟨rfl,he⟩;have HBE:Hid (But No wd we):=hid ((But.refl No wd).drew.trans he);have fc:=(HVD.out.but HBE.out (fun f=>f)).cell hyi;have ff:=(HVD.out.but HBE.out (fun f=>f)).frozen xi;have HBS:Hid (But (Just bb) wd (we.setCell ⟨bb,xi,none⟩ (.int .i64 (IntKind.i64.wrap (xd+xj+B1))))):=hid (HBE.out.no.trans ((But.refl (Just bb) we).setCell (p:=⟨bb,xi,none⟩) rfl _));clear he))
      have hwr2:IntKind.i64.wrap (xd+xj+B1)=xd+xj+B1:=wrp_in (by unfold inR;omega)
      rw[hwr2]
      go_wp2_with fail
      have hv6:=((HVD.out.but HBE.out (fun f=>f)).set (k:=xi) (.int .i64 (xd+xj+B1)))
      have hbs6:=HBS.out
      rw[hwr2] at hbs6
      refine⟨⟨q+1,rfl,by omega,by rw[HEN.out,HI.out.1,HFX.out];simp[HB20.out],hv6.congr (fun j _=>by rw[HBN.out,HFX.out];by_cases e:j=xi <;> simp[e]),(HI.out.2.2.trans HBD2.out.no).trans hbs6⟩,?_⟩
      simp only[intOf];omega
     ·have b5:(B2 == 0)=false:=by simp[hB2]
      have b6:(B2 != 0)=true:=by simp[hB2]
      have HB20:=hid hB2
      clear hB2
      go_wp2_with fail
      go_ret
      have he1:fxE s wh HL PL (q+1)=B2:=by rw[HEN.out,HI.out.1,HFX.out];simp
      have he2:fxE s wh HL PL L=B2:=by
       have h9:=fxE_stay (s:=s) (wh:=wh) (HL:=HL) (l:=PL) (q:=q+1) (by rw[he1];exact HB20.out) (L-(q+1))
       rw[show q+1+(L-(q+1))=L by omega] at h9
       rw[h9,he1]
      exact⟨by rw[he2];rfl,(HW5.out.no.trans HI.out.2.2).trans HBD2.out.no,fun h0=>absurd (by rw[←he2];exact h0) HB20.out⟩
  ·have hqe:q=L:=by omega
   subst hqe
   have b3:decide ((q:Int)<(q:Int))=false:=by simp
   go_wp2_with fail
   go_ret
   have hbw5:But (Just bb) w wr:=HW5.out.no.trans HI.out.2.2
   exact⟨by rw[HI.out.1];rfl,hbw5,fun _=>HI.out.2.1⟩
end Go.Proofs.YtikcigjbhohboaaGreat.pln
end
section
namespace Go.Proofs.YtikcigjbhohboaaGreat.pln
set_option linter.unusedVariables false
set_option linter.unusedSimpArgs false
open Go.ChangeShapes Go.WideShapes Go.ChangeAt Go.RowKit Go.Deep val
theorem lfN_is (la d:Int) (l:List Pc):∀ k:Nat,lfN la d l k=d-smN l k-(k:Int)*(la-1)
 | 0=>by rw[lfN,smN];simp
 | k+1=>by
  rw[lfN,smN,lfN_is la d l k]
  have:((k+1:Nat):Int)*(la-1)=(k:Int)*(la-1)+(la-1):=by rw[Int.natCast_add,Int.add_mul];simp
  omega
def RG (s:Sys) (t:Tsk) (l:List Pc) (k:Nat) (x:Pc):Prop :=
 k<8∧(0≤x.co∧x.co<s.co)∧1≤x.bu∧(x.ti=true→x.bu<t.w-smN l k∧x.de=x.bu∧t.secs.length=0)∧(x.ti=false→k+1=l.length∧x.bu=t.w-smN l k∧x.de=t.d-(smN l k+(k:Int)*(s.la-1))∧1≤x.de)
theorem small_k {k:Nat} {a:Int} (hk:k<8) (ha:0≤a∧a≤49):0≤(k:Int)*a∧(k:Int)*a≤343:=by
 have h1:(k:Int)≤7:=by omega
 constructor
 ·exact Int.mul_nonneg (by omega) ha.1
 ·have:=Int.mul_le_mul h1 ha.2 ha.1 (by omega)
  omega
theorem rg_iff {s:Sys} {t:Tsk} {l:List Pc} {i k:Nat} {x:Pc} (hla:1≤s.la∧s.la≤50) (hw:1≤t.w∧t.w≤1099511627776) (hd:1≤t.d∧t.d≤1099511627776) (hsm:dnW l k=smN l k∧0≤smN l k∧smN l k≤1099511627776):rgV s t (mkP (wrp (s.la-1)) i l k x)=true ↔ RG s t l k x:=by
 by_cases hk:k<8
 ·have hlt:wrp (s.la-1)=s.la-1:=wrp_in (by unfold inR;omega)
  have hkl:=small_k hk (show 0≤s.la-1∧s.la-1≤49 by omega)
  have h1:wrp ((k:Int)*(s.la-1))=(k:Int)*(s.la-1):=wrp_in (by unfold inR;omega)
  have h2:wrp (t.w-smN l k)=t.w-smN l k:=wrp_in (by unfold inR;omega)
  have h3:wrp (smN l k+(k:Int)*(s.la-1))=smN l k+(k:Int)*(s.la-1):=wrp_in (by unfold inR;omega)
  have h4:wrp (t.d-(smN l k+(k:Int)*(s.la-1)))=t.d-(smN l k+(k:Int)*(s.la-1)):=wrp_in (by unfold inR;omega)
  unfold rgV RG mkP
  dsimp only
  rw[hlt,hsm.1,h1,h2,h3,h4]
  generalize (k:Int)*(s.la-1)=z
  generalize smN l k=y
  cases x.ti with
  | true=>simp only[if_true,Bool.and_eq_true,Bool.not_eq_true',Bool.or_eq_false_iff,decide_eq_false_iff_not,decide_eq_true_eq,true_implies,Bool.true_eq_false,false_implies,and_true];omega
  | false=>simp only[Bool.false_eq_true,if_false,Bool.and_eq_true,Bool.not_eq_true',Bool.or_eq_false_iff,decide_eq_false_iff_not,decide_eq_true_eq,true_implies,false_implies,true_and];omega
 ·constructor
  ·intro h
   have:k<8:=rgV_k h
   omega
  ·intro h;exact absurd h.1 hk
theorem dn_sm {l:List Pc} {B:Int} (hB:B≤1099511627776):∀ k,k≤l.length→(∀ j,j≤k→0≤smN l j∧smN l j≤B)→dnW l k=smN l k
 | 0,_,_=>rfl
 | k+1,hk,h=>by
  rw[dnW,smN,dn_sm hB k (by omega) (fun j hj=>h j (by omega))]
  have:=h (k+1) (by omega)
  rw[smN] at this
  exact wrp_in (by unfold inR;omega)
theorem sm_mono {l:List Pc} (h:∀ x ∈ l,1≤x.bu) {k:Nat}:∀ d,k+d≤l.length→smN l k+d≤smN l (k+d)
 | 0,_=>by simp
 | d+1,hd=>by
  have hx:l[k+d]? = some (l[k+d]'(by omega)):=List.getElem?_eq_getElem (by omega)
  have ih:=sm_mono h d (k:=k) (by omega)
  have:=h _ (List.getElem_mem (show k+d<l.length by omega))
  rw[←Nat.add_assoc,smN_next hx]
  omega
theorem okL_sm {s:Sys} {t:Tsk} {l:List Pc} (h:okL s t l=true) (hw:1≤t.w):(∀ x ∈ l,1≤x.bu)∧l.length≤8∧(∀ k,k≤l.length→0≤smN l k∧smN l k≤t.w)∧(l ≠ []→((l.getD (l.length-1) pc0).ti=true→smN l l.length<t.w)∧((l.getD (l.length-1) pc0).ti=false→smN l l.length=t.w)):=by
 have hb:∀ x ∈ l,1≤x.bu:=fun x hx=>by
  obtain⟨k,hk⟩:=List.mem_iff_getElem?.1 hx
  have:=okL_piece h hk
  unfold badP bad1 at this
  simp only[Bool.or_eq_false_iff,decide_eq_false_iff_not] at this
  omega
 have h8:=okL_len h
 have hend:l ≠ []→((l.getD (l.length-1) pc0).ti=true→smN l l.length<t.w)∧((l.getD (l.length-1) pc0).ti=false→smN l l.length=t.w):=fun hne=>by
  unfold okL at h
  simp only[Bool.and_eq_true,Bool.or_eq_true,decide_eq_true_eq] at h
  rcases h.2.2 with e | e
  ·exact absurd e hne
  ·constructor
   ·intro e2;rw[if_pos e2] at e;simpa using e
   ·intro e2;rw[if_neg (by rw[e2];simp)] at e;simpa using e
 refine⟨hb,h8,fun k hk=>?_,hend⟩
 have h0:=sm_mono hb (k:=0) k (by omega)
 have h1:=sm_mono hb (k:=k) (l.length-k) (by omega)
 rw[Nat.zero_add] at h0
 rw[show k+(l.length-k)=l.length by omega] at h1
 have hz:smN l 0=0:=rfl
 rw[hz] at h0
 refine⟨by omega,?_⟩
 by_cases hne:l = []
 ·subst hne
  have:k=0:=by simpa using hk
  subst this
  rw[hz];omega
 ·have:=hend hne
  cases e:(l.getD (l.length-1) pc0).ti with
  | true=>have:=this.1 e;omega
  | false=>have:=this.2 e;omega
theorem okL_rg {s:Sys} {t:Tsk} {l:List Pc} (h:okL s t l=true) (hw:1≤t.w) {k:Nat} {x:Pc} (hx:l[k]? = some x):RG s t l k x∧∀ j y,j<k→l[j]? = some y→y.co≠x.co:=by
 have hk:k<l.length:=(List.getElem?_eq_some_iff.1 hx).1
 obtain⟨hb,h8,hsm,hend⟩:=okL_sm h hw
 have hp:=okL_piece h hx
 have hne:l ≠ []:=by intro e;rw[e] at hk;simp at hk
 obtain⟨he1,he2⟩:=hend hne
 unfold badP bad1 bad3 at hp
 rw[lfN_is] at hp
 simp only[Bool.or_eq_false_iff,Bool.and_eq_false_iff,decide_eq_false_iff_not,Bool.not_eq_false',Bool.not_eq_true',decide_eq_true_eq] at hp
 obtain⟨⟨p1,p2,p3,p4,p5,p6⟩,p7,p8,p9⟩:=hp
 have hbu:=hb x (List.mem_of_getElem? hx)
 have hnx:=smN_next hx
 refine⟨⟨by omega,⟨by omega,by omega⟩,hbu,fun ht=>?_,fun ht=>?_⟩,fun j y hj hy e=>?_⟩
 ·refine⟨?_,?_,?_⟩
  ·by_cases hl:k+1=l.length
   ·have hlast:l.getD (l.length-1) pc0=x:=by rw[show l.length-1=k by omega];simp[List.getD,hx]
    have:=he1 (by rw[hlast];exact ht)
    rw[←hl,hnx] at this
    omega
   ·have h1:=sm_mono hb (k:=k+1) (l.length-(k+1)) (by omega)
    rw[show k+1+(l.length-(k+1))=l.length by omega] at h1
    have h2:=(hsm l.length (Nat.le_refl _)).2
    omega
  ·rcases p8 with e | e
   ·rw[ht] at e;cases e
   ·exact e
  ·rcases p6 with e | e
   ·rw[ht] at e;cases e
   ·omega
 ·have hl:k+1=l.length:=okL_tight h hx ht
  have hlast:l.getD (l.length-1) pc0=x:=by rw[show l.length-1=k by omega];simp[List.getD,hx]
  have:=he2 (by rw[hlast];exact ht)
  rw[←hl,hnx] at this
  rcases p9 with e | e
  ·rw[ht] at e;cases e
  ·obtain⟨e1,e2⟩:=e
   exact⟨hl,by omega,by omega,by omega⟩
 ·have:=bad2_next hj hy e
  rw[p7] at this;cases this
theorem rg_okL {s:Sys} {t:Tsk} {l:List Pc} (hw:1≤t.w) (h:∀ k x,l[k]? = some x→RG s t l k x∧∀ j y,j<k→l[j]? = some y→y.co≠x.co):okL s t l=true:=by
 have hb:∀ x ∈ l,1≤x.bu:=fun x hx=>by
  obtain⟨k,hk⟩:=List.mem_iff_getElem?.1 hx
  exact(h k x hk).1.2.2.1
 have h8:l.length≤8:=by
  by_cases h0:l.length=0
  ·omega
  ·have:=(h (l.length-1) _ (List.getElem?_eq_getElem (by omega))).1.1
   omega
 have hs0:∀ k,k≤l.length→0≤smN l k:=fun k hk=>by
  have h0:=sm_mono hb (k:=0) k (by omega)
  rw[Nat.zero_add] at h0
  have hz:smN l 0=0:=rfl
  omega
 have hok:∀ k,k≤l.length→okN s t l k=true:=by
  intro k
  induction k with
  | zero=>intro _;rfl
  | succ k ih =>
   intro hk
   have hx:l[k]? = some (l[k]'(by omega)):=List.getElem?_eq_getElem (by omega)
   obtain⟨⟨g1,g2,g3,g4,g5⟩,g6⟩:=h k _ hx
   refine okN_next hx (ih (by omega)) ?_
   have hz:=hs0 k (by omega)
   unfold badP bad1 bad3
   rw[bad2_none (fun j y hj hy=>g6 j y hj hy),lfN_is]
   cases ht:l[k].ti with
   | true =>
    obtain⟨a1,a2,a3⟩:=g4 ht
    simp only[Bool.or_eq_false_iff,Bool.and_eq_false_iff,decide_eq_false_iff_not,Bool.not_eq_false',Bool.not_eq_true',decide_eq_true_eq,Bool.not_true,Bool.false_and,Bool.true_and,Bool.false_or,Bool.or_false,true_and,and_true]
    omega
   | false =>
    obtain⟨a1,a2,a3,a4⟩:=g5 ht
    simp only[Bool.or_eq_false_iff,Bool.and_eq_false_iff,decide_eq_false_iff_not,Bool.not_eq_false',Bool.not_eq_true',decide_eq_true_eq,Bool.not_false,Bool.false_and,Bool.true_and,Bool.false_or,Bool.or_false,true_and,and_true]
    omega
 unfold okL
 rw[hok _ (Nat.le_refl _),decide_eq_true h8]
 by_cases hne:l = []
 ·simp[hne]
 ·have hpos:0<l.length:=List.length_pos_iff.2 hne
  have hx:l[l.length-1]? = some (l[l.length-1]'(by omega)):=List.getElem?_eq_getElem (by omega)
  obtain⟨⟨g1,g2,g3,g4,g5⟩,g6⟩:=h _ _ hx
  have hnx:=smN_next hx
  rw[show l.length-1+1=l.length by omega] at hnx
  have hl:l.getD (l.length-1) pc0=l[l.length-1]'(by omega):=by simp[List.getD,hx]
  rw[hl,hnx]
  cases ht:(l[l.length-1]'(by omega)).ti with
  | true=>have:=g4 ht;simp[hne];omega
  | false=>have:=g5 ht;simp[hne];omega
end Go.Proofs.YtikcigjbhohboaaGreat.pln
end
