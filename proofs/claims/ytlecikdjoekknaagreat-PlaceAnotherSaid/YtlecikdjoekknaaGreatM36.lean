/- Part 36 of a proof: PaE. -/
import Derived.Test.YtlecikdjoekknaaGreatM31
import Derived.Test.YtlecikdjoekknaaGreatM35
set_option maxRecDepth 100000
set_option maxHeartbeats 16000000
set_option linter.unusedVariables false
set_option linter.unusedSimpArgs false
section
namespace Go.Proofs.YtlecikdjoekknaaGreat.pln
open Go.Lib (hid)
open Go.ChangeShapes Go.WideShapes Go.ChangeAt Go.RowKit Go.Deep Go.Shelf val ter Go.Sort
attribute [local go_sem] Oper.semAt_some
theorem but_then {S T:Nat->Prop} {a b c:World} (h:But No a b) (k:But S b c) (hS:∀ i,i<a.heap.size->S i->T i):But T a c :=
 ⟨k.os.trans h.os,k.tape.trans h.tape,k.output.trans h.output,Nat.le_trans h.size k.size,λ i hi hs=>(k.block i (Nat.lt_of_lt_of_le hi h.size) (λ s=>hs (hS i hi s))).trans (h.block i hi (λ f=>f))⟩
def wkP (s:Sys) (wh:List Int) (x:Pt):dem.Wk:=⟨ownP s wh x,(s.ts.getD x.i ts0).p,x.p.de,x.p.ti⟩
def bd1 (s:Sys) (x:Pt) (g:Nat->Int):Nat->Int:=if x.p.ti=true then g else λ j=>if j=x.i then (s.ts.getD x.i ts0).d else g j
def bdE (s:Sys) (l:List Pt) (g:Nat->Int):Nat->Int:=l.foldl (λ g x=>bd1 s x g) g
theorem bdE_snoc (s:Sys) (l:List Pt) (x:Pt) (g:Nat->Int):bdE s (l ++ [x]) g=bd1 s x (bdE s l g):=by unfold bdE;rw[List.foldl_append];rfl
structure Oe (e tS:TypeId) (sz:Nat) (W0:World) (g:Nat) (bb n:Nat) (v:Value) (k:Nat) (cs:List Value) (f:Nat->Int) (W:World):Prop where
 but:But (λ z=>z=g\/z=bb) W0 W
 blk:Blk W g #[v] tS
 own:W.ownsRow 0 e sz v k cs
 new:∀ i,v.ownBlock=some i->W0.heap.size<=i
 bnd:Vals W bb 3 n (λ j=>.int .i64 (f j))
section
variable {e tS:TypeId} {sz g bb n k:Nat} {W0 W W':World} {v:Value} {cs:List Value} {f:Nat->Int}
theorem Oe.no (h:Oe e tS sz W0 g bb n v k cs f W) (hb:But No W W'):Oe e tS sz W0 g bb n v k cs f W':=⟨h.but.trans hb.no,h.blk.but hb (λ f=>f),owns_but h.own hb (λ _ _ f=>f),h.new,h.bnd.but hb (λ f=>f)⟩
theorem Oe.turn (h:Oe e tS sz W0 g bb n v k cs f W) {row:Option Nat} (hg:W.grownBy W' row) (hr:∀ r,row=some r->W0.heap.size<=r/\∃ o:Obj,W.heap[r]? = some o/\o.isCells=false):Oe e tS sz W0 g bb n v k cs f W':=by
 refine⟨h.but.grown hg (λ k e=>.inr (hr k e).1),rsp.blk_turn h.blk hg (λ k e=>(hr k e).2),?_,h.new,rsp.blk_turn h.bnd hg (λ k e=>(hr k e).2)⟩
 obtain⟨h1,h2⟩:=h.own
 refine⟨h1,?_⟩
 rcases h2 with h2 | ⟨g,cap,cur,hv,hg0,hh,hc⟩
 ·exact .inl h2
 ·exact .inr ⟨g,cap,cur,hv,hg0,rsp.blk_turn (show Blk W g cur e from hh) hg (λ k e=>(hr k e).2),hc⟩
theorem Oe.push (h:Oe e tS sz W0 g bb n v k cs f W) (hg0:g<W0.heap.size) (hbb:bb<W0.heap.size) (hne:bb≠g) {W1 w5:World} {v5:Value} {n5:Nat} {cs5:List Value} (h1:But No W W1) (ho:w5.ownsRow 0 e sz v5 n5 cs5) (hg:W1.grownBy w5 v.ownBlock) (hat:v5.ownBlock=v.ownBlock\/v5.ownBlock=some W1.heap.size) :
  Oe e tS sz W0 g bb n v5 n5 cs5 f (w5.setCell ⟨g,0,none⟩ v5)/\KeepsOthers W (w5.setCell ⟨g,0,none⟩ v5)/\But (λ z=>z=g\/W0.heap.size<=z) W (w5.setCell ⟨g,0,none⟩ v5)/\Blk w5 g #[v] tS:=by
 have h2:=h.no h1
 have hs:=h2.but.size
 have hnew:∀ k,v5.ownBlock=some k->W0.heap.size<=k:=λ k e=>by
  rcases hat with f | f
  ·exact h.new k (by rw[<-f];exact e)
  ·rw[f] at e;cases e;exact hs
 have hn0:v.ownBlock≠some g:=λ f=>by have:=h.new g f;omega
 have hn1:v.ownBlock≠some bb:=λ f=>by have:=h.new bb f;omega
 have hgr:But (λ k=>v.ownBlock=some k) W1 w5:=(But.refl (λ k=>v.ownBlock=some k) W1).grown hg (λ k e=>.inl e)
 have hb:Blk w5 g #[v] tS:=h2.blk.but hgr hn0
 have hsc:But (Just g) w5 (w5.setCell ⟨g,0,none⟩ v5):=(But.refl (Just g) w5).setCell (p:=⟨g,0,none⟩) rfl _
 refine⟨⟨(h2.but.grown hg (λ k e=>.inr (h.new k e))).setCell (p:=⟨g,0,none⟩) (.inl rfl) _,hb.set 0 v5,?_,hnew,(h2.bnd.but hgr hn1).but hsc hne⟩,((rsp.keeps_but h1).trans (KeepsOthers.of_grownBy hg (λ k o e f=>row_is h2.own k o e f))).trans (KeepsOthers.setCell _ _ _),?_,hb⟩
 ·exact owns_but ho hsc (λ k e f=>by have:=hnew k e;rw[show k=g from f] at this;omega)
 ·exact(((But.refl (λ z=>z=g\/W0.heap.size<=z) W).trans h1.no).grown hg (λ k e=>.inl (.inr (h.new k e)))).setCell (p:=⟨g,0,none⟩) (.inl rfl) _
theorem Oe.set (h:Oe e tS sz W0 g bb n v k cs f W) (hbb:bb<W0.heap.size) (hne:bb≠g) {j:Nat} {f':Nat->Int} (u:Int) (he:∀ i,i<n->f' i=if i=j then u else f i):Oe e tS sz W0 g bb n v k cs f' (W.setCell ⟨bb,j,none⟩ (.int .i64 u)):=by
 have hsc:But (Just bb) W (W.setCell ⟨bb,j,none⟩ (.int .i64 u)):=(But.refl (Just bb) W).setCell (p:=⟨bb,j,none⟩) rfl _
 exact⟨h.but.setCell (p:=⟨bb,j,none⟩) (.inr rfl) _,h.blk.but hsc (λ e=>hne e.symm),owns_but h.own hsc (λ k e f=>by have:=h.new k e;rw[show k=bb from f] at this;omega),h.new,(h.bnd.set _).congr (λ i hi=>by rw[he i hi];split <;> rfl)⟩
end
theorem infoWp : (Tryz.prog.info? 161).map (λ i=>(i.zero,i.size,i.bytes))=some (some (.agg #[.int .i64 0,.int .i64 0,.int .i64 0,.bool false]),4,32):=by kernel_rfl
def EdS (W0:World) (g bb n:Nat) (L:List dem.Wk) (f:Nat->Int) (W:World):Prop:=∃ v,Oe 161 159 4 W0 g bb n v L.length (L.flatMap dem.wkC) f W
theorem ceS_in {P:Int} {ss:List (Int × Int × Int)} {f:Nat->Int} (hP:inR P) (hf:∀ r,inR (f r)):∀ k r,inR (ceS P ss f k r)
 | 0,r=>hf r
 | k+1,r=>by
  rw[ceS]
  split
  ·unfold tp
   split
   ·exact hP
   ·exact ceS_in hP hf k r
  ·exact ceS_in hP hf k r
theorem ceF_in {s:Sys} {l:List Pt} (h:∀ x ∈ l,inR x.p.pr) (r:Nat):inR (ceF s l r):=by
 have go:∀ (l:List Pt) (f:Nat->Int),(∀ x ∈ l,inR x.p.pr)->(∀ r,inR (f r))->∀ r,inR (l.foldl (λ f x=>ceX s x f) f r):=by
  intro l
  induction l with
  | nil=>intro f _ hf r;exact hf r
  | cons x l ih =>
   intro f hl hf r
   rw[List.foldl_cons]
   refine ih _ (λ y hy=>hl y (List.mem_cons_of_mem _ hy)) (λ r=>?_) r
   unfold ceX
   refine ceS_in ?_ hf _ r
   have:=hl x (List.mem_cons_self ..)
   unfold inR at *
   omega
 exact go l _ h (λ _=>by unfold inR;omega) r
theorem hoX_mem {s:Sys} {wh:List Int} {z:Nat->Int} {x:Pt} {h:Int × Int × Int}:∀ {k},h ∈ hoX s wh z x k->∃ j r:Nat,h=(holdV s wh (x.i:Int) (j:Int),x.p.pr,z r)
 | 0,hm=>by cases hm
 | k+1,hm=>by
  rw[hoX,List.mem_append] at hm
  rcases hm with hm | hm
  ·exact hoX_mem hm
  ·simp at hm;exact⟨k,_,hm⟩
theorem hoF_mem {s:Sys} {wh:List Int} {z:Nat->Int} {l:List Pt} {h:Int × Int × Int} (hm:h ∈ hoF s wh z l):∃ x ∈ l,∃ j r:Nat,h=(holdV s wh (x.i:Int) (j:Int),x.p.pr,z r):=by
 unfold hoF at hm
 obtain⟨x,hx,hm⟩:=List.mem_flatMap.1 hm
 obtain⟨j,r,e⟩:=hoX_mem hm
 exact⟨x,hx,j,r,e⟩
theorem hoF_ok {s:Sys} (hs:right s=true) {wh:List Int} {z:Nat->Int} {l:List Pt} (hp:∀ x ∈ l,inR x.p.pr) (hz:∀ r,inR (z r)):∀ h ∈ hoF s wh z l,(0<=h.1/\h.1<=9895604650000)/\inR h.2.1/\inR h.2.2:=λ h hm=>by
 obtain⟨x,hx,j,r,rfl⟩:=hoF_mem hm
 exact⟨hold_bd hs wh _ _,hp x hx,hz r⟩
theorem rsec_of {w:World} {v:Value} {l:List (Int × Int × Int)} (h:w.ownsRow 0 191 3 v l.length (l.flatMap hoC)) (hm:l.length<=9223372036854775807) (hf:∀ x ∈ l,inR x.1/\inR x.2.1/\inR x.2.2):∃ A c,v=.slice A l.length c/\l.length<=c/\RSec w A l.length l:=by
 obtain⟨h1,h2⟩:=h
 rcases h2 with⟨h2,e⟩ | ⟨g,cap,cur,hv,_,hh,hc,hcap,hs,ht⟩
 ·exact⟨none,0,by rw[e];exact h2,by omega,rfl,hm,λ h=>absurd h (by omega),hf⟩
 ·refine⟨_,_,hv,hc,rfl,hm,λ hn=>⟨g,0,rfl,Blk.lt hh,λ k x hx=>?_⟩,hf⟩
  have hk:k<l.length:=(List.getElem?_eq_some_iff.1 hx).1
  have rdc:∀ j u,j<3->(hoC x)[j]? = some u->w.cell? ⟨g,0+k*3+j,none⟩=some u:=λ j u hj hu=>by
   rw[Nat.zero_add]
   refine Blk.cell hh ?_
   have:=flat_at (f:=hoC) (sz:=3) (λ _=>rfl) hx hj
   rw[<-ht,List.getElem?_take,if_pos (by omega),hu] at this
   simpa using this
  exact⟨rdc 0 _ (by omega) rfl,rdc 1 _ (by omega) rfl,rdc 2 _ (by omega) rfl⟩
def EdT (s:Sys) (wh:List Int) (g0:Nat->Int) (W0:World) (g bb n:Nat) (l:List Pt) (W:World):Prop:=EdS W0 g bb n (l.map (wkP s wh)) (bdE s l g0) W
theorem edf_any {w0 w:World} {s:Sys} {A:Option Addr} {n c m b K:Nat} {F:Int->Int->Option Pt} {f:Nat->Int} (h:LY w0 w s A n c m b K F f) (hF:Fok n F) (hs:right s=true) (hn:n<=24) (co:Int) (hco:inR co) {rs:Nat} (hrs:s.rs=(rs:Int)) (hr8:rs<=8)
  (hbu:∀ x ∈ onN F co n,0<=x.p.bu/\x.p.bu<=1099511627776) {bb:Nat} {g:Nat->Int} (hbb:Vals w bb 3 n (λ j=>.int .i64 (g j))) (hbm:bb≠m) (hbw:bb≠b) (hb0:w0.heap.size<=bb) :
  Calls Tryz.prog 70 #[lyV s A n c m b,.int .i64 co,.slice (some ⟨bb,0,none⟩) n n] w λ e w'=>e=.returned (.int .i64 (dem.testV ((onN F co n).map (wkP s ((List.range n).map f))) (blH s 0 (hoF s ((List.range n).map f) (ceF s (onN F co n)) (onN F co n))) s.re))/\But (Just bb) w w'/\Vals w' bb 3 n (λ j=>.int .i64 (bdE s (onN F co n) g j)):=by
 have CO:Hid (∀ W,Calls Tryz.prog 95 #[lyV s A n c m b,.int .i64 co] W λ e w'=>e=.returned (.func (.func 122) #[] #[.pointer (some ⟨W.heap.size,0,none⟩),.pointer (some ⟨W.heap.size+1,0,none⟩)])/\w'=(W.alloc (.cells (lyA s A n c m b) 80)).alloc (.cells #[.int .i64 co] 3)):=hid (λ W=>on_any s A n c m b co W)
 have HYX:Hid (∀ W,But (λ z=>z=bb\/w.heap.size<=z) w W->LY w0 W s A n c m b K F f):=hid (λ W hb=>h.turn hb (λ k hk e=>by rcases e with e | e;exact⟨by omega,by omega,by omega⟩;omega))
 have CW:Hid (∀ x ∈ onN F co n,∀ W,But (λ z=>z=bb\/w.heap.size<=z) w W->Calls Tryz.prog 100 #[lyV s A n c m b,ptV x] W λ e w'=>e=.returned (.int .i64 (ownP s ((List.range n).map f) x))/\But No W w'):=hid (λ x hx W hb=>lown_any (HYX.out W hb) hs hn x (hbu x hx))
 have HPR:Hid (∀ x ∈ onN F co n,inR x.p.pr/\inR x.p.de):=hid (λ x hx=>by obtain⟨i,_,e⟩:=onN_mem hx;exact⟨(hF.fit _ _ _ e).2.2.2,(hF.fit _ _ _ e).2.2.1⟩)
 have CHO:Hid (∀ W,But (λ z=>z=bb\/w.heap.size<=z) w W->Calls Tryz.prog 103 #[lyV s A n c m b,.int .i64 co] W λ e w'=>∃ A4 c4,e=.returned (.slice A4 (hoF s ((List.range n).map f) (ceF s (onN F co n)) (onN F co n)).length c4)/\But No W w'/\(hoF s ((List.range n).map f) (ceF s (onN F co n)) (onN F co n)).length<=c4/\RSec w' A4 (hoF s ((List.range n).map f) (ceF s (onN F co n)) (onN F co n)).length (hoF s ((List.range n).map f) (ceF s (onN F co n)) (onN F co n))):=hid (λ W hb=>(holds_any (HYX.out W hb) hF hs hn co hco hrs hr8).mono (λ e w' h9=>by
  obtain⟨v,he,hg⟩:=h9
  have hl:=hoF_len (s:=s) (wh:=(List.range n).map f) (z:=ceF s (onN F co n)) (ter.right_len hs).2.2.2.2 (onN F co n)
  have hl2:=onN_len (F:=F) (co:=co) n
  obtain⟨A4,c4,hv,hc,hr⟩:=rsec_of hg.own (by omega) (λ x hx=>by
   have h1:=hoF_ok hs (λ x hx=>(HPR.out x hx).1) (λ r=>ceF_in (λ x hx=>(HPR.out x hx).1) r) x hx
   exact⟨by unfold inR;omega,h1.2.1,h1.2.2⟩)
  exact⟨A4,c4,by rw[he,hv],hg.but,hc,hr⟩))
 have CBK:Hid (∀ W,But (λ z=>z=bb\/w.heap.size<=z) w W->∀ AH ch,(hoF s ((List.range n).map f) (ceF s (onN F co n)) (onN F co n)).length<=ch->RSec W AH (hoF s ((List.range n).map f) (ceF s (onN F co n)) (onN F co n)).length (hoF s ((List.range n).map f) (ceF s (onN F co n)) (onN F co n))->Calls Tryz.prog 102 #[lyV s A n c m b,.int .i64 0,.slice AH (hoF s ((List.range n).map f) (ceF s (onN F co n)) (onN F co n)).length ch] W λ e w'=>e=.returned (.int .i64 (blH s 0 (hoF s ((List.range n).map f) (ceF s (onN F co n)) (onN F co n))))/\But No W w'):=hid (λ W hb AH ch hc hr=>block_any (HYX.out W hb) hs 0 (by unfold inR;omega) hr hc (by
  have hl:=hoF_len (s:=s) (wh:=(List.range n).map f) (z:=ceF s (onN F co n)) (ter.right_len hs).2.2.2.2 (onN F co n)
  have hl2:=onN_len (F:=F) (co:=co) n
  omega) (λ x hx=>by
   have h1:=hoF_ok hs (λ x hx=>(HPR.out x hx).1) (λ r=>ceF_in (λ x hx=>(HPR.out x hx).1) r) x hx
   omega))
 have HWF:Hid (∀ x ∈ (onN F co n).map (wkP s ((List.range n).map f)),inR x.w/\inR x.p/\inR x.d):=hid (λ y hy=>by
  obtain⟨x,hx,rfl⟩:=List.mem_map.1 hy
  have h1:=extra_bd hs ((List.range n).map f) (x.i:Int)
  obtain⟨⟨r0,r1⟩,⟨s0,s1⟩,f0,f1⟩:=right_costs hs
  have h2:=hbu x hx
  obtain⟨i,_,e⟩:=onN_mem hx
  have hlt:x.i<s.ts.length:=by rw[h.len];exact(hF.at_ _ _ _ e).2.2
  have ht:s.ts[x.i]? = some s.ts[x.i]:=List.getElem?_eq_getElem hlt
  have h3:=h.cur.ts.fit _ (List.getElem_mem hlt)
  unfold wkP
  rw[getT ht]
  refine⟨?_,h3.1,(HPR.out x hx).2⟩
  unfold ownP
  split <;> (unfold inR;dsimp only;omega))
 have HREF:=h.sys.fit.2.2.2.1
 have HTK:Hid (∀ x ∈ onN F co n,x.i<n/\∃ t:Tsk,s.ts[x.i]? = some t):=hid (λ x hx=>by
  obtain⟨i,_,e⟩:=onN_mem hx
  have h1:=(hF.at_ _ _ _ e).2.2
  exact⟨h1,_,List.getElem?_eq_getElem (by rw[h.len];exact h1)⟩)
 have HMP:=hid h.map
 have hml:=h.map.lt
 have hbl:bb<w.heap.size:=hbb.lt
 have HSX:=hid h.cur.ts
 have HOL:=hid (onN_len (F:=F) (co:=co) n)
 obtain⟨iw,hi0,hz0,hz1,hz2⟩:=info_parts infoWp
 have IW:Hid (Tryz.prog.info? 161=some iw/\iw.zero=some (.agg #[.int .i64 0,.int .i64 0,.int .i64 0,.bool false])/\iw.size=4/\iw.bytes=32):=⟨hi0,hz0,hz1,hz2⟩
 have HRS:=hid hrs
 clear h hi0 hz0 hz1 hz2 hrs
 obtain⟨wh,hwh⟩:∃ wh,(List.range n).map f=wh:=⟨_,rfl⟩
 rw[hwh] at CW CHO CBK HWF ⊢
 have HBB9:Hid (∀ y,blH s 0 (hoF s wh (ceF s (onN F co n)) (onN F co n))=y->inR y):=hid (λ y e=>by
  rw[<-e]
  obtain⟨⟨r0,r1⟩,⟨s0,s1⟩,f0,f1⟩:=right_costs hs
  have h1:=blN_le (s:=s) (pr:=0) (l:=hoF s wh (ceF s (onN F co n)) (onN F co n)) (B:=9895604650000) (by omega) (λ x hx=>(hoF_ok hs (λ x hx=>(HPR.out x hx).1) (λ r=>ceF_in (λ x hx=>(HPR.out x hx).1) r) x hx).1) (hoF s wh (ceF s (onN F co n)) (onN F co n)).length
  unfold blH inR
  omega)
 obtain⟨HL,hHL⟩:∃ HL,hoF s wh (ceF s (onN F co n)) (onN F co n)=HL:=⟨_,rfl⟩
 rw[hHL] at CHO CBK HBB9 ⊢
 clear hHL
 clear hwh
 have HW:Hid (∀ W1 W2 W3 W4 W5:World,W1=w.alloc (.cells (lyA s A n c m b) 80)->W2=W1.alloc (.cells #[.slice (some ⟨bb,0,none⟩) n n] 26)->W3=W2.alloc (.cells #[.slice none 0 0] 159)->W4=W3.alloc (.cells (lyA s A n c m b) 80)->W5=W4.alloc (.cells #[.int .i64 co] 3)->But No w W5/\W5.heap.size=w.heap.size+5/\Blk W5 w.heap.size (lyA s A n c m b) 80/\Blk W5 (w.heap.size+1) #[.slice (some ⟨bb,0,none⟩) n n] 26/\Blk W5 (w.heap.size+1+1) #[.slice none 0 0] 159/\Blk W5 (w.heap.size+1+1+1) (lyA s A n c m b) 80/\Blk W5 (w.heap.size+1+1+1+1) #[.int .i64 co] 3):=hid (λ W1 W2 W3 W4 W5 e1 e2 e3 e4 e5=>by
  have s1:W1.heap.size=w.heap.size+1:=by rw[e1,size_alloc1]
  have s2:W2.heap.size=w.heap.size+1+1:=by rw[e2,size_alloc1,s1]
  have s3:W3.heap.size=w.heap.size+1+1+1:=by rw[e3,size_alloc1,s2]
  have s4:W4.heap.size=w.heap.size+1+1+1+1:=by rw[e4,size_alloc1,s3]
  have b1:But No w W1:=by rw[e1];exact(But.refl No w).alloc _
  have b2:But No W1 W2:=by rw[e2];exact(But.refl No W1).alloc _
  have b3:But No W2 W3:=by rw[e3];exact(But.refl No W2).alloc _
  have b4:But No W3 W4:=by rw[e4];exact(But.refl No W3).alloc _
  have b5:But No W4 W5:=by rw[e5];exact(But.refl No W4).alloc _
  have k1:Blk W1 w.heap.size (lyA s A n c m b) 80:=by rw[e1];exact Blk.new w _ _
  have k2:Blk W2 (w.heap.size+1) #[.slice (some ⟨bb,0,none⟩) n n] 26:=by have:=Blk.new W1 #[.slice (some ⟨bb,0,none⟩) n n] 26;rw[<-e2,s1] at this;exact this
  have k3:Blk W3 (w.heap.size+1+1) #[.slice none 0 0] 159:=by have:=Blk.new W2 #[.slice none 0 0] 159;rw[<-e3,s2] at this;exact this
  have k4:Blk W4 (w.heap.size+1+1+1) (lyA s A n c m b) 80:=by have:=Blk.new W3 (lyA s A n c m b) 80;rw[<-e4,s3] at this;exact this
  have k5:Blk W5 (w.heap.size+1+1+1+1) #[.int .i64 co] 3:=by have:=Blk.new W4 #[.int .i64 co] 3;rw[<-e5,s4] at this;exact this
  exact⟨(((b1.trans b2).trans b3).trans b4).trans b5,by rw[e5,size_alloc1,s4],(((k1.but b2 (λ f=>f)).but b3 (λ f=>f)).but b4 (λ f=>f)).but b5 (λ f=>f),((k2.but b3 (λ f=>f)).but b4 (λ f=>f)).but b5 (λ f=>f),(k3.but b4 (λ f=>f)).but b5 (λ f=>f),k4.but b5 (λ f=>f),k5⟩)
 dsimp only[lyV,lyA] at CO CW CHO CBK HW ⊢
 refine(callsIn_wide (n:=8)).1 ?_
 refine callsIn_of_wp_marks Tryz.func70 rfl trivial ?_ rfl
 simp only[Tryz.ntmps70,List.size_toArray,List.length_cons,List.length_nil,Nat.reduceAdd,Nat.reduceSub,Array.replicate_succ,Array.replicate_zero,List.push_toArray,List.append_toArray,List.nil_append,List.cons_append]
 refine wpIn_wide.2 ?_
 go_wp2_with (go_at_call 95;refine(CO.out _).mono ?_;rintro e w4 ⟨rfl,rfl⟩)
 refine(wpIn_wide (n:=8)).1 ?_
 obtain⟨hB0,hs0,hk1,hk2,hk3,hk4,hk5⟩:=HW.out _ _ _ _ _ rfl rfl rfl rfl rfl
 generalize ((((w.alloc (.cells #[.int .i64 s.co,.int .i64 s.po,.int .i64 s.pr,.int .i64 s.re,.int .i64 s.sw,.int .i64 s.fi,.int .i64 s.la,.int .i64 s.rs,.slice A n c,.map (some m),.slice (some ⟨b,0,none⟩) n n] 80)).alloc (.cells #[.slice (some ⟨bb,0,none⟩) n n] 26)).alloc (.cells #[.slice none 0 0] 159)).alloc (.cells #[.int .i64 s.co,.int .i64 s.po,.int .i64 s.pr,.int .i64 s.re,.int .i64 s.sw,.int .i64 s.fi,.int .i64 s.la,.int .i64 s.rs,.slice A n c,.map (some m),.slice (some ⟨b,0,none⟩) n n] 80)).alloc (.cells #[.int .i64 co] 3)=W0 at hB0 hs0 hk1 hk2 hk3 hk4 hk5 ⊢
 have HBW0:=hid hB0
 have BL0:=hid hk1
 have BB0:=hid hk2
 have HLB:=hid hk4
 have HCB:=hid hk5
 have HM0:Hid (MP W0 m K F):=hid (HMP.out.no HBW0.out)
 have HOE:Hid (EdT s wh g W0 (w.heap.size+1+1) bb n [] W0):=hid ⟨_,But.refl _ W0,hk3,World.ownsRow_nil _ _ _ _,own_none,hbb.but hB0 (λ f=>f)⟩
 clear HW hB0 hk1 hk2 hk3 hk4 hk5
 refine wpIn_rangeFunc_ownH rfl (by omega) (gf:=122) (lb:=#[.pointer (some ⟨w.heap.size+1+1+1,0,none⟩),.pointer (some ⟨w.heap.size+1+1+1+1,0,none⟩)]) rfl trivial (enters_of Tryz.func122 (by kernel_rfl) rfl)
  (on_stops (8-1) (by omega) (w.heap.size+1+1+1) (w.heap.size+1+1+1+1) s A n c m b F co K (λ z=>z=bb\/(w.heap.size<=z/\z≠w.heap.size+1+1+1/\z≠w.heap.size+1+1+1+1)) (by omega) (by omega) (by omega) hco hn W0 HLB.out HCB.out HM0.out) But.trans (λ X l o o' hl ho hc _=>(But.refl _ X).grown (grownBy_putObj' _ l o') (λ z e=>by cases e;exact .inl (.inr ⟨by omega,by omega,by omega⟩))) (Below.refl _ _) (λ _=>rfl)
  (λ pre W=>EdT s wh g W0 (w.heap.size+1+1) bb n (vl pre) W)
  (λ _ _ _=>False)
  (λ st X Y row hs hg hr=>by obtain⟨v,h1⟩:=hs;exact⟨v,h1.turn hg hr⟩)
  (λ _ _ _ _ _ hs _ _=>hs)
  HOE.out
  (λ x a' W=>∃ Bx,W0.heap.size<=Bx/\Blk W Bx (ptA x.1) 105/\a' = { tmps:=#[.agg #[.int .i64 s.co,.int .i64 s.po,.int .i64 s.pr,.int .i64 s.re,.int .i64 s.sw,.int .i64 s.fi,.int .i64 s.la,.int .i64 s.rs,.slice A n c,.map (some m),.slice (some ⟨b,0,none⟩) n n],.int .i64 co,.slice (some ⟨bb,0,none⟩) n n,.pointer (some ⟨w.heap.size,0,none⟩),undef,.pointer (some ⟨w.heap.size+1,0,none⟩),.int .i64 0,.pointer (some ⟨w.heap.size+1+1,0,none⟩),.pointer (some ⟨Bx,0,none⟩),undef,.agg #[.int .i64 s.co,.int .i64 s.po,.int .i64 s.pr,.int .i64 s.re,.int .i64 s.sw,.int .i64 s.fi,.int .i64 s.la,.int .i64 s.rs,.slice A n c,.map (some m),.slice (some ⟨b,0,none⟩) n n],.int .i64 co,.func (.func 122) #[] #[.pointer (some ⟨w.heap.size+1+1+1,0,none⟩),.pointer (some ⟨w.heap.size+1+1+1+1,0,none⟩)],ptV x.1,undef,undef,undef,undef,undef,undef,undef,undef,undef,undef,undef,undef,undef,undef,undef,undef,undef,undef,undef,undef,undef,undef,undef,undef,undef,undef,undef,undef,undef,undef,undef,undef,undef,undef,undef,undef,undef,undef,undef,undef,undef,undef],defers:=[] })
  (λ x a' st X Y row hs hg hr=>by obtain⟨Bx,h1,h2,h3⟩:=hs;exact⟨Bx,h1,rsp.blk_turn h2 hg (λ k e=>(hr k e).2),h3⟩)
  ?assign ?body ?done ?stop
 case assign =>
  rintro lp pre x W K ⟨v,h1⟩ hK
  have hz:=h1.but.size
  dsimp only[ptV,ptA]
  gi_wp2
  exact hK _ _ ((KeepsOthers.alloc _ _).from _) ((But.refl _ W).alloc _) ⟨v,h1.no ((But.refl _ W).alloc _)⟩ ⟨W.heap.size,hz,Blk.new W _ _,rfl⟩
 case body =>
  rintro lp pre x a' W hl ⟨r,hr⟩ ⟨v,h1⟩ ⟨Bx,hBx,hbx,rfl⟩ hlt
  obtain⟨hxn,t,ht⟩:=HTK.out x.1 x.2
  have hcw:=CW.out x.1 x.2
  have hL9:((vl pre).map (wkP s wh)).length<=24:=by have h4:=vl_len pre;have:=HOL.out;simp;omega
  have hwk:wkP s wh x.1=⟨ownP s wh x.1,t.p,x.1.p.de,x.1.p.ti⟩:=by unfold wkP;rw[getT ht]
  have hbd:∀ f',bd1 s x.1 f'=if x.1.p.ti=true then f' else λ j=>if j=x.1.i then t.d else f' j:=λ f'=>by unfold bd1;rw[getT ht]
  obtain⟨LL,hLL⟩:∃ LL,(vl pre).map (wkP s wh)=LL:=⟨_,rfl⟩
  obtain⟨fx,hfx⟩:∃ fx,bdE s (vl pre) g=fx:=⟨_,rfl⟩
  have HST:Hid (∀ W' v5 f',Oe 161 159 4 W0 (w.heap.size+1+1) bb n v5 (LL.length+1) (LL.flatMap dem.wkC ++ dem.wkC ⟨ownP s wh x.1,t.p,x.1.p.de,x.1.p.ti⟩) f' W'->f'=(if x.1.p.ti=true then fx else λ j=>if j=x.1.i then t.d else fx j)->EdT s wh g W0 (w.heap.size+1+1) bb n (vl (pre ++ [x])) W'):=hid (λ W' v5 f' ho e=>by
   unfold EdT
   rw[vl_snoc,bdE_snoc,List.map_append,hLL,hfx,hbd,<-e]
   refine⟨v5,?_⟩
   rw[List.length_append,List.flatMap_append]
   simpa [hwk] using ho)
  rw[hLL] at h1 hL9
  rw[hfx] at h1
  have HWW:Hid (But (λ z=>z=bb\/w.heap.size<=z) w W):=hid (HBW0.out.no.trans (h1.but.mono (λ z _ e=>by rcases e with e | e <;> omega)))
  have hzW:=h1.but.size
  obtain⟨bt,offt,AS,cS,hAn,ct0,ct1,ct2,ct3,_⟩:=((HYX.out W HWW.out).cur.ts).at1 ht
  have CWX:Hid (∀ X,But (λ z=>z=bb\/w.heap.size<=z) w X->Calls Tryz.prog 100 #[.agg #[.int .i64 s.co,.int .i64 s.po,.int .i64 s.pr,.int .i64 s.re,.int .i64 s.sw,.int .i64 s.fi,.int .i64 s.la,.int .i64 s.rs,.slice A n c,.map (some m),.slice (some ⟨b,0,none⟩) n n],ptV x.1] X λ e w'=>e=.returned (.int .i64 (ownP s wh x.1))/\But No X w'):=hid hcw
  have H1:=hid h1
  have hYB:=BL0.out.but h1.but (λ e=>by rcases e with e | e <;> omega)
  have hBB:=BB0.out.but h1.but (λ e=>by rcases e with e | e <;> omega)
  have hit:((x.1.i:Nat):Int)<(n:Int):=by omega
  have hit0:(0:Int)<=((x.1.i:Nat):Int):=Int.natCast_nonneg _
  have HBXX:=hid hbx
  have hBxW:=hbx.lt
  subst hAn
  obtain⟨SL,hSL⟩:∃ SL,t.secs.length=SL:=⟨_,rfl⟩
  rw[hSL] at ct3
  obtain⟨tp,htp⟩:∃ tp,t.p=tp:=⟨_,rfl⟩
  obtain⟨td,htd⟩:∃ td,t.d=td:=⟨_,rfl⟩
  obtain⟨tw,htw⟩:∃ tw,t.w=tw:=⟨_,rfl⟩
  obtain⟨O,hO⟩:∃ O,ownP s wh x.1=O:=⟨_,rfl⟩
  rw[htp] at ct0 HST
  rw[htd] at ct1 HST
  rw[htw] at ct2
  rw[hO] at CWX HST
  clear h1 ht hlt hl hr hLL hfx hcw hwk hbd hSL htp htd htw hO
  obtain⟨⟨l0,l1,l2,l3,l4,l5,l6,l7,l8⟩,l9,l10⟩:=ly_cells hYB
  obtain⟨⟨⟨x0,x1,x2,x3,x4⟩,xi,xk,xl,xd,xj⟩,hx⟩:=x
  dsimp only at HST hit hit0 hxn ct0 ct1 ct2 ct3
  dsimp only[ptA] at hbx HBXX
  dsimp only[ptV] at CWX
  have d5:=hbx.cell (o:=5) rfl
  dsimp only[ptV]
  have HNB:Hid (But No W (W.alloc (.cells #[.int .i64 tp,.int .i64 td,.int .i64 tw,.slice AS SL cS] 47))/\Blk (W.alloc (.cells #[.int .i64 tp,.int .i64 td,.int .i64 tw,.slice AS SL cS] 47)) W.heap.size #[.int .i64 tp,.int .i64 td,.int .i64 tw,.slice AS SL cS] 47):=hid ⟨(But.refl No W).alloc _,Blk.new W _ _⟩
  gi_upto_region 5 with fail
  obtain⟨hb9,hp9⟩:=HNB.out
  generalize W.alloc (.cells #[.int .i64 tp,.int .i64 td,.int .i64 tw,.slice AS SL cS] 47)=wx at hb9 hp9 ⊢
  have hg0:w.heap.size+1+1<W0.heap.size:=by omega
  have HWX:Hid (But (λ z=>z=bb\/w.heap.size<=z) w wx):=hid (HWW.out.trans hb9.no)
  have hogx:=H1.out.no hb9
  have hv1:∀ k,v.ownBlock=some k->k<W.heap.size:=λ k e=>(World.ownsRow.lt H1.out.own k e).2
  have hv3:v.ownBlock≠some Bx:=row_ne_blk H1.out.own HBXX.out (by decide)
  have hky:=hYB.but hb9 (λ f=>f)
  have hkb:=hBB.but hb9 (λ f=>f)
  have hkp:=HBXX.out.but hb9 (λ f=>f)
  have NN:Hid (¬(w.heap.size=w.heap.size+1+1\/v.ownBlock=some w.heap.size)/\¬(Bx=w.heap.size+1+1\/v.ownBlock=some Bx)/\¬(W.heap.size=w.heap.size+1+1\/v.ownBlock=some W.heap.size)/\¬(w.heap.size+1=w.heap.size+1+1\/v.ownBlock=some (w.heap.size+1))):=hid (by
   have hv2:=H1.out.new
   refine⟨λ e=>?_,λ e=>?_,λ e=>?_,λ e=>?_⟩ <;> rcases e with e | e
   ·omega
   ·have:=hv2 _ e;omega
   ·omega
   ·exact hv3 e
   ·omega
   ·have:=hv1 _ e;omega
   ·omega
   ·have:=hv2 _ e;omega)
  have KEEP:Hid (∀ w',But (λ z=>z=w.heap.size+1+1\/v.ownBlock=some z) wx w'->(λ w'=>PR w.heap.size Bx m x0 x1 x2 x3 x4 xi xk xl xd xj w'/\L11 w' w.heap.size s (some ⟨bt,offt,none⟩) n c m b/\w'.cell? ⟨W.heap.size,0,none⟩=some (.int .i64 tp)) w'):=hid (λ w' hb=>by
   obtain⟨n1,n2,n3,n4⟩:=NN.out
   obtain⟨⟨k0,k1,k2,k3,k4,k5,k6,k7,k8⟩,k9,k10⟩:=ly_cells hky
   obtain⟨g0,g1,g2,g3,g4,g5,g6,g7,g8,g9⟩:=Blk.cl (x:=⟨⟨x0,x1,x2,x3,x4⟩,xi,xk,xl,xd,xj⟩) hkp
   exact⟨⟨cell_butS k9 hb n1,cell_butS g0 hb n2,cell_butS g1 hb n2,cell_butS g2 hb n2,cell_butS g3 hb n2,cell_butS g4 hb n2,cell_butS g5 hb n2,cell_butS g6 hb n2,cell_butS g7 hb n2,cell_butS g8 hb n2,cell_butS g9 hb n2⟩,⟨⟨cell_butS k0 hb n1,cell_butS k1 hb n1,cell_butS k2 hb n1,cell_butS k3 hb n1,cell_butS k4 hb n1,cell_butS k5 hb n1,cell_butS k6 hb n1,cell_butS k7 hb n1,cell_butS k8 hb n1⟩,cell_butS k9 hb n1,cell_butS k10 hb n1⟩,cell_butS (hp9.cell (o:=0) rfl) hb n3⟩)
  have D6:Hid (∀ w',But (λ z=>z=w.heap.size+1+1\/v.ownBlock=some z) wx w'->w'.cell? ⟨Bx,4,none⟩=some (.bool x4)/\w'.cell? ⟨Bx,5,none⟩=some (.int .i64 (xi:Int))/\w'.cell? ⟨w.heap.size+1,0,none⟩=some (.slice (some ⟨bb,0,none⟩) n n)/\w'.cell? ⟨W.heap.size,1,none⟩=some (.int .i64 td)):=hid (λ w' hb=>by
   obtain⟨n1,n2,n3,n4⟩:=NN.out
   exact⟨cell_butS (hkp.cell (o:=4) rfl) hb n2,cell_butS (hkp.cell (o:=5) rfl) hb n2,cell_butS (hkb.cell (o:=0) rfl) hb n4,cell_butS (hp9.cell (o:=1) rfl) hb n3⟩)
  have FLD:Hid (∀ w',But No wx w'->w'.cell? ⟨w.heap.size+1+1,0,none⟩=some v/\w'.frozen? ⟨w.heap.size+1+1,0,none⟩=false):=hid (λ w' hb=>⟨(hogx.no hb).blk.cell (o:=0) rfl,(hogx.no hb).blk.frozen 0⟩)
  have OWN:Hid (∀ w',But No wx w'->w'.ownsRow 0 161 4 v LL.length (LL.flatMap dem.wkC)):=hid (λ w' hb=>(hogx.no hb).own)
  have AFT:Hid (∀ w8 w5 A5 c5,But No wx w8->w5.ownsRow 0 161 4 (.slice A5 (LL.length+1) c5) (LL.length+1) (LL.flatMap dem.wkC ++ dem.wkC ⟨O,tp,x2,x4⟩)->w8.grownBy w5 v.ownBlock->((Value.slice A5 (LL.length+1) c5).ownBlock=v.ownBlock\/(Value.slice A5 (LL.length+1) c5).ownBlock=some w8.heap.size) ->
    (w5.cell? ⟨w.heap.size+1+1,0,none⟩=some v/\w5.frozen? ⟨w.heap.size+1+1,0,none⟩=false)/\But (λ z=>z=w.heap.size+1+1\/v.ownBlock=some z) wx w5/\But (λ z=>z=w.heap.size+1+1\/v.ownBlock=some z) wx (w5.setCell ⟨w.heap.size+1+1,0,none⟩ (.slice A5 (LL.length+1) c5)) /\
    (Oe 161 159 4 W0 (w.heap.size+1+1) bb n (.slice A5 (LL.length+1) c5) (LL.length+1) (LL.flatMap dem.wkC ++ dem.wkC ⟨O,tp,x2,x4⟩) fx (w5.setCell ⟨w.heap.size+1+1,0,none⟩ (.slice A5 (LL.length+1) c5))/\But (λ z=>z=w.heap.size+1+1\/W0.heap.size<=z) W (w5.setCell ⟨w.heap.size+1+1,0,none⟩ (.slice A5 (LL.length+1) c5))/\KeepsOthers W (w5.setCell ⟨w.heap.size+1+1,0,none⟩ (.slice A5 (LL.length+1) c5)))):=hid (λ w8 w5 A5 c5 hb8 hown hgrow hat=>by
   have hp:=hogx.push hg0 (by omega) (by omega) hb8 hown hgrow hat
   have h8:But (λ z=>z=w.heap.size+1+1\/v.ownBlock=some z) wx w8:=hb8.no
   have h5:But (λ z=>z=w.heap.size+1+1\/v.ownBlock=some z) wx w5:=h8.grown hgrow (λ k e=>.inl (.inr e))
   have h6:But (λ z=>z=w.heap.size+1+1\/v.ownBlock=some z) wx (w5.setCell ⟨w.heap.size+1+1,0,none⟩ (.slice A5 (LL.length+1) c5)):=h5.setCell (p:=⟨w.heap.size+1+1,0,none⟩) (.inl rfl) _
   exact⟨⟨hp.2.2.2.cell (o:=0) rfl,hp.2.2.2.frozen 0⟩,h5,h6,hp.1,(hb9.no).trans hp.2.2.1,(rsp.keeps_but hb9).trans hp.2.1⟩)
  have FINT:Hid (∀ w6 v5,(Oe 161 159 4 W0 (w.heap.size+1+1) bb n (v5) (LL.length+1) (LL.flatMap dem.wkC ++ dem.wkC ⟨O,tp,x2,x4⟩) fx w6/\But (λ z=>z=w.heap.size+1+1\/W0.heap.size<=z) W w6/\KeepsOthers W w6)->x4=true->KeepsFrom W0.heap.size W w6/\But (λ z=>z=bb\/(w.heap.size<=z/\z≠w.heap.size+1+1+1/\z≠w.heap.size+1+1+1+1)) W w6/\EdT s wh g W0 (w.heap.size+1+1) bb n (vl (pre ++ [⟨⟨⟨x0,x1,x2,x3,x4⟩,xi,xk,xl,xd,xj⟩,hx⟩])) w6):=hid (λ w6 v5 h6 e=>⟨h6.2.2.from _,h6.2.1.mono (λ z _ e=>by rcases e with e | e <;> omega),HST.out _ _ _ h6.1 (by rw[if_pos e])⟩)
  have FINF:Hid (∀ w6 v5,(Oe 161 159 4 W0 (w.heap.size+1+1) bb n (v5) (LL.length+1) (LL.flatMap dem.wkC ++ dem.wkC ⟨O,tp,x2,x4⟩) fx w6/\But (λ z=>z=w.heap.size+1+1\/W0.heap.size<=z) W w6/\KeepsOthers W w6)->x4=false->KeepsFrom W0.heap.size W (w6.setCell ⟨bb,xi,none⟩ (.int .i64 td))/\But (λ z=>z=bb\/(w.heap.size<=z/\z≠w.heap.size+1+1+1/\z≠w.heap.size+1+1+1+1)) W (w6.setCell ⟨bb,xi,none⟩ (.int .i64 td))/\EdT s wh g W0 (w.heap.size+1+1) bb n (vl (pre ++ [⟨⟨⟨x0,x1,x2,x3,x4⟩,xi,xk,xl,xd,xj⟩,hx⟩])) (w6.setCell ⟨bb,xi,none⟩ (.int .i64 td))):=hid (λ w6 v5 h6 e=>⟨(h6.2.2.trans (KeepsOthers.setCell _ _ _)).from _,(h6.2.1.mono (λ z _ e=>by rcases e with e | e <;> omega)).setCell (p:=⟨bb,xi,none⟩) (.inl rfl) _,HST.out _ _ _ (h6.1.set (j:=xi) (by omega) (by omega) td (λ i _=>rfl)) (by rw[if_neg (by rw[e];simp)])⟩)
  clear hogx hky hkb hkp hp9 hb9 hv1 hv3 HNB l0 l1 l2 l3 l4 l5 l6 l7 l8 l9 l10 hYB hBB ct0 ct1 ct2 ct3 d5 hbx
  refine region_round_held (S:=(λ w'=>PR w.heap.size Bx m x0 x1 x2 x3 x4 xi xk xl xd xj w'/\L11 w' w.heap.size s (some ⟨bt,offt,none⟩) n c m b/\w'.cell? ⟨W.heap.size,0,none⟩=some (.int .i64 tp))) (by kernel_rfl) (by kernel_rfl) (KEEP.out _ (But.refl _ wx).drew) (λ hHeld=>?_)
  refine wpAnyH_take (i:=1) (v:=?v1) rfl (by kernel_rfl) (by kernel_rfl) (by kernel_rfl) (λ _ _ _ h=>(by cases h.1)) (Or.inl ⟨by rfl,?hy1⟩) (by assumption) ?rest1
  case hy1=>(intro w hSw;(try dsimp only at hSw);go_simp <;> with_reducible rfl)
  try simp only[Act.put,List.setIfInBounds_toArray,List.set_cons_zero,List.set_cons_succ]
  refine wpAnyH_take (i:=2) (v:=?v2) rfl (by kernel_rfl) (by kernel_rfl) (by kernel_rfl) (λ _ _ _ h=>(by cases h.1)) (Or.inl ⟨by rfl,?hy2⟩) (by assumption) ?rest2
  case hy2=>(intro w hSw;(try dsimp only at hSw);go_simp <;> with_reducible rfl)
  try simp only[Act.put,List.setIfInBounds_toArray,List.set_cons_zero,List.set_cons_succ]
  refine wpAnyH_take (i:=4) (v:=?v3) rfl (by kernel_rfl) (by kernel_rfl) (by kernel_rfl) (λ _ _ _ h=>(by cases h.1)) (Or.inl ⟨by rfl,?hy3⟩) (by assumption) ?rest3
  case hy3=>(intro w hSw;(try dsimp only at hSw);go_simp <;> with_reducible rfl)
  try simp only[Act.put,List.setIfInBounds_toArray,List.set_cons_zero,List.set_cons_succ]
  refine wpAnyH_take (i:=5) (v:=?v4) rfl (by kernel_rfl) (by kernel_rfl) (by kernel_rfl) (λ _ _ _ h=>(by cases h.1)) (Or.inl ⟨by rfl,?hy4⟩) (by assumption) ?rest4
  case hy4=>(intro w hSw;(try dsimp only at hSw);go_simp <;> with_reducible rfl)
  try simp only[Act.put,List.setIfInBounds_toArray,List.set_cons_zero,List.set_cons_succ]
  refine wpAnyH_take (i:=6) (v:=?v5) rfl (by kernel_rfl) (by kernel_rfl) (by kernel_rfl) (λ _ _ _ h=>(by cases h.1)) (Or.inl ⟨by rfl,?hy5⟩) (by assumption) ?rest5
  case hy5=>(intro w hSw;(try dsimp only at hSw);go_simp <;> with_reducible rfl)
  try simp only[Act.put,List.setIfInBounds_toArray,List.set_cons_zero,List.set_cons_succ]
  refine wpAnyH_take (i:=7) (v:=?v6) rfl (by kernel_rfl) (by kernel_rfl) (by kernel_rfl) (λ _ _ _ h=>(by cases h.1)) (Or.inl ⟨by rfl,?hy6⟩) (by assumption) ?rest6
  case hy6=>(intro w hSw;(try dsimp only at hSw);go_simp <;> with_reducible rfl)
  try simp only[Act.put,List.setIfInBounds_toArray,List.set_cons_zero,List.set_cons_succ]
  refine wpAnyH_take (i:=8) (v:=?v7) rfl (by kernel_rfl) (by kernel_rfl) (by kernel_rfl) (λ _ _ _ h=>(by cases h.1)) (Or.inl ⟨by rfl,?hy7⟩) (by assumption) ?rest7
  case hy7=>(intro w hSw;(try dsimp only at hSw);go_simp <;> with_reducible rfl)
  try simp only[Act.put,List.setIfInBounds_toArray,List.set_cons_zero,List.set_cons_succ]
  refine wpAnyH_take (i:=9) (v:=?v8) rfl (by kernel_rfl) (by kernel_rfl) (by kernel_rfl) (λ _ _ _ h=>(by cases h.1)) (Or.inl ⟨by rfl,?hy8⟩) (by assumption) ?rest8
  case hy8=>(intro w hSw;(try dsimp only at hSw);go_simp <;> with_reducible rfl)
  try simp only[Act.put,List.setIfInBounds_toArray,List.set_cons_zero,List.set_cons_succ]
  refine wpAnyH_take (i:=10) (v:=?v9) rfl (by kernel_rfl) (by kernel_rfl) (by kernel_rfl) (λ _ _ _ h=>(by cases h.1)) (Or.inl ⟨by rfl,?hy9⟩) (by assumption) ?rest9
  case hy9=>(intro w hSw;(try dsimp only at hSw);go_simp <;> with_reducible rfl)
  try simp only[Act.put,List.setIfInBounds_toArray,List.set_cons_zero,List.set_cons_succ]
  refine wpAnyH_take (i:=11) (v:=?v10) rfl (by kernel_rfl) (by kernel_rfl) (by kernel_rfl) (λ _ _ _ h=>(by cases h.1)) (Or.inl ⟨by rfl,?hy10⟩) (by assumption) ?rest10
  case hy10=>(intro w hSw;(try dsimp only at hSw);go_simp <;> with_reducible rfl)
  try simp only[Act.put,List.setIfInBounds_toArray,List.set_cons_zero,List.set_cons_succ]
  refine wpAnyH_ready (rs:=[0,3]) (by kernel_rfl) (by simp) ?_
  refine AllReadyH.cons rfl (λ K hK=>?_) ?_
  ·skip
   have e0:=(FLD.out _ (But.refl No wx).drew).1
   go_simp
   refine hK.out _ _ (KEEP.out _ (But.refl _ wx).drew) (λ hHeld=>?_)
   clear hK K
   try simp only[Act.put,List.setIfInBounds_toArray,List.set_cons_zero,List.set_cons_succ]
   clear e0
   refine wpAnyH_ready (rs:=[3]) (by kernel_rfl) (by simp) ?_
   refine AllReadyH.cons rfl (λ K hK=>?_) AllReadyH.nil
   (go_simp;go_at_call 100;(with_reducible refine(CWX.out _ (HWX.out.trans (But.refl No wx).drew.no)).mono ?_);rintro e wC ⟨rfl,hbC⟩;have HBC:Hid (But No wx wC):=hid ((But.refl No wx).drew.trans hbC);clear hbC)
   refine hK.out _ _ (KEEP.out _ HBC.out.no) (λ hHeld=>?_)
   clear hK K
   try simp only[Act.put,List.setIfInBounds_toArray,List.set_cons_zero,List.set_cons_succ]
   refine wpAnyH_take (i:=12) (v:=?v11) rfl (by kernel_rfl) (by kernel_rfl) (by kernel_rfl) (λ _ _ _ h=>(by cases h.1)) (Or.inl ⟨by rfl,?hy11⟩) (by assumption) ?rest11
   case hy11=>(intro w hSw;(try dsimp only at hSw);go_simp <;> with_reducible rfl)
   try simp only[Act.put,List.setIfInBounds_toArray,List.set_cons_zero,List.set_cons_succ]
   refine wpAnyH_ready (rs:=[13]) (by kernel_rfl) (by simp) ?_
   refine AllReadyH.cons rfl (λ K hK=>?_) AllReadyH.nil
   go_simp
   refine hK.out _ _ (KEEP.out _ (HBC.out.alloc _).no) (λ hHeld=>?_)
   clear hK K
   try simp only[Act.put,List.setIfInBounds_toArray,List.set_cons_zero,List.set_cons_succ]
   refine wpAnyH_ready (rs:=[14]) (by kernel_rfl) (by simp) ?_
   refine AllReadyH.cons rfl (λ K hK=>?_) AllReadyH.nil
   refine step_append_sh rfl _ _ 159 rfl 161 iw _ 4 32 Tryz.underlying159 IW.out.1 IW.out.2.1 IW.out.2.2.1 IW.out.2.2.2 rfl (by omega) v LL.length (LL.flatMap dem.wkC) (by simp[Act.eval]) (OWN.out _ (HBC.out.alloc (.cells #[.int .i64 O,.int .i64 tp,.int .i64 x2,.bool x4] 161))) (wC.heap.size+1) (some ⟨wC.heap.size,0,none⟩) 1 1 (dem.wkC ⟨O,tp,x2,x4⟩) (by simp[Act.eval]) (wk_one_reads wC ⟨O,tp,x2,x4⟩ _) (wk_one_cell _) (by unfold maxLen;omega) (by omega) ?_
   intro A5 c5 w5 hown5 hgrow5 hat5
   have HP5:=hid (AFT.out _ w5 A5 c5 (HBC.out.alloc (.cells #[.int .i64 O,.int .i64 tp,.int .i64 x2,.bool x4] 161)) hown5.out hgrow5.out hat5.out)
   have e0:=HP5.out.1.1
   have e1:=HP5.out.1.2
   clear hown5 hgrow5 hat5
   refine hK.out _ _ (KEEP.out _ HP5.out.2.1) (λ hHeld=>?_)
   clear hK K
   try simp only[Act.put,List.setIfInBounds_toArray,List.set_cons_zero,List.set_cons_succ]
   refine wpAnyH_ready (rs:=[15]) (by kernel_rfl) (by simp) ?_
   refine AllReadyH.cons rfl (λ K hK=>?_) AllReadyH.nil
   go_simp
   refine hK.out _ _ (KEEP.out _ HP5.out.2.2.1) (λ hHeld=>?_)
   clear hK K
   try simp only[Act.put,List.setIfInBounds_toArray,List.set_cons_zero,List.set_cons_succ]
   refine wpAnyH_done (by kernel_rfl) ?_ _
   refine⟨rfl,?_⟩
   clear e0 e1 hHeld
   obtain⟨f4,f5,fb,ft⟩:=D6.out _ HP5.out.2.2.1
   have fz:=HP5.out.2.2.2.1.bnd.frozen xi
   have fc:=HP5.out.2.2.2.1.bnd.cell hxn
   generalize w5.setCell ⟨w.heap.size+1+1,0,none⟩ (.slice A5 (LL.length+1) c5)=w6 at HP5 f4 f5 fb ft fz fc ⊢
   cases x4 with
   | true =>
    gi_wp2_with fail
    have hh:=FINT.out w6 _ HP5.out.2.2.2 (by first | rfl | trivial)
    rw[hs0] at hh
    exact hh
   | false =>
    gi_wp2_with fail
    have hh:=FINF.out w6 _ HP5.out.2.2.2 (by first | rfl | trivial)
    rw[hs0] at hh
    exact hh
  ·skip
   refine AllReadyH.cons rfl (λ K hK=>?_) AllReadyH.nil
   (go_simp;go_at_call 100;(with_reducible refine(CWX.out _ (HWX.out.trans (But.refl No wx).drew.no)).mono ?_);rintro e wC ⟨rfl,hbC⟩;have HBC:Hid (But No wx wC):=hid ((But.refl No wx).drew.trans hbC);clear hbC)
   refine hK.out _ _ (KEEP.out _ HBC.out.no) (λ hHeld=>?_)
   clear hK K
   try simp only[Act.put,List.setIfInBounds_toArray,List.set_cons_zero,List.set_cons_succ]
   refine wpAnyH_take (i:=12) (v:=?v12) rfl (by kernel_rfl) (by kernel_rfl) (by kernel_rfl) (λ _ _ _ h=>(by cases h.1)) (Or.inl ⟨by rfl,?hy12⟩) (by assumption) ?rest12
   case hy12=>(intro w hSw;(try dsimp only at hSw);go_simp <;> with_reducible rfl)
   try simp only[Act.put,List.setIfInBounds_toArray,List.set_cons_zero,List.set_cons_succ]
   refine wpAnyH_ready (rs:=[0,13]) (by kernel_rfl) (by simp) ?_
   refine AllReadyH.cons rfl (λ K hK=>?_) ?_
   ·skip
    have e0:=(FLD.out _ HBC.out).1
    go_simp
    refine hK.out _ _ (KEEP.out _ HBC.out.no) (λ hHeld=>?_)
    clear hK K
    try simp only[Act.put,List.setIfInBounds_toArray,List.set_cons_zero,List.set_cons_succ]
    clear e0
    refine wpAnyH_ready (rs:=[13]) (by kernel_rfl) (by simp) ?_
    refine AllReadyH.cons rfl (λ K hK=>?_) AllReadyH.nil
    go_simp
    refine hK.out _ _ (KEEP.out _ (HBC.out.alloc _).no) (λ hHeld=>?_)
    clear hK K
    try simp only[Act.put,List.setIfInBounds_toArray,List.set_cons_zero,List.set_cons_succ]
    refine wpAnyH_ready (rs:=[14]) (by kernel_rfl) (by simp) ?_
    refine AllReadyH.cons rfl (λ K hK=>?_) AllReadyH.nil
    refine step_append_sh rfl _ _ 159 rfl 161 iw _ 4 32 Tryz.underlying159 IW.out.1 IW.out.2.1 IW.out.2.2.1 IW.out.2.2.2 rfl (by omega) v LL.length (LL.flatMap dem.wkC) (by simp[Act.eval]) (OWN.out _ (HBC.out.alloc (.cells #[.int .i64 O,.int .i64 tp,.int .i64 x2,.bool x4] 161))) (wC.heap.size+1) (some ⟨wC.heap.size,0,none⟩) 1 1 (dem.wkC ⟨O,tp,x2,x4⟩) (by simp[Act.eval]) (wk_one_reads wC ⟨O,tp,x2,x4⟩ _) (wk_one_cell _) (by unfold maxLen;omega) (by omega) ?_
    intro A5 c5 w5 hown5 hgrow5 hat5
    have HP5:=hid (AFT.out _ w5 A5 c5 (HBC.out.alloc (.cells #[.int .i64 O,.int .i64 tp,.int .i64 x2,.bool x4] 161)) hown5.out hgrow5.out hat5.out)
    have e0:=HP5.out.1.1
    have e1:=HP5.out.1.2
    clear hown5 hgrow5 hat5
    refine hK.out _ _ (KEEP.out _ HP5.out.2.1) (λ hHeld=>?_)
    clear hK K
    try simp only[Act.put,List.setIfInBounds_toArray,List.set_cons_zero,List.set_cons_succ]
    refine wpAnyH_ready (rs:=[15]) (by kernel_rfl) (by simp) ?_
    refine AllReadyH.cons rfl (λ K hK=>?_) AllReadyH.nil
    go_simp
    refine hK.out _ _ (KEEP.out _ HP5.out.2.2.1) (λ hHeld=>?_)
    clear hK K
    try simp only[Act.put,List.setIfInBounds_toArray,List.set_cons_zero,List.set_cons_succ]
    refine wpAnyH_done (by kernel_rfl) ?_ _
    refine⟨rfl,?_⟩
    clear e0 e1 hHeld
    obtain⟨f4,f5,fb,ft⟩:=D6.out _ HP5.out.2.2.1
    have fz:=HP5.out.2.2.2.1.bnd.frozen xi
    have fc:=HP5.out.2.2.2.1.bnd.cell hxn
    generalize w5.setCell ⟨w.heap.size+1+1,0,none⟩ (.slice A5 (LL.length+1) c5)=w6 at HP5 f4 f5 fb ft fz fc ⊢
    cases x4 with
    | true =>
     gi_wp2_with fail
     have hh:=FINT.out w6 _ HP5.out.2.2.2 (by first | rfl | trivial)
     rw[hs0] at hh
     exact hh
    | false =>
     gi_wp2_with fail
     have hh:=FINF.out w6 _ HP5.out.2.2.2 (by first | rfl | trivial)
     rw[hs0] at hh
     exact hh
   ·skip
    refine AllReadyH.cons rfl (λ K hK=>?_) AllReadyH.nil
    go_simp
    refine hK.out _ _ (KEEP.out _ (HBC.out.alloc _).no) (λ hHeld=>?_)
    clear hK K
    try simp only[Act.put,List.setIfInBounds_toArray,List.set_cons_zero,List.set_cons_succ]
    have e0:=(FLD.out _ (HBC.out.alloc (.cells #[.int .i64 O,.int .i64 tp,.int .i64 x2,.bool x4] 161))).1
    refine wpAnyH_ready (rs:=[0]) (by kernel_rfl) (by simp) ?_
    refine AllReadyH.cons rfl (λ K hK=>?_) AllReadyH.nil
    go_simp
    refine hK.out _ _ (KEEP.out _ (HBC.out.alloc _).no) (λ hHeld=>?_)
    clear hK K
    try simp only[Act.put,List.setIfInBounds_toArray,List.set_cons_zero,List.set_cons_succ]
    clear e0
    refine wpAnyH_ready (rs:=[14]) (by kernel_rfl) (by simp) ?_
    refine AllReadyH.cons rfl (λ K hK=>?_) AllReadyH.nil
    refine step_append_sh rfl _ _ 159 rfl 161 iw _ 4 32 Tryz.underlying159 IW.out.1 IW.out.2.1 IW.out.2.2.1 IW.out.2.2.2 rfl (by omega) v LL.length (LL.flatMap dem.wkC) (by simp[Act.eval]) (OWN.out _ (HBC.out.alloc (.cells #[.int .i64 O,.int .i64 tp,.int .i64 x2,.bool x4] 161))) (wC.heap.size+1) (some ⟨wC.heap.size,0,none⟩) 1 1 (dem.wkC ⟨O,tp,x2,x4⟩) (by simp[Act.eval]) (wk_one_reads wC ⟨O,tp,x2,x4⟩ _) (wk_one_cell _) (by unfold maxLen;omega) (by omega) ?_
    intro A5 c5 w5 hown5 hgrow5 hat5
    have HP5:=hid (AFT.out _ w5 A5 c5 (HBC.out.alloc (.cells #[.int .i64 O,.int .i64 tp,.int .i64 x2,.bool x4] 161)) hown5.out hgrow5.out hat5.out)
    have e0:=HP5.out.1.1
    have e1:=HP5.out.1.2
    clear hown5 hgrow5 hat5
    refine hK.out _ _ (KEEP.out _ HP5.out.2.1) (λ hHeld=>?_)
    clear hK K
    try simp only[Act.put,List.setIfInBounds_toArray,List.set_cons_zero,List.set_cons_succ]
    refine wpAnyH_ready (rs:=[15]) (by kernel_rfl) (by simp) ?_
    refine AllReadyH.cons rfl (λ K hK=>?_) AllReadyH.nil
    go_simp
    refine hK.out _ _ (KEEP.out _ HP5.out.2.2.1) (λ hHeld=>?_)
    clear hK K
    try simp only[Act.put,List.setIfInBounds_toArray,List.set_cons_zero,List.set_cons_succ]
    refine wpAnyH_done (by kernel_rfl) ?_ _
    refine⟨rfl,?_⟩
    clear e0 e1 hHeld
    obtain⟨f4,f5,fb,ft⟩:=D6.out _ HP5.out.2.2.1
    have fz:=HP5.out.2.2.2.1.bnd.frozen xi
    have fc:=HP5.out.2.2.2.1.bnd.cell hxn
    generalize w5.setCell ⟨w.heap.size+1+1,0,none⟩ (.slice A5 (LL.length+1) c5)=w6 at HP5 f4 f5 fb ft fz fc ⊢
    cases x4 with
    | true =>
     gi_wp2_with fail
     have hh:=FINT.out w6 _ HP5.out.2.2.2 (by first | rfl | trivial)
     rw[hs0] at hh
     exact hh
    | false =>
     gi_wp2_with fail
     have hh:=FINF.out w6 _ HP5.out.2.2.2 (by first | rfl | trivial)
     rw[hs0] at hh
     exact hh
 case done =>
  rintro D ys W hD rfl ⟨v,h1⟩ hK
  rw[vl_all] at h1
  obtain⟨A2,c2,hv,hrw⟩:=dem.OWk.rd (e:=161) (show dem.OWk W 161 v ((onN F co n).map (wkP s wh)) from h1.own) (by have:=HOL.out;simp;omega) HWF.out
  subst hv
  obtain⟨PL,hPL⟩:∃ PL,(onN F co n).map (wkP s wh)=PL:=⟨_,rfl⟩
  have HPL:=hid hPL
  rw[hPL] at h1 hrw HWF
  clear hPL
  obtain⟨PN,hPN⟩:∃ PN,PL.length=PN:=⟨_,rfl⟩
  rw[hPN] at h1 hrw
  clear hPN
  have HWW:Hid (But (λ z=>z=bb\/w.heap.size<=z) w W):=hid (HBW0.out.no.trans (h1.but.mono (λ z _ e=>by rcases e with e | e <;> omega)))
  have H1:=hid h1
  have HK:=hid hK
  have hYB:=BL0.out.but h1.but (λ e=>by rcases e with e | e <;> omega)
  have KEEP:Hid (∀ w',But No W w'->(λ w'=>L11 w' w.heap.size s A n c m b/\w'.cell? ⟨w.heap.size+1+1,0,none⟩=some (.slice A2 PN c2)) w'):=hid (λ w' hb=>⟨ly_cells (hYB.but hb (λ f=>f)),(H1.out.no hb).blk.cell (o:=0) rfl⟩)
  have CT:Hid (∀ y,inR y->∀ W',But No W W'->Calls Tryz.prog 101 #[.slice A2 PN c2,.int .i64 y,.int .i64 s.re] W' λ e w'=>e=.returned (.int .i64 (dem.testV PL y s.re))/\But No W' w'):=hid (λ y hy W' hb=>dem.test_any A2 PN c2 PL y s.re W' (hrw.no hb) hy HREF)
  obtain⟨HN,hHN⟩:∃ HN,HL.length=HN:=⟨_,rfl⟩
  rw[hHN] at CHO CBK
  obtain⟨Y,hY⟩:∃ Y,blH s 0 HL=Y:=⟨_,rfl⟩
  have hYR:=HBB9.out Y hY
  rw[hY] at CBK
  have HYE:=hid hY
  have CT2:=hid (CT.out Y hYR)
  clear h1 hK hYB hHN hY hYR hrw
  go_wp2_with fail
  go_region_held3 (λ w'=>L11 w' w.heap.size s A n c m b/\w'.cell? ⟨w.heap.size+1+1,0,none⟩=some (.slice A2 PN c2))
   (first | exact KEEP.out _ (But.refl No W).drew | exact KEEP.out _ HB5.out | exact KEEP.out _ HB4.out | exact KEEP.out _ HB3.out)
   (first | (go_at_call 103;(with_reducible refine(CHO.out _ (HWW.out.trans (But.refl No W).drew.no)).mono ?_);rintro e w3 ⟨AH,cH,rfl,h3,hcH,hsec⟩;have HB3:Hid (But No W w3):=hid ((But.refl No W).drew.trans h3);have HCH:=hid hcH;have HSEC:=hid hsec;clear h3 hcH hsec) | (go_at_call 102;(with_reducible refine(CBK.out _ (HWW.out.trans HB3.out.no) _ _ HCH.out HSEC.out).mono ?_);rintro e w4 ⟨rfl,h4⟩;have HB4:Hid (But No W w4):=hid (HB3.out.trans h4);clear h4) | (go_at_call 101;(with_reducible refine(CT2.out _ HB4.out).mono ?_);rintro e w5 ⟨rfl,h5⟩;have HB5:Hid (But No W w5):=hid (HB4.out.trans h5);clear h5))
  go_wp2_with fail
  have hne:D≠bb:=by omega
  have hbf:But (Just bb) w w5:=(but_then HBW0.out H1.out.but (λ i hi e=>by rcases e with e | e;omega;exact e)).trans HB5.out.no
  have hkd:w5.heap[D]? = some (.deferred (some [])):=(HB5.out.block D (Array.getElem?_eq_some_iff.1 HK.out).1 (λ f=>f)).trans HK.out
  have hbp:But (λ z=>z=D) w5 (w5.putObj D (.deferred none)):=(But.refl (λ z=>z=D) w5).grown (grownBy_putObj' _ D _) (λ k e=>.inl (by cases e;rfl))
  refine⟨by simp,.inl ⟨_,_,rfl,run_takeDeferred hkd,?_⟩⟩
  exact⟨.int .i64 (dem.testV PL Y s.re),by simp[results,Tryz.results70,go_sem],by rw[HPL.out,HYE.out],hbf.grown (grownBy_putObj' _ D (.deferred none)) (λ k e=>.inr (by cases e;omega)),(H1.out.bnd.but HB5.out (λ f=>f)).but hbp (λ e=>hne e.symm)⟩
 case stop =>
  rintro D c' pre W hD hp h
  exact h.elim
end Go.Proofs.YtlecikdjoekknaaGreat.pln
end
