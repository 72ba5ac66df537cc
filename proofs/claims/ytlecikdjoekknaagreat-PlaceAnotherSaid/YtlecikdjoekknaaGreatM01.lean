/- Part 1 of a proof: Base ReM V0 QaQ QaQ2. -/
import Derived.Below
import Derived.BigQuiet
import Derived.BigRegion
import Derived.ChangeKeysEq
import Derived.ChangeSame
import Derived.Deep.AppendLies
import Derived.Deep.Draws
import Derived.Deep.Fields
import Derived.Deep.QuietTactic
import Derived.Deep.RegionHeld3
import Derived.Deep.Slices
import Derived.IntWalk
import Derived.Laws.BitsAllLaws
import Derived.Laws.StructEq
import Derived.Lib.Hide
import Derived.LoopN
import Derived.Maps.AppendAt
import Derived.OpenShut
import Derived.OwnWalk
import Derived.ProofKit
import Derived.RegionTactic
import Derived.SizedLaws
import Derived.StillTailTactics
import Derived.Test.YtlecikdjoekknaaGreatRows
import Derived.WalkKit
set_option maxRecDepth 100000
set_option maxHeartbeats 16000000
set_option linter.unusedVariables false
set_option linter.unusedSimpArgs false
section
namespace Go.Proofs.YtlecikdjoekknaaGreat
open Go.ChangeShapes Go.WideShapes Go.ChangeAt Go.RowKit Go.Deep
structure But (S:Nat->Prop) (w w':World):Prop where
 os:w'.os=w.os
 tape:w'.tape=w.tape
 output:w'.output=w.output
 size:w.heap.size<=w'.heap.size
 block:∀ k,k<w.heap.size->¬S k->w'.heap[k]? = w.heap[k]?
theorem But.refl (S:Nat->Prop) (w:World):But S w w:=⟨rfl,rfl,rfl,Nat.le_refl _,λ _ _ _=>rfl⟩
theorem But.trans {S:Nat->Prop} {a b c:World} (h:But S a b) (k:But S b c):But S a c :=
 ⟨k.os.trans h.os,k.tape.trans h.tape,k.output.trans h.output,Nat.le_trans h.size k.size,λ i hi hs=>(k.block i (Nat.lt_of_lt_of_le hi h.size) hs).trans (h.block i hi hs)⟩
theorem But.mono {S S':Nat->Prop} {a b:World} (h:But S a b) (hS:∀ k,k<a.heap.size->S k->S' k):But S' a b :=
 ⟨h.os,h.tape,h.output,h.size,λ k hk hn=>h.block k hk (λ s=>hn (hS k hk s))⟩
theorem But.andThen {S S':Nat->Prop} {a b c:World} (h:But S a b) (k:But S' b c) (hS:∀ k,S' k->S k\/a.heap.size<=k):But S a c :=
 ⟨k.os.trans h.os,k.tape.trans h.tape,k.output.trans h.output,Nat.le_trans h.size k.size,λ i hi hs=>(k.block i (Nat.lt_of_lt_of_le hi h.size) (λ s=>(hS i s).elim hs (λ g=>by omega))).trans (h.block i hi hs)⟩
theorem But.drew {S:Nat->Prop} {a b:World} (h:But S a b):But S a b.drew:=⟨h.os,h.tape,h.output,h.size,h.block⟩
theorem But.alloc {S:Nat->Prop} {a b:World} (h:But S a b) (o:Obj):But S a (b.alloc o) :=
 h.trans ⟨rfl,rfl,rfl,by simp,λ k hk _=>Below.heap_alloc _ _ _ hk⟩
theorem But.setCell {S:Nat->Prop} {a b:World} (h:But S a b) {p:Addr} (hp:S p.block) (u:Value):But S a (b.setCell p u) :=
 h.trans ⟨rfl,rfl,rfl,by simp[World.setCell],λ k _ hs=>Below.heap_setCell _ _ _ _ (λ e=>hs (e▸hp))⟩
theorem But.setNew {S:Nat->Prop} {a b:World} (h:But S a b) {p:Addr} (hp:a.heap.size<=p.block) (u:Value):But S a (b.setCell p u) :=
 ⟨h.os,h.tape,h.output,Nat.le_trans h.size (by simp[World.setCell]),λ k hk hs=>(Below.heap_setCell _ _ _ _ (by omega)).trans (h.block k hk hs)⟩
theorem But.grown {S:Nat->Prop} {a b c:World} {row:Option Nat} (h:But S a b) (hg:b.grownBy c row) (hr:∀ k,row=some k->S k\/a.heap.size<=k):But S a c :=
 ⟨hg.os.trans h.os,hg.tape.trans h.tape,hg.output.trans h.output,Nat.le_trans h.size hg.size,λ k hk hs=>(hg.block k (Nat.lt_of_lt_of_le hk h.size) (λ e=>(hr k e.symm).elim hs (λ g=>by omega))).trans (h.block k hk hs)⟩
theorem But.below {S:Nat->Prop} {w w':World} {B:Nat} (h:But S w w') (hS:∀ k,S k->B<=k) (hB:B<=w.heap.size):Below B w w' :=
 ⟨h.os,h.tape,h.output,h.size,λ k hk=>h.block k (by omega) (λ s=>by have:=hS k s;omega)⟩
theorem But.cell {S:Nat->Prop} {w w':World} (h:But S w w') {b o:Nat} (hb:b<w.heap.size) (hs:¬S b):w'.cell? ⟨b,o,none⟩=w.cell? ⟨b,o,none⟩:=World.cell?_of_block (w:=w) (h.block b hb hs)
def No : Nat->Prop:=λ _=>False
def Just (q:Nat):Nat->Prop:=λ k=>k=q
theorem just (q:Nat):Just q q:=rfl
theorem But.no {S:Nat->Prop} {w w':World} (h:But No w w'):But S w w':=h.mono (λ _ _ f=>f.elim)
def Blk (w:World) (b:Nat) (cur:Array Value) (e:TypeId):Prop:=w.heap[b]? = some (.cells cur e (0,0))
theorem Blk.lt {w:World} {b:Nat} {cur:Array Value} {e:TypeId} (h:Blk w b cur e):b<w.heap.size:=by
 unfold Blk at h
 exact(Array.getElem?_eq_some_iff.1 h).1
theorem Blk.cell {w:World} {b:Nat} {cur:Array Value} {e:TypeId} (h:Blk w b cur e) {o:Nat} {v:Value} (hv:cur[o]? = some v):w.cell? ⟨b,o,none⟩=some v:=by
 unfold Blk at h
 simp[World.cell?,h,hv]
theorem Blk.frozen {w:World} {b:Nat} {cur:Array Value} {e:TypeId} (h:Blk w b cur e) (o:Nat):w.frozen? ⟨b,o,none⟩=false:=by
 unfold Blk at h
 simp[World.frozen?,h]
theorem Blk.set {w:World} {b:Nat} {cur:Array Value} {e:TypeId} (h:Blk w b cur e) (o:Nat) (v:Value):Blk (w.setCell ⟨b,o,none⟩ v) b (cur.setIfInBounds o v) e:=by
 unfold Blk at h ⊢
 simp[World.setCell,Array.getElem?_modify,h]
theorem Blk.other {w:World} {b:Nat} {cur:Array Value} {e:TypeId} (h:Blk w b cur e) {a:Addr} (ha:b≠a.block) (v:Value):Blk (w.setCell a v) b cur e:=by
 unfold Blk at h ⊢
 rw[Below.heap_setCell _ _ _ _ ha];exact h
theorem Blk.but {w w':World} {b:Nat} {cur:Array Value} {e:TypeId} {S:Nat->Prop} (h:Blk w b cur e) (hb:But S w w') (hs:¬S b):Blk w' b cur e:=by
 have hl:=h.lt
 unfold Blk at h ⊢
 rw[hb.block b hl hs];exact h
theorem Blk.new (w:World) (cur:Array Value) (e:TypeId):Blk (w.alloc (.cells cur e)) w.heap.size cur e:=by
 unfold Blk
 exact(MapKept.heap_alloc w _).1
theorem But.drewN {S:Nat->Prop} {a b:World} (h:But S a b) (n:Nat):But S a (b.drewN n):=⟨h.os,h.tape,h.output,h.size,h.block⟩
def inR (a:Int):Prop:=-9223372036854775808<=a/\a<=9223372036854775807
theorem inR_of {x:Int} (h:(Lit.int .i64 x).wf=true):inR x:=by
 simp[Lit.wf,IntKind.min,IntKind.max,IntKind.bits,IntKind.signed] at h;unfold inR;omega
theorem wf_of {x:Int} (h:inR x):(Lit.int .i64 x).wf=true:=by
 unfold inR at h;simp[Lit.wf,IntKind.min,IntKind.max,IntKind.bits,IntKind.signed];omega
theorem blk2 (w:World) (o:Obj) (cur:Array Value) (e:TypeId):Blk ((w.alloc o).alloc (.cells cur e)) (w.heap.size+1) cur e:=by
 have:=Blk.new (w.alloc o) cur e
 simpa using this
theorem Blk.alloc {w:World} {b:Nat} {cur:Array Value} {e:TypeId} (h:Blk w b cur e) (o:Obj):Blk (w.alloc o) b cur e:=h.but (S:=No) ((But.refl _ _).alloc _) (λ f=>f)
theorem cell_keep {w1 w2:World} {b o:Nat} {v:Value} (h:w1.cell? ⟨b,o,none⟩=some v) (hb:But No w1 w2):w2.cell? ⟨b,o,none⟩=some v:=by
 rw[hb.cell (World.block_lt_of_cell? w1 _ h) (λ f=>f)];exact h
structure Rd (w:World) (A:Option Addr) (n:Nat) (zs:List Int):Prop where
 len:zs.length=n
 max:n<=9223372036854775807
 at_:0<n->∃ b off,A=some ⟨b,off,none⟩/\b<w.heap.size/\∀ k,k<n->w.cell? ⟨b,off+k,none⟩=some (.int .i64 (zs.getD k 0))
 fit:∀ k,inR (zs.getD k 0)
theorem Rd.no {w w':World} {A:Option Addr} {n:Nat} {zs:List Int} (h:Rd w A n zs) (hb:But No w w'):Rd w' A n zs :=
 ⟨h.len,h.max,λ hn=>by
  obtain⟨b,off,e,hl,hc⟩:=h.at_ hn
  exact⟨b,off,e,Nat.lt_of_lt_of_le hl hb.size,λ k hk=>by rw[hb.cell hl (λ f=>f)];exact hc k hk⟩,h.fit⟩
theorem info_parts {e:TypeId} {z:Value} {n m:Nat} (h:(Tryz.prog.info? e).map (λ i=>(i.zero,i.size,i.bytes))=some (some z,n,m)):∃ i,Tryz.prog.info? e=some i/\i.zero=some z/\i.size=n/\i.bytes=m:=by
 cases hi:Tryz.prog.info? e with
 | none=>rw[hi] at h;cases h
 | some i =>
  rw[hi] at h
  simp at h
  exact⟨i,rfl,h.1,h.2.1,h.2.2⟩
def Vals (w:World) (b:Nat) (e:TypeId) (n:Nat) (f:Nat->Value):Prop:=Blk w b ((List.range n).map f).toArray e
theorem Vals.set {w:World} {b n k:Nat} {e:TypeId} {f:Nat->Value} (h:Vals w b e n f) (v:Value):Vals (w.setCell ⟨b,k,none⟩ v) b e n (λ j=>if j=k then v else f j):=by
 have h1:=Blk.set h k v
 have e:((((List.range n).map f)).toArray.setIfInBounds k v)=(((List.range n).map (λ j=>if j=k then v else f j))).toArray:=by
  apply Array.ext'
  apply List.ext_getElem?
  intro j
  simp only[List.setIfInBounds_toArray,List.getElem?_set,List.getElem?_map,List.length_map,List.length_range]
  by_cases hj:j<n
  ·by_cases e:j=k
   ·subst e;simp[hj]
   ·simp[hj,e,Ne.symm e]
  ·by_cases e:k=j
   ·subst e;simp[hj]
   ·simp[hj,e]
 show Blk _ _ _ _
 rw[<-e];exact h1
theorem Vals.congr {w:World} {b n:Nat} {e:TypeId} {f g:Nat->Value} (h:Vals w b e n f) (he:∀ j,j<n->g j=f j):Vals w b e n g:=by
 have:(List.range n).map g=(List.range n).map f:=List.map_congr_left (λ j hj=>he j (List.mem_range.1 hj))
 unfold Vals;rw[this];exact h
theorem Vals.but {w w':World} {b n:Nat} {e:TypeId} {f:Nat->Value} {S:Nat->Prop} (h:Vals w b e n f) (hb:But S w w') (hs:¬S b):Vals w' b e n f:=Blk.but h hb hs
theorem Vals.cell {w:World} {b n:Nat} {e:TypeId} {f:Nat->Value} (h:Vals w b e n f) {k:Nat} (hk:k<n):w.cell? ⟨b,k,none⟩=some (f k):=by
 refine Blk.cell h ?_
 simp[hk]
theorem Vals.frozen {w:World} {b n:Nat} {e:TypeId} {f:Nat->Value} (h:Vals w b e n f) (k:Nat):w.frozen? ⟨b,k,none⟩=false:=Blk.frozen h k
theorem Vals.lt {w:World} {b n:Nat} {e:TypeId} {f:Nat->Value} (h:Vals w b e n f):b<w.heap.size:=Blk.lt h
theorem one_news (w:World) (x:Int):∀ j u, [Value.int .i64 x][j]? = some u->(w.alloc (.cells #[.int .i64 x] 3)).cell? ((⟨w.heap.size,0,none⟩:Addr).add j)=some u :=
 World.news_of_block (cs:=#[.int .i64 x]) (t:=3) (fr:=(0,0)) (Blk.new w _ _)
theorem ret_bool {a b:Bool} (h:a=b):Ending.returned (.bool a)=.returned (.bool b):=by rw[h]
theorem laidOut : laidOutB Tryz.prog=true:=by kernel_rfl
theorem trodAll_stays {H:Type} {enc:TypeId × Value->H} {P:Program} (hl:laidOutB P=true) {W W':World} (hb:Below W.heap.size W W') :
  ∀ {ts:List TypeId} {vs:List Value} {ds:List (DataW H)} {p:List MemPlace},(ts.all λ t=>P.readableRec t && decide (t<P.types.size))=true ->
   DataW.TrodAll enc P W 0 (λ _=>true) true ts vs ds p->(∀ x ∈ p,x.block<W.heap.size)->DataW.TrodAll enc P W' 0 (λ b=>decide (b<W.heap.size)) true ts vs ds p
 | [], [], [],_,_,h,_=>h
 | t :: ts,v :: vs,d :: ds,p,hr,h,hlt=>by
  obtain⟨p1,p2,h1,h2,rfl⟩:=h
  simp only[List.all_cons,Bool.and_eq_true,decide_eq_true_eq] at hr
  exact⟨p1,p2,Below.trod hl hr.1.1 hr.1.2 h1 hb (λ x hx=>hlt x (List.mem_append_left _ hx)),trodAll_stays hl hb hr.2 h2 (λ x hx=>hlt x (List.mem_append_right _ hx)),rfl⟩
 | [], [],_ :: _,_,_,h,_=>h.elim
 | [],_ :: _,_,_,_,h,_=>h.elim
 | _ :: _, [],_,_,_,h,_=>h.elim
 | _ :: _,_ :: _, [],_,_,h,_=>h.elim
theorem law_post {H:Type} {enc:TypeId × Value->H} {s:ChangeSpec} {f:Func} {W W':World} {args:Array Value} {ds gs:List (DataW H)} {before:List MemPlace}
  (hr:(f.params.toList.all λ t=>Tryz.prog.readableRec t && decide (t<Tryz.prog.types.size))=true) (hv:s.vars = []) (hres:f.resultTypes = #[4])
  (hW:DataW.Whole enc Tryz.prog f.params.toList s.vars false W args.toList ds gs before) (hfn:s.fn H ds = { results:=[.lit (.bool true)],args:=ds }) (hb:Below W.heap.size W W') :
  s.post enc Tryz.prog f false true false false W args (.bool true) W':=by
 have hlt:=hW.lt
 have hW':=hW
 obtain⟨p,q,hA,hV,rfl,_,_⟩:=hW
 rw[hv] at hV
 obtain⟨rfl,rfl⟩:=trodVars_none hV
 refine⟨ds, [],_, [],p, [],hW',?_,?_,?_,hb.frame _,λ h=>by cases h⟩
 ·rw[List.append_nil,hfn,hres]
  exact(trodAll_cons_mk (shut_bool Tryz.underlying4 _) trodAll_mk0)
 ·rw[List.append_nil,hfn]
  exact trodAll_stays laidOut hb hr hA (λ x hx=>hlt x (by simpa using hx))
 ·rw[List.append_nil,hfn,hv]
  exact rfl
theorem But.all {w w':World} (h:But No w w'):Below w.heap.size w w':=h.below (λ _ f=>f.elim) (Nat.le_refl _)
end Go.Proofs.YtlecikdjoekknaaGreat
end
section
namespace Go.Proofs.YtlecikdjoekknaaGreat.rsp
structure Ld where
 w:Int
 p:Int
 j:Int
def ld0 : Ld:=⟨0,0,0⟩
instance : Inhabited Ld:=⟨ld0⟩
def inT (a b:Int):Bool:=decide (a<=b) && decide (b<=1099511627776)
theorem inT_true {a b:Int}:inT a b=true ↔ a<=b/\b<=1099511627776:=by unfold inT;simp
theorem inT_false {a b:Int}:inT a b=false ↔ b<a\/1099511627776<b:=by
 unfold inT
 rw[Bool.and_eq_false_iff,decide_eq_false_iff_not,decide_eq_false_iff_not];omega
def okD (x:Ld):Bool:=inT 0 x.w && (inT 1 x.p && inT 0 x.j)
theorem okD_iff {x:Ld}:okD x=true ↔ (0<=x.w/\x.w<=1099511627776)/\(1<=x.p/\x.p<=1099511627776)/\0<=x.j/\x.j<=1099511627776:=by
 unfold okD;simp only[Bool.and_eq_true,inT_true]
def okLs (l:List Ld):Bool:=decide (l.length<=72) && l.all okD
theorem okLs_iff {l:List Ld}:okLs l=true ↔ l.length<=72/\∀ x ∈ l,okD x=true:=by
 unfold okLs;simp only[Bool.and_eq_true,decide_eq_true_eq,List.all_eq_true]
def right (own bl rl:Int) (a b:List Ld):Bool:=okLs a && (okLs b && (inT 0 own && (inT 0 bl && inT 0 rl)))
theorem right_iff {own bl rl:Int} {a b:List Ld}:right own bl rl a b=true ↔ okLs a=true/\okLs b=true/\(0<=own/\own<=1099511627776)/\(0<=bl/\bl<=1099511627776)/\0<=rl/\rl<=1099511627776:=by
 unfold right;simp only[Bool.and_eq_true,inT_true]
def up (n d:Int):Int:=n/d+if 0<n % d then 1 else 0
theorem up_bd {n d:Int} (hn:0<=n) (hd:1<=d):0<=up n d/\up n d<=n:=by
 unfold up
 have h1:=Int.emod_add_mul_ediv n d
 have h2:=Int.emod_nonneg n (show d≠0 by omega)
 have h3:=Int.emod_lt_of_pos n (show 0<d by omega)
 have hq:0<=n/d:=Int.ediv_nonneg (by omega) (by omega)
 have hle:n/d<=d*(n/d):=by
  have:=Int.mul_le_mul_of_nonneg_right hd hq
  omega
 constructor <;> split <;> omega
theorem up_mono {m n d:Int} (_:0<=m) (hmn:m<=n) (hd:1<=d):up m d<=up n d:=by
 unfold up
 have h1:=Int.emod_add_mul_ediv n d
 have h2:=Int.emod_nonneg n (show d≠0 by omega)
 have h3:=Int.emod_lt_of_pos n (show 0<d by omega)
 have k1:=Int.emod_add_mul_ediv m d
 have k2:=Int.emod_nonneg m (show d≠0 by omega)
 have k3:=Int.emod_lt_of_pos m (show 0<d by omega)
 have hle:m/d<=n/d:=Int.ediv_le_ediv (by omega) hmn
 rcases(show m/d=n/d\/m/d+1<=n/d by omega)with e | e
 ·rw[e] at k1 ⊢
  split <;> split <;> omega
 ·split <;> split <;> omega
def fA (n:Int) (x:Ld):Int:=up (n+x.j) x.p*x.w
def fB (rl n:Int) (x:Ld):Int:=(up (n+x.j) x.p+1)*rl
theorem fA_pos {n:Int} {x:Ld} (hn:0<=n) (hx:okD x=true):0<=fA n x:=by
 obtain⟨⟨w0,_⟩,⟨p0,_⟩,j0,_⟩:=okD_iff.1 hx
 have:=up_bd (n:=n+x.j) (by omega) p0
 exact Int.mul_nonneg (by omega) w0
theorem fB_pos {rl n:Int} {x:Ld} (hn:0<=n) (hr:0<=rl) (hx:okD x=true):0<=fB rl n x:=by
 obtain⟨_,⟨p0,_⟩,j0,_⟩:=okD_iff.1 hx
 have:=up_bd (n:=n+x.j) (by omega) p0
 exact Int.mul_nonneg (by omega) hr
theorem fA_mono {m n:Int} {x:Ld} (hm:0<=m) (h:m<=n) (hx:okD x=true):fA m x<=fA n x:=by
 obtain⟨⟨w0,_⟩,⟨p0,_⟩,j0,_⟩:=okD_iff.1 hx
 exact Int.mul_le_mul_of_nonneg_right (up_mono (by omega) (by omega) p0) w0
theorem fB_mono {rl m n:Int} {x:Ld} (hm:0<=m) (h:m<=n) (hr:0<=rl) (hx:okD x=true):fB rl m x<=fB rl n x:=by
 obtain⟨_,⟨p0,_⟩,j0,_⟩:=okD_iff.1 hx
 exact Int.mul_le_mul_of_nonneg_right (by have:=up_mono (m:=m+x.j) (n:=n+x.j) (by omega) (by omega) p0;omega) hr
def sN (s:Int) (f:Ld->Int) (l:List Ld):Nat->Int
 | 0=>s
 | i+1=>sN s f l i+f (l.getD i ld0)
theorem getD_some {l:List Ld} {i:Nat} {x:Ld} (h:l[i]? = some x):l.getD i ld0=x:=by simp[List.getD,h]
theorem sN_succ {s:Int} {f:Ld->Int} {l:List Ld} {i:Nat} {x:Ld} (h:l[i]? = some x):sN s f l (i+1)=sN s f l i+f x:=by rw[sN,getD_some h]
theorem sN_mono {s:Int} {f:Ld->Int} {l:List Ld} (hf:∀ x ∈ l,0<=f x) {i j:Nat} (hij:i<=j) (hj:j<=l.length):sN s f l i<=sN s f l j:=by
 induction j with
 | zero =>
      obtain rfl:i=0:=by omega
      exact Int.le_refl _
 | succ j ih =>
  by_cases e:i=j+1
  ·rw[e];exact Int.le_refl _
  ·have h:=ih (by omega) (by omega)
   have hx:l[j]? = some l[j]:=List.getElem?_eq_getElem (by omega)
   rw[sN_succ hx]
   have:=hf _ (List.mem_of_getElem? hx)
   omega
def sL (f:Ld->Int):List Ld->Int
 | []=>0
 | x :: l=>f x+sL f l
theorem sL_app (f:Ld->Int) (a b:List Ld):sL f (a ++ b)=sL f a+sL f b:=by
 induction a with
 | nil=>simp[sL]
 | cons x a ih=>rw[List.cons_append,sL,sL,ih];omega
theorem sN_take (s:Int) (f:Ld->Int) (l:List Ld) {i:Nat} (hi:i<=l.length):sN s f l i=s+sL f (l.take i):=by
 induction i with
 | zero=>simp[sN,sL]
 | succ i ih =>
  have hx:l[i]? = some l[i]:=List.getElem?_eq_getElem (by omega)
  rw[sN_succ hx,ih (by omega),List.take_add_one,hx,sL_app]
  simp[sL];omega
theorem sN_all (s:Int) (f:Ld->Int) (l:List Ld):sN s f l l.length=s+sL f l:=by
 rw[sN_take s f l (Nat.le_refl _),List.take_length]
theorem sL_le {f g:Ld->Int} {l:List Ld} (h:∀ x ∈ l,f x<=g x):sL f l<=sL g l:=by
 induction l with
 | nil=>exact Int.le_refl 0
 | cons x l ih =>
  rw[sL,sL]
  have:=h x (by simp)
  have:=ih (λ y hy=>h y (by simp[hy]))
  omega
theorem sL_pos {f:Ld->Int} {l:List Ld} (h:∀ x ∈ l,0<=f x):0<=sL f l:=by
 induction l with
 | nil=>exact Int.le_refl 0
 | cons x l ih =>
  rw[sL]
  have:=h x (by simp)
  have:=ih (λ y hy=>h y (by simp[hy]))
  omega
def wiA (own bl:Int) (a:List Ld) (n:Int):Int:=sN (own+bl) (fA n) a a.length
def wiS (own bl rl:Int) (a b:List Ld) (n:Int):Int:=sN (wiA own bl a n) (fB rl n) b b.length
theorem wiS_L (own bl rl:Int) (a b:List Ld) (n:Int):wiS own bl rl a b n=own+bl+sL (fA n) a+sL (fB rl n) b:=by
 unfold wiS wiA;rw[sN_all,sN_all]
def wiE (own bl rl:Int) (a b:List Ld) (n:Int):Int:=if right own bl rl a b=true/\0<=n/\n<=4611686018427387904 then (if 4611686018427387904<wiS own bl rl a b n then 2 else 0) else 1
def wiV (own bl rl:Int) (a b:List Ld) (n:Int):Int:=if wiE own bl rl a b n=0 then wiS own bl rl a b n else 0
theorem wi_cases (own bl rl:Int) (a b:List Ld) (n:Int):(wiE own bl rl a b n=1/\wiV own bl rl a b n=0/\¬(right own bl rl a b=true/\0<=n/\n<=4611686018427387904))\/((right own bl rl a b=true/\0<=n/\n<=4611686018427387904)/\4611686018427387904<wiS own bl rl a b n/\wiE own bl rl a b n=2/\wiV own bl rl a b n=0) \/
  ((right own bl rl a b=true/\0<=n/\n<=4611686018427387904)/\wiS own bl rl a b n<=4611686018427387904/\wiE own bl rl a b n=0/\wiV own bl rl a b n=wiS own bl rl a b n):=by
 unfold wiV wiE
 by_cases h:right own bl rl a b=true/\0<=n/\n<=4611686018427387904
 ·rw[if_pos h]
  by_cases ho:4611686018427387904<wiS own bl rl a b n
  ·rw[if_pos ho];exact .inr (.inl ⟨h,ho,rfl,by simp⟩)
  ·rw[if_neg ho];exact .inr (.inr ⟨h,by omega,rfl,by simp⟩)
 ·rw[if_neg h]
  exact .inl ⟨rfl,by simp,h⟩
def bnGo (own bl rl:Int) (a b:List Ld) (limit:Int):Nat->Int->Int × Int
 | 0,_=>(0,11)
 | k+1,n=>if wiE own bl rl a b n≠0 then (0,wiE own bl rl a b n) else if wiV own bl rl a b n<=n then (n,0) else if limit<wiV own bl rl a b n then (0,12) else bnGo own bl rl a b limit k (wiV own bl rl a b n)
def bnP (own bl rl:Int) (a b:List Ld) (limit:Int):Int × Int:=if right own bl rl a b=true/\1<=limit/\limit<=1099511627776 then bnGo own bl rl a b limit 5000 1 else (0,1)
theorem wi_mono {own bl rl:Int} {a b:List Ld} {m n:Int} (h:right own bl rl a b=true) (hm:0<=m) (hn:m<=n):wiS own bl rl a b m<=wiS own bl rl a b n:=by
 obtain⟨h1,h2,_,_,h3,_⟩:=right_iff.1 h
 have e1:=sL_le (f:=fA m) (g:=fA n) (l:=a) (λ x hx=>fA_mono hm hn ((okLs_iff.1 h1).2 x hx))
 have e2:=sL_le (f:=fB rl m) (g:=fB rl n) (l:=b) (λ x hx=>fB_mono hm hn h3 ((okLs_iff.1 h2).2 x hx))
 rw[wiS_L,wiS_L];omega
theorem wi_pos {own bl rl:Int} {a b:List Ld} {n:Int} (h:right own bl rl a b=true) (hn:0<=n):0<=wiS own bl rl a b n:=by
 obtain⟨h1,h2,⟨o0,_⟩,⟨b0,_⟩,h3,_⟩:=right_iff.1 h
 have e1:=sL_pos (f:=fA n) (l:=a) (λ x hx=>fA_pos hn ((okLs_iff.1 h1).2 x hx))
 have e2:=sL_pos (f:=fB rl n) (l:=b) (λ x hx=>fB_pos hn h3 ((okLs_iff.1 h2).2 x hx))
 rw[wiS_L];omega
theorem bn_go {own bl rl:Int} {a b:List Ld} {limit:Int} (h:right own bl rl a b=true) (hl:limit<=1099511627776):∀ (k:Nat) (n:Int),1<=n->n<=1099511627776->(∀ m,1<=m->m<n->m<wiS own bl rl a b m)->(bnGo own bl rl a b limit k n).2=0 ->
  n<=(bnGo own bl rl a b limit k n).1/\(bnGo own bl rl a b limit k n).1<=1099511627776/\((bnGo own bl rl a b limit k n).1=n\/(bnGo own bl rl a b limit k n).1<=limit)/\wiS own bl rl a b (bnGo own bl rl a b limit k n).1<=(bnGo own bl rl a b limit k n).1/\∀ m,1<=m->m<(bnGo own bl rl a b limit k n).1->m<wiS own bl rl a b m
 | 0,n,_,_,_,h0=>by rw[bnGo] at h0;cases h0
 | k+1,n,h1,h2,hm,h0=>by
  rw[bnGo] at h0 ⊢
  rcases wi_cases own bl rl a b n with⟨_,_,e⟩ | ⟨_,_,e,_⟩ | ⟨_,_,e,v⟩
  ·exact absurd ⟨h,by omega,by omega⟩ e
  ·rw[if_pos (by omega),e] at h0;cases h0
  ·rw[if_neg (by omega),v] at h0
   rw[if_neg (by omega),v]
   by_cases hc:wiS own bl rl a b n<=n
   ·rw[if_pos hc]
    exact⟨Int.le_refl _,h2,.inl rfl,hc,hm⟩
   ·rw[if_neg hc] at h0 ⊢
    by_cases hx:limit<wiS own bl rl a b n
    ·rw[if_pos hx] at h0;cases h0
    ·rw[if_neg hx] at h0 ⊢
     obtain⟨i1,i2,i3,i4,i5⟩:=bn_go h hl k (wiS own bl rl a b n) (by omega) (by omega) (λ m m1 m2=>by
      by_cases e:m<n
      ·exact hm m m1 e
      ·have:=wi_mono h (show 0<=n by omega) (show n<=m by omega)
       omega) h0
     exact⟨by omega,i2,.inr (by rcases i3 with i3 | i3 <;> omega),i4,i5⟩
theorem bn_ok {own bl rl:Int} {a b:List Ld} {limit:Int} (h0:(bnP own bl rl a b limit).2=0):right own bl rl a b=true/\(1<=limit/\limit<=1099511627776)/\1<=(bnP own bl rl a b limit).1/\(bnP own bl rl a b limit).1<=1099511627776/\((bnP own bl rl a b limit).1=1\/(bnP own bl rl a b limit).1<=limit)/\wiS own bl rl a b (bnP own bl rl a b limit).1<=(bnP own bl rl a b limit).1/\∀ m,1<=m->m<(bnP own bl rl a b limit).1->m<wiS own bl rl a b m:=by
 unfold bnP at h0 ⊢
 by_cases h:right own bl rl a b=true/\1<=limit/\limit<=1099511627776
 ·rw[if_pos h] at h0 ⊢
  obtain⟨i1,i2,i3,i4,i5⟩:=bn_go h.1 h.2.2 5000 1 (by omega) (by omega) (λ m m1 m2=>by omega) h0
  exact⟨h.1,h.2,i1,i2,i3,i4,i5⟩
 ·rw[if_neg h] at h0;cases h0
end Go.Proofs.YtlecikdjoekknaaGreat.rsp
end
section
namespace Go.Proofs.YtlecikdjoekknaaGreat
open Go.ChangeShapes Go.WideShapes Go.ChangeAt Go.RowKit Go.Deep
theorem info3 : (Tryz.prog.info? 3).map (λ i=>(i.zero,i.size,i.bytes))=some (some (.int .i64 0),1,8):=by kernel_rfl
theorem owns_but {w w':World} {e:TypeId} {sz n:Nat} {v:Value} {xs:List Value} {S:Nat->Prop} (h:w.ownsRow 0 e sz v n xs) (hb:But S w w') (hs:∀ k,v.ownBlock=some k->¬S k):w'.ownsRow 0 e sz v n xs:=by
 have hl:=h.lt
 obtain⟨h1,h2⟩:=h
 refine⟨h1,?_⟩
 rcases h2 with h2 | ⟨g,cap,cur,hv,hg,hh,r⟩
 ·exact .inl h2
 ·refine .inr ⟨g,cap,cur,hv,hg,?_,r⟩
  have hk:v.ownBlock=some g:=by rw[hv];rfl
  rw[hb.block g (hl g hk).2 (hs g hk)];exact hh
structure Rl (w:World) (A:Option Addr) (n:Nat) (zs:List Int):Prop where
 len:zs.length=n
 max:n<=9223372036854775807
 at_:0<n->∃ b off,A=some ⟨b,off,none⟩/\b<w.heap.size/\∀ k,k<n->w.cell? ⟨b,off+k,none⟩=some (.int .i64 (zs.getD k 0))
theorem Rl.no {w w':World} {A:Option Addr} {n:Nat} {zs:List Int} (h:Rl w A n zs) (hb:But No w w'):Rl w' A n zs :=
 ⟨h.len,h.max,λ hn=>by
  obtain⟨b,off,e,hl,hc⟩:=h.at_ hn
  exact⟨b,off,e,Nat.lt_of_lt_of_le hl hb.size,λ k hk=>by rw[hb.cell hl (λ f=>f)];exact hc k hk⟩⟩
def Ov (w:World) (v:Value) (zs:List Int):Prop:=w.ownsRow 0 3 1 v zs.length (zs.map (Value.int .i64))
theorem Ov.nil (w:World):Ov w (.slice none 0 0) []:=World.ownsRow_nil _ _ _ _
theorem Ov.but {w w':World} {v:Value} {zs:List Int} {S:Nat->Prop} (h:Ov w v zs) (hb:But S w w') (hs:∀ k,v.ownBlock=some k->¬S k):Ov w' v zs:=owns_but h hb hs
theorem Ov.slice {w:World} {v:Value} {zs:List Int} (h:Ov w v zs):∃ A c,v=.slice A zs.length c/\zs.length<=c:=by
 obtain⟨h1,h2⟩:=h
 rcases h2 with⟨h2,e⟩ | ⟨g,cap,cur,hv,_,_,hc,_⟩
 ·exact⟨none,0,by rw[e];exact h2,by omega⟩
 ·exact⟨_,_,hv,hc⟩
theorem Ov.rl {w:World} {A:Option Addr} {n c:Nat} {zs:List Int} (h:Ov w (.slice A n c) zs) (hm:zs.length<=100000):Rl w A n zs/\n=zs.length:=by
 obtain⟨h1,h2⟩:=h
 rcases h2 with⟨h2,e⟩ | ⟨g,cap,cur,hv,_,hh,hc,_,hs,ht⟩
 ·cases h2
  exact⟨⟨e,by omega,λ h=>absurd h (by omega)⟩,e.symm⟩
 ·cases hv
  refine⟨⟨rfl,by omega,λ hn=>⟨g,0,rfl,Blk.lt hh,λ k hk=>?_⟩⟩,rfl⟩
  rw[Nat.zero_add]
  refine Blk.cell hh ?_
  have e:(cur.toList.take (zs.length*1))[k]? = some (.int .i64 (zs.getD k 0)):=by
   rw[ht];simp[hk]
  rw[List.getElem?_take,if_pos (by omega)] at e
  simpa using e
theorem retb {a b:Bool} (h:a=b):Ending.returned (.bool a)=.returned (.bool b):=by rw[h]
theorem list_ne {zs ts:List Int} {k:Nat} (_:k<zs.length) (hne:zs.getD k 0≠ts.getD k 0):decide (zs=ts)=false:=by
 rw[decide_eq_false_iff_not];rintro rfl;exact hne rfl
theorem list_eq {zs ts:List Int} (hl:zs.length=ts.length) (h:∀ j,j<zs.length->zs.getD j 0=ts.getD j 0):decide (zs=ts)=true:=by
 rw[decide_eq_true_iff]
 apply List.ext_getElem hl
 intro j h1 h2
 have:=h j h1
 simpa [List.getD,List.getElem?_eq_getElem h1,List.getElem?_eq_getElem h2] using this
def Reads (w:World) (B size:Nat) (A:Option Addr) (n:Nat) (xs:List Value):Prop :=
 xs.length=n*size/\(0<n->∃ ad,A=some ad/\ad.block<B/\∀ j u,xs[j]? = some u->w.cell? (ad.add j)=some u)
section
variable {w w':World} {B B' size n:Nat} {A:Option Addr} {xs:List Value}
end
section
variable {P:Program} (w:World)
theorem run_append_of_nil (base:Nat) (t ty e:TypeId) (i:TypeInfo) (size:Nat) (ht:P.underlying t=some (.slice e)) (hi:P.info? e=some i)
  (v:Value) (n:Nat) (xs:List Value) (hown:w.ownsRow base e size v n xs) (c:Nat):(Builtin.append_ #[t,t] ty #[v,.slice none 0 c]).run P w=.ok v w:=by
 rcases hown.2 with⟨rfl,rfl⟩ | ⟨g,cap,cur,rfl,_,_,hnc,_⟩
 ·simp[Builtin.append_,run_underlying ht,sizeOf,typeInfo,hi,Builtin.lenOf,Builtin.firstCells]
 ·simp[Builtin.append_,run_underlying ht,sizeOf,typeInfo,hi,Builtin.lenOf,Builtin.firstCells,hnc,storeCells]
theorem run_append_any (base:Nat) (t ty e:TypeId) (i:TypeInfo) (z:Value) (size bytes:Nat) (ht:P.underlying t=some (.slice e)) (hi:P.info? e=some i) (hz:i.zero=some z)
  (hsize:i.size=size) (hby:i.bytes=bytes) (hzs:z.cells.size=size) (hsz:0<size)
  (v:Value) (n:Nat) (xs:List Value) (hown:w.ownsRow base e size v n xs)
  (B:Nat) (A:Option Addr) (m c:Nat) (news:List Value) (hr:Reads w B size A m news) (h1:∀ u ∈ news,u.oneCell'=true)
  (h63:n+m<=maxLen) (hbytes:(n+m)*bytes<=140737488355328) (hbase:base<=w.heap.size) :
  ∃ v' w',(Builtin.append_ #[t,t] ty #[v,.slice A m c]).run P w=.ok v' w'/\w'.ownsRow base e size v' (n+m) (xs ++ news)/\w.grownBy w' v.ownBlock /\
   (v'.ownBlock=v.ownBlock\/v'.ownBlock=some w.heap.size):=by
 rcases A with _ | ad
 ·have hm:m=0:=by
   rcases Nat.eq_zero_or_pos m with h0 | h0
   ·exact h0
   ·obtain⟨ad,h,_⟩:=hr.2 h0
    cases h
  subst hm
  have hn:news = []:=List.eq_nil_of_length_eq_zero (by simpa using hr.1)
  subst hn
  exact⟨v,w,run_append_of_nil w base t ty e i size ht hi v n xs hown c,by simpa using hown,World.grownBy.refl w _,.inl rfl⟩
 ·have hcells:∀ j u,news[j]? = some u->w.cell? (ad.add j)=some u:=by
   intro j u hu
   rcases Nat.eq_zero_or_pos m with h0 | h0
   ·subst h0
    have hn:news = []:=List.eq_nil_of_length_eq_zero (by simpa using hr.1)
    subst hn
    simp at hu
   ·obtain⟨ad',h,_,hc⟩:=hr.2 h0
    injection h with h
    subst h
    exact hc j u hu
  obtain⟨v',w',hrun,h2,h3,_,h5⟩:=run_append_own_at (P:=P) w base t ty e i z size bytes ht hi hz hsize hby hzs hsz v n xs hown ad m c news hr.1 hcells h1 h63 hbytes hbase
  exact⟨v',w',hrun,h2,h3,h5⟩
theorem wp_append_any {o:Oper} {a:Act} {K:Act->World->Prop} {Q:Exit->Act->World->Prop} (s x:Operand) (t:TypeId)
  (ho:o.op=.call { callee:=.builtin .append,args:=#[s,x],argTypes:=#[t,t] })
  (base:Nat) (e:TypeId) (i:TypeInfo) (z:Value) (size bytes:Nat) (ht:P.underlying t=some (.slice e)) (hi:P.info? e=some i) (hz:i.zero=some z)
  (hsize:i.size=size) (hby:i.bytes=bytes) (hzs:z.cells.size=size) (hsz:0<size)
  (v:Value) (n:Nat) (xs:List Value) (hs:a.eval s=v) (hown:w.ownsRow base e size v n xs)
  (B:Nat) (A:Option Addr) (m c:Nat) (news:List Value) (hx:a.eval x=.slice A m c) (hr:Reads w B size A m news) (h1:∀ u ∈ news,u.oneCell'=true)
  (h63:n+m<=maxLen) (hbytes:(n+m)*bytes<=140737488355328) (hbase:base<=w.heap.size)
  (h:∀ v' w',w'.ownsRow base e size v' (n+m) (xs ++ news)->w.grownBy w' v.ownBlock->(v'.ownBlock=v.ownBlock\/v'.ownBlock=some w.heap.size)->K (a.put o.dst v') w'):o.wp P a w K Q:=by
 obtain⟨v',w',hrun,h2,h3,h4⟩:=run_append_any (P:=P) w base t o.type e i z size bytes ht hi hz hsize hby hzs hsz v n xs hown B A m c news hr h1 h63 hbytes hbase
 unfold Oper.wp execOp
 simp only[ho,resolve,invoke,builtin,Sem.run_bind,Sem.run_pure,Result.andThen_ok,List.map_toArray,List.map_cons,List.map_nil,hs,hx,hrun]
 exact h v' w' h2 h3 h4
theorem wpList_append_any {ops:Array Oper} {rest:List Oper} {o:Oper} {a:Act} {Q:Exit->Act->World->Prop} (hgd:o.guard=none) (s x:Operand) (t:TypeId)
  (ho:o.op=.call { callee:=.builtin .append,args:=#[s,x],argTypes:=#[t,t] })
  (base:Nat) (e:TypeId) (i:TypeInfo) (z:Value) (size bytes:Nat) (ht:P.underlying t=some (.slice e)) (hi:P.info? e=some i) (hz:i.zero=some z)
  (hsize:i.size=size) (hby:i.bytes=bytes) (hzs:z.cells.size=size) (hsz:0<size)
  (v:Value) (n:Nat) (xs:List Value) (hs:a.eval s=v) (hown:w.ownsRow base e size v n xs)
  (B:Nat) (A:Option Addr) (m c:Nat) (news:List Value) (hx:a.eval x=.slice A m c) (hr:Reads w B size A m news) (h1:∀ u ∈ news,u.oneCell'=true)
  (h63:n+m<=maxLen) (hbytes:(n+m)*bytes<=140737488355328) (hbase:base<=w.heap.size)
  (h:∀ v' w',w'.ownsRow base e size v' (n+m) (xs ++ news)->w.grownBy w' v.ownBlock->(v'.ownBlock=v.ownBlock\/v'.ownBlock=some w.heap.size)->wpList P ops Q rest (a.put o.dst v') w'):wpList P ops Q (o :: rest) a w :=
 wpList_plain hgd λ _ hK=>wp_append_any w s x t ho base e i z size bytes ht hi hz hsize hby hzs hsz v n xs hs hown B A m c news hx hr h1 h63 hbytes hbase λ v' w' h2 h3 h4=>hK _ _ (h v' w' h2 h3 h4)
end
theorem owns_slice {w:World} {e:TypeId} {sz n:Nat} {v:Value} {xs:List Value} (h:w.ownsRow 0 e sz v n xs):∃ A c,v=.slice A n c:=by
 obtain⟨h1,h2⟩:=h
 rcases h2 with⟨h2,e⟩ | ⟨g,cap,cur,hv,_⟩
 ·exact⟨none,0,by rw[e];exact h2⟩
 ·exact⟨_,_,hv⟩
theorem wpList_append_sh {P:Program} (w:World) {ops:Array Oper} {rest:List Oper} {o:Oper} {a:Act} {Q:Exit->Act->World->Prop} (hgd:o.guard=none) (s x:Operand) (t:TypeId)
  (ho:o.op=.call { callee:=.builtin .append,args:=#[s,x],argTypes:=#[t,t] })
  (e:TypeId) (i:TypeInfo) (z:Value) (size bytes:Nat) (ht:P.underlying t=some (.slice e)) (hi:P.info? e=some i) (hz:i.zero=some z)
  (hsize:i.size=size) (hby:i.bytes=bytes) (hzs:z.cells.size=size) (hsz:0<size)
  (v:Value) (n:Nat) (xs:List Value) (hs:a.eval s=v) (hown:w.ownsRow 0 e size v n xs)
  (B:Nat) (A:Option Addr) (m c:Nat) (news:List Value) (hx:a.eval x=.slice A m c) (hr:Reads w B size A m news) (h1:∀ u ∈ news,u.oneCell'=true)
  (h63:n+m<=maxLen) (hbytes:(n+m)*bytes<=140737488355328)
  (h:∀ A' c' w',w'.ownsRow 0 e size (.slice A' (n+m) c') (n+m) (xs ++ news)->w.grownBy w' v.ownBlock->((Value.slice A' (n+m) c').ownBlock=v.ownBlock\/(Value.slice A' (n+m) c').ownBlock=some w.heap.size)->wpList P ops Q rest (a.put o.dst (.slice A' (n+m) c')) w'):wpList P ops Q (o :: rest) a w :=
 wpList_append_any w hgd s x t ho 0 e i z size bytes ht hi hz hsize hby hzs hsz v n xs hs hown B A m c news hx hr h1 h63 hbytes (Nat.zero_le _) (λ v' w' h2 h3 h4=>by
  obtain⟨A',c',rfl⟩:=owns_slice h2
  exact h A' c' w' h2 h3 h4)
theorem own_new {u v:Value} {M N:Nat} (hu:∀ j,u.ownBlock=some j->M<=j) (hat:v.ownBlock=u.ownBlock\/v.ownBlock=some N) (hN:M<=N):∀ j,v.ownBlock=some j->M<=j:=by
 intro j e
 rcases hat with h | h
 ·exact hu j (by rw[<-h];exact e)
 ·rw[h] at e;cases e;exact hN
theorem own_none {M:Nat}:∀ j,(Value.slice none 0 0).ownBlock=some j->M<=j:=λ j e=>by simp[Value.ownBlock] at e
theorem step_append_sh {P:Program} {ops:Array Oper} {o:Oper} {a:Act} {w:World} {K:Act->World->Prop} {Q:Exit->Act->World->Prop} {E:Prop} (hgd:o.guard=none) (s x:Operand) (t:TypeId)
  (ho:o.op=.call { callee:=.builtin .append,args:=#[s,x],argTypes:=#[t,t] })
  (e:TypeId) (i:TypeInfo) (z:Value) (size bytes:Nat) (ht:P.underlying t=some (.slice e)) (hi:P.info? e=some i) (hz:i.zero=some z)
  (hsize:i.size=size) (hby:i.bytes=bytes) (hzs:z.cells.size=size) (hsz:0<size)
  (v:Value) (n:Nat) (xs:List Value) (hs:a.eval s=v) (hown:w.ownsRow 0 e size v n xs)
  (B:Nat) (A:Option Addr) (m c:Nat) (news:List Value) (hx:a.eval x=.slice A m c) (hr:Reads w B size A m news) (h1:∀ u ∈ news,u.oneCell'=true)
  (h63:n+m<=maxLen) (hbytes:(n+m)*bytes<=140737488355328)
  (h:∀ A' c' w',Hid (w'.ownsRow 0 e size (.slice A' (n+m) c') (n+m) (xs ++ news))->Hid (w.grownBy w' v.ownBlock)->Hid ((Value.slice A' (n+m) c').ownBlock=v.ownBlock\/(Value.slice A' (n+m) c').ownBlock=some w.heap.size)->K (a.put o.dst (.slice A' (n+m) c')) w') :
  if Region.wanted o (yielded ops a.tmps)=true then Oper.wp P o a w K Q else E:=by
 have hw:Region.wanted o (yielded ops a.tmps)=true:=by simp[Region.wanted,hgd]
 rw[if_pos hw]
 refine wp_append_any w s x t ho 0 e i z size bytes ht hi hz hsize hby hzs hsz v n xs hs hown B A m c news hx hr h1 h63 hbytes (Nat.zero_le _) (λ v' w' h2 h3 h4=>?_)
 obtain⟨A',c',rfl⟩:=owns_slice h2
 exact h A' c' w' h2 h3 h4
def pk (c n:Int):Int:=(if c<0 then -(c+1) else c) % n
theorem ret1 {a b:Int} (h:a=b):Ending.returned (.int .i64 a)=.returned (.int .i64 b):=by rw[h]
theorem inR_small {a:Int} (h : -1000<=a/\a<=1000):inR a:=by unfold inR;omega
theorem inR_nat {a:Nat} (h:a<=1000):inR a:=by unfold inR;omega
theorem one_reads (w:World) (a:Int):Reads (w.alloc (.cells #[.int .i64 a] 3)) (w.heap.size+1) 1 (some ⟨w.heap.size,0,none⟩) 1 [.int .i64 a] :=
 ⟨rfl,λ _=>⟨_,rfl,Nat.lt_succ_self _,one_news w a⟩⟩
theorem one_cell (a:Int):∀ u ∈ [Value.int .i64 a],u.oneCell'=true:=by simp[Value.oneCell']
theorem size_alloc1 (w:World) (o:Obj):(w.alloc o).heap.size=w.heap.size+1:=by simp
end Go.Proofs.YtlecikdjoekknaaGreat
end
section
namespace Go.Proofs.YtlecikdjoekknaaGreat.qar
instance (x : Int):Decidable (inR x):=by unfold inR;exact inferInstance
def exV (x:Int):Int:=if inR x then x else 0
def exE (x:Int):Int:=if inR x then 0 else 2
theorem exV_in {x:Int} (h:inR x):exV x=x:=if_pos h
theorem exE_in {x:Int} (h:inR x):exE x=0:=if_pos h
theorem exV_out {x:Int} (h:¬inR x):exV x=0:=if_neg h
theorem exE_out {x:Int} (h:¬inR x):exE x=2:=if_neg h
theorem eqV {x y:Int} (h:inR x->y=x) (k:¬inR x->y=0):y=exV x:=by unfold exV;split;exact h ‹_›;exact k ‹_›
theorem eqE {x y:Int} (h:inR x->y=0) (k:¬inR x->y=2):y=exE x:=by unfold exE;split;exact h ‹_›;exact k ‹_›
def d0 (n:Int):Int:=n % 4294967296
def d1 (n:Int):Int:=n/4294967296 % 4294967296
def d2 (n:Int):Int:=n/18446744073709551616 % 4294967296
def d3 (n:Int):Int:=n/79228162514264337593543950336
def hi (n:Int):Int:=n/18446744073709551616
def lo (n:Int):Int:=n % 18446744073709551616
theorem hi_eq (n:Int):d3 n*4294967296+d2 n=hi n:=by unfold d3 d2 hi;omega
theorem lo_eq (n:Int):d1 n*4294967296+d0 n=lo n:=by unfold d1 d0 lo;omega
theorem d0_bd (n:Int):0<=d0 n/\d0 n<4294967296:=by unfold d0;omega
theorem d1_bd (n:Int):0<=d1 n/\d1 n<4294967296:=by unfold d1;omega
theorem d2_bd (n:Int):0<=d2 n/\d2 n<4294967296:=by unfold d2;omega
theorem d3_bd (n:Int) (h:0<=n) (k:n<340282366920938463463374607431768211456):0<=d3 n/\d3 n<4294967296:=by unfold d3;omega
theorem lo_bd (n:Int):0<=lo n/\lo n<18446744073709551616:=by unfold lo;omega
theorem hi_bd (n:Int) (h:0<=n) (k:n<340282366920938463463374607431768211456):0<=hi n/\hi n<18446744073709551616:=by unfold hi;omega
theorem or_mul (a b i m:Nat) (hm:m=2 ^ i) (h:a<m):(b*m) ||| a=b*m+a:=by
 subst hm
 rw[<-Nat.shiftLeft_eq,Nat.shiftLeft_add_eq_or_of_lt h]
theorem or_join (a b:Int) (a0:0<=a) (a1:a<4294967296) (b0:0<=b) (b1:b<4294967296):bits BinOp.or IntKind.u64 (a*4294967296) b=a*4294967296+b:=by
 obtain⟨n,rfl⟩:=Int.eq_ofNat_of_zero_le a0
 obtain⟨m,rfl⟩:=Int.eq_ofNat_of_zero_le b0
 have e:((n:Int)*4294967296)=((n*4294967296:Nat):Int):=by omega
 rw[e,u64_or_nat _ _ (by omega) (by omega),or_mul m n 32 4294967296 (by decide) (by omega)]
 omega
theorem or_bit (a b:Int) (a0:0<=a) (a1:a<9223372036854775808) (b0:0<=b) (b1:b<2):bits BinOp.or IntKind.u64 (a*2) b=a*2+b:=by
 obtain⟨n,rfl⟩:=Int.eq_ofNat_of_zero_le a0
 obtain⟨m,rfl⟩:=Int.eq_ofNat_of_zero_le b0
 have e:((n:Int)*2)=((n*2:Nat):Int):=by omega
 rw[e,u64_or_nat _ _ (by omega) (by omega),or_mul m n 1 2 (by decide) (by omega)]
 omega
theorem school (a b:Int) (a0:0<=a) (a1:a<18446744073709551616) (b0:0<=b) (b1:b<18446744073709551616) (x0 x1 y0 y1 s0 s1 s2 s3:Int)
  (hx0:x0=a % 4294967296) (hx1:x1=a/4294967296 % 4294967296) (hy0:y0=b % 4294967296) (hy1:y1=b/4294967296 % 4294967296)
  (h0:s0=x0*y0) (h1:s1=x0*y1+s0/4294967296 % 4294967296) (h2:s2=x1*y0+s1 % 4294967296) (h3:s3=x1*y1+s1/4294967296 % 4294967296+s2/4294967296 % 4294967296) :
  s0 % 4294967296=d0 (a*b)/\s2 % 4294967296=d1 (a*b)/\s3 % 4294967296=d2 (a*b)/\s3/4294967296 % 4294967296=d3 (a*b)
  /\ (0<=s0/\s0<18446744073709551616)/\(0<=s1/\s1<18446744073709551616)/\(0<=s2/\s2<18446744073709551616)/\(0<=s3/\s3<18446744073709551616):=by
 have ea:a=x1*4294967296+x0:=by omega
 have eb:b=y1*4294967296+y0:=by omega
 have bx0:0<=x0/\x0<=4294967295:=by omega
 have bx1:0<=x1/\x1<=4294967295:=by omega
 have by0:0<=y0/\y0<=4294967295:=by omega
 have by1:0<=y1/\y1<=4294967295:=by omega
 have em:a*b=x1*y1*18446744073709551616+(x0*y1+x1*y0)*4294967296+x0*y0:=by
  rw[ea,eb];simp only[Int.add_mul,Int.mul_add];
  have q1:x1*4294967296*(y1*4294967296)=x1*y1*18446744073709551616:=by rw[Int.mul_assoc,Int.mul_left_comm 4294967296 y1 4294967296,<-Int.mul_assoc];rfl
  have q2:x1*4294967296*y0=x1*y0*4294967296:=by rw[Int.mul_assoc,Int.mul_comm 4294967296 y0,<-Int.mul_assoc]
  have q3:x0*(y1*4294967296)=x0*y1*4294967296:=by rw[Int.mul_assoc]
  rw[q1,q2,q3];omega
 have m00:0<=x0*y0/\x0*y0<=4294967295*4294967295:=⟨Int.mul_nonneg bx0.1 by0.1,Int.mul_le_mul bx0.2 by0.2 by0.1 (by omega)⟩
 have m01:0<=x0*y1/\x0*y1<=4294967295*4294967295:=⟨Int.mul_nonneg bx0.1 by1.1,Int.mul_le_mul bx0.2 by1.2 by1.1 (by omega)⟩
 have m10:0<=x1*y0/\x1*y0<=4294967295*4294967295:=⟨Int.mul_nonneg bx1.1 by0.1,Int.mul_le_mul bx1.2 by0.2 by0.1 (by omega)⟩
 have m11:0<=x1*y1/\x1*y1<=4294967295*4294967295:=⟨Int.mul_nonneg bx1.1 by1.1,Int.mul_le_mul bx1.2 by1.2 by1.1 (by omega)⟩
 rw[em]
 generalize x0*y0=X at *
 generalize x0*y1=Y at *
 generalize x1*y0=Z at *
 generalize x1*y1=U at *
 clear hx0 hx1 hy0 hy1 ea eb em
 have t0:0<=s0/\s0<18446744073709551616:=by omega
 have t1:0<=s1/\s1<18446744073709551616:=by omega
 have t2:0<=s2/\s2<18446744073709551616:=by omega
 have t3:0<=s3/\s3<18446744073709551616:=by omega
 have eN:U*18446744073709551616+(Y+Z)*4294967296+X=s3*18446744073709551616+(s2 % 4294967296)*4294967296+s0 % 4294967296:=by omega
 rw[eN]
 unfold d0 d1 d2 d3
 refine⟨by omega,by omega,by omega,by omega,t0,t1,t2,t3⟩
theorem divmod_of {x c q r:Int} (h:q*c+r=x) (r0:0<=r) (r1:r<c):x/c=q/\x % c=r:=by
 have hc:0<c:=by omega
 have:=(Int.ediv_emod_unique (a:=x) (b:=c) (r:=r) (q:=q) hc).2 ⟨by rw[Int.mul_comm c q];omega,r0,r1⟩
 exact this
def nk (L:Int):Nat->Int
 | 0=>L
 | k+1=>nk L k*2 % 18446744073709551616
def Mk (H L:Int):Nat->Int
 | 0=>H
 | k+1=>Mk H L k*2+nk L k/9223372036854775808
theorem nk_bd (L:Int) (h:0<=L/\L<18446744073709551616):∀ k,0<=nk L k/\nk L k<18446744073709551616
 | 0=>h
 | k+1=>by unfold nk;omega
theorem Mk_eq (H L:Int) (h:0<=L/\L<18446744073709551616):∀ k,Mk H L k*18446744073709551616+nk L k=(H*18446744073709551616+L)*2 ^ k
 | 0=>by simp[Mk,nk]
 | k+1=>by
  have:=Mk_eq H L h k
  have b:=nk_bd L h k
  rw[Int.pow_succ,<-Int.mul_assoc,<-this]
  show (Mk H L k*2+nk L k/9223372036854775808)*18446744073709551616+nk L k*2 % 18446744073709551616=_
  omega
structure DivRel (H L c:Int) (k:Nat) (q r n:Int):Prop where
 eq:q*c+r=Mk H L k
 r0:0<=r
 r1:r<c
 q0:0<=q
 q1:q<2 ^ k
 n:n=nk L k
theorem DivRel.start {H L c:Int} (h0:0<=H) (h1:H<c):DivRel H L c 0 0 H L:=⟨by simp[Mk],h0,h1,by omega,by simp,rfl⟩
theorem DivRel.nbd {H L c q r n:Int} {k:Nat} (h:DivRel H L c k q r n) (hL:0<=L/\L<18446744073709551616):0<=n/\n<18446744073709551616:=by
 rw[h.n];exact nk_bd L hL k
theorem DivRel.qbd {H L c q r n:Int} {k:Nat} (h:DivRel H L c k q r n) (hk:k<64):q<9223372036854775808:=by
 have hp:(2:Nat) ^ k<=2 ^ 63:=Nat.pow_le_pow_right (by decide) (by omega)
 have:(2:Int) ^ k<=2 ^ 63:=by exact_mod_cast hp
 have:=h.q1
 omega
theorem DivRel.less {H L c q r n:Int} {k:Nat} (h:DivRel H L c k q r n) (hs:r*2+n/9223372036854775808<c) (hL:0<=L/\L<18446744073709551616) :
  DivRel H L c (k+1) (q*2) (r*2+n/9223372036854775808) (n*2 % 18446744073709551616):=by
 have hn:=h.nbd hL
 have h0:=h.r0
 refine⟨?_,by omega,hs,by have:=h.q0;omega,?_,?_⟩
 ·unfold Mk;rw[<-h.eq,<-h.n,Int.add_mul,Int.mul_right_comm];omega
 ·have:=h.q1;rw[Int.pow_succ];omega
 ·rw[h.n];rfl
theorem DivRel.more {H L c q r n:Int} {k:Nat} (h:DivRel H L c k q r n) (hs:c<=r*2+n/9223372036854775808) (hL:0<=L/\L<18446744073709551616) :
  DivRel H L c (k+1) (q*2+1) (r*2+n/9223372036854775808-c) (n*2 % 18446744073709551616):=by
 have hn:=h.nbd hL
 have h0:=h.r0
 have h1:=h.r1
 refine⟨?_,by omega,by omega,by have:=h.q0;omega,?_,?_⟩
 ·unfold Mk;rw[<-h.eq,<-h.n,Int.add_mul,Int.add_mul,Int.mul_right_comm];omega
 ·have:=h.q1;rw[Int.pow_succ];omega
 ·rw[h.n];rfl
theorem DivRel.done {H L c q r n:Int} (h:DivRel H L c 64 q r n) (hL:0<=L/\L<18446744073709551616) :
  (H*18446744073709551616+L)/c=q/\(H*18446744073709551616+L) % c=r:=by
 refine divmod_of ?_ h.r0 h.r1
 rw[h.eq]
 have e:=Mk_eq H L hL 64
 have b:=nk_bd L hL 64
 have p:(2:Int) ^ 64=18446744073709551616:=by decide
 rw[p] at e
 omega
def sgn (x y:Int):Int:=if x<y then -1 else if y<x then 1 else 0
theorem dig_eq (n:Int):n=d3 n*79228162514264337593543950336+d2 n*18446744073709551616+d1 n*4294967296+d0 n:=by unfold d3 d2 d1 d0;omega
def mdQ (a b c:Int) (up:Bool):Int:=if up=true/\a*b % c≠0 then a*b/c+1 else a*b/c
def mdV (a b c:Int) (up:Bool):Int:=if a<0\/b<0\/c<=0 then 0 else exV (mdQ a b c up)
def mdE (a b c:Int) (up:Bool):Int:=if a<0\/b<0\/c<=0 then 1 else exE (mdQ a b c up)
theorem md_bad {a b c:Int} {up:Bool} (h:a<0\/b<0\/c<=0):mdV a b c up=0/\mdE a b c up=1:=⟨if_pos h,if_pos h⟩
theorem md_good {a b c:Int} {up:Bool} (h0:0<=a) (h1:0<=b) (h2:0<c):mdV a b c up=exV (mdQ a b c up)/\mdE a b c up=exE (mdQ a b c up) :=
 ⟨if_neg (by omega),if_neg (by omega)⟩
def cdV (a b:Int):Int:=if a<0\/b<=0 then 0 else if a % b=0 then a/b else a/b+1
def cdE (a b:Int):Int:=if a<0\/b<=0 then 1 else 0
def cmV (a b c d:Int):Int:=if a<0\/b<=0\/c<0\/d<=0 then 0 else sgn (a*d) (c*b)
def cmE (a b c d:Int):Int:=if a<0\/b<=0\/c<0\/d<=0 then 1 else 0
end Go.Proofs.YtlecikdjoekknaaGreat.qar
end
