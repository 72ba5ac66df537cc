/- Part 1 of a proof: Base TkM Sy V0. -/
import Derived.Below
import Derived.BigQuiet
import Derived.BigRegion
import Derived.ChangeKeysEq
import Derived.ChangeSame
import Derived.Deep.AppendLies
import Derived.Deep.Draws
import Derived.Deep.Fields
import Derived.Deep.QuietTactic
import Derived.Deep.RegionHeld3
import Derived.Deep.Slices
import Derived.IntWalk
import Derived.Laws.BitsAllLaws
import Derived.Laws.StructEq
import Derived.Lib.Hide
import Derived.LoopN
import Derived.Maps.AppendAt
import Derived.OpenShut
import Derived.OwnWalk
import Derived.ProofKit
import Derived.RegionTactic
import Derived.SizedLaws
import Derived.StillTailTactics
import Derived.Test.YtikcigjbhohboaaGreatRows
import Derived.WalkKit
section
namespace Go.Proofs.YtikcigjbhohboaaGreat
open Go.ChangeShapes Go.WideShapes Go.ChangeAt Go.RowKit Go.Deep
structure But (S:Nat→Prop) (w w':World):Prop where
 os:w'.os=w.os
 tape:w'.tape=w.tape
 output:w'.output=w.output
 size:w.heap.size≤w'.heap.size
 block:∀ k,k<w.heap.size→¬S k→w'.heap[k]? = w.heap[k]?
theorem But.refl (S:Nat→Prop) (w:World):But S w w:=⟨rfl,rfl,rfl,Nat.le_refl _,fun _ _ _=>rfl⟩
theorem But.trans {S:Nat→Prop} {a b c:World} (h:But S a b) (k:But S b c):But S a c :=
 ⟨k.os.trans h.os,k.tape.trans h.tape,k.output.trans h.output,Nat.le_trans h.size k.size,fun i hi hs=>(k.block i (Nat.lt_of_lt_of_le hi h.size) hs).trans (h.block i hi hs)⟩
theorem But.mono {S S':Nat→Prop} {a b:World} (h:But S a b) (hS:∀ k,k<a.heap.size→S k→S' k):But S' a b :=
 ⟨h.os,h.tape,h.output,h.size,fun k hk hn=>h.block k hk (fun s=>hn (hS k hk s))⟩
theorem But.andThen {S S':Nat→Prop} {a b c:World} (h:But S a b) (k:But S' b c) (hS:∀ k,S' k→S k∨a.heap.size≤k):But S a c :=
 ⟨k.os.trans h.os,k.tape.trans h.tape,k.output.trans h.output,Nat.le_trans h.size k.size,fun i hi hs=>(k.block i (Nat.lt_of_lt_of_le hi h.size) (fun s=>(hS i s).elim hs (fun g=>by omega))).trans (h.block i hi hs)⟩
theorem But.drew {S:Nat→Prop} {a b:World} (h:But S a b):But S a b.drew:=⟨h.os,h.tape,h.output,h.size,h.block⟩
theorem But.alloc {S:Nat→Prop} {a b:World} (h:But S a b) (o:Obj):But S a (b.alloc o) :=
 h.trans ⟨rfl,rfl,rfl,by simp,fun k hk _=>Below.heap_alloc _ _ _ hk⟩
theorem But.setCell {S:Nat→Prop} {a b:World} (h:But S a b) {p:Addr} (hp:S p.block) (u:Value):But S a (b.setCell p u) :=
 h.trans ⟨rfl,rfl,rfl,by simp[World.setCell],fun k _ hs=>Below.heap_setCell _ _ _ _ (fun e=>hs (e▸hp))⟩
theorem But.setNew {S:Nat→Prop} {a b:World} (h:But S a b) {p:Addr} (hp:a.heap.size≤p.block) (u:Value):But S a (b.setCell p u) :=
 ⟨h.os,h.tape,h.output,Nat.le_trans h.size (by simp[World.setCell]),fun k hk hs=>(Below.heap_setCell _ _ _ _ (by omega)).trans (h.block k hk hs)⟩
theorem But.grown {S:Nat→Prop} {a b c:World} {row:Option Nat} (h:But S a b) (hg:b.grownBy c row) (hr:∀ k,row=some k→S k∨a.heap.size≤k):But S a c :=
 ⟨hg.os.trans h.os,hg.tape.trans h.tape,hg.output.trans h.output,Nat.le_trans h.size hg.size,fun k hk hs=>(hg.block k (Nat.lt_of_lt_of_le hk h.size) (fun e=>(hr k e.symm).elim hs (fun g=>by omega))).trans (h.block k hk hs)⟩
theorem But.below {S:Nat→Prop} {w w':World} {B:Nat} (h:But S w w') (hS:∀ k,S k→B≤k) (hB:B≤w.heap.size):Below B w w' :=
 ⟨h.os,h.tape,h.output,h.size,fun k hk=>h.block k (by omega) (fun s=>by have:=hS k s;omega)⟩
theorem But.cell {S:Nat→Prop} {w w':World} (h:But S w w') {b o:Nat} (hb:b<w.heap.size) (hs:¬S b):w'.cell? ⟨b,o,none⟩=w.cell? ⟨b,o,none⟩:=World.cell?_of_block (w:=w) (h.block b hb hs)
def No : Nat→Prop:=fun _=>False
def Just (q:Nat):Nat→Prop:=fun k=>k=q
theorem just (q:Nat):Just q q:=rfl
theorem But.no {S:Nat→Prop} {w w':World} (h:But No w w'):But S w w':=h.mono (fun _ _ f=>f.elim)
def Blk (w:World) (b:Nat) (cur:Array Value) (e:TypeId):Prop:=w.heap[b]? = some (.cells cur e (0,0))
theorem Blk.lt {w:World} {b:Nat} {cur:Array Value} {e:TypeId} (h:Blk w b cur e):b<w.heap.size:=by
 unfold Blk at h
 exact(Array.getElem?_eq_some_iff.1 h).1
theorem Blk.cell {w:World} {b:Nat} {cur:Array Value} {e:TypeId} (h:Blk w b cur e) {o:Nat} {v:Value} (hv:cur[o]? = some v):w.cell? ⟨b,o,none⟩=some v:=by
 unfold Blk at h
 simp[World.cell?,h,hv]
theorem Blk.frozen {w:World} {b:Nat} {cur:Array Value} {e:TypeId} (h:Blk w b cur e) (o:Nat):w.frozen? ⟨b,o,none⟩=false:=by
 unfold Blk at h
 simp[World.frozen?,h]
theorem Blk.set {w:World} {b:Nat} {cur:Array Value} {e:TypeId} (h:Blk w b cur e) (o:Nat) (v:Value):Blk (w.setCell ⟨b,o,none⟩ v) b (cur.setIfInBounds o v) e:=by
 unfold Blk at h ⊢
 simp[World.setCell,Array.getElem?_modify,h]
theorem Blk.other {w:World} {b:Nat} {cur:Array Value} {e:TypeId} (h:Blk w b cur e) {a:Addr} (ha:b≠a.block) (v:Value):Blk (w.setCell a v) b cur e:=by
 unfold Blk at h ⊢
 rw[Below.heap_setCell _ _ _ _ ha];exact h
theorem Blk.but {w w':World} {b:Nat} {cur:Array Value} {e:TypeId} {S:Nat→Prop} (h:Blk w b cur e) (hb:But S w w') (hs:¬S b):Blk w' b cur e:=by
 have hl:=h.lt
 unfold Blk at h ⊢
 rw[hb.block b hl hs];exact h
theorem Blk.new (w:World) (cur:Array Value) (e:TypeId):Blk (w.alloc (.cells cur e)) w.heap.size cur e:=by
 unfold Blk
 exact(MapKept.heap_alloc w _).1
theorem But.drewN {S:Nat→Prop} {a b:World} (h:But S a b) (n:Nat):But S a (b.drewN n):=⟨h.os,h.tape,h.output,h.size,h.block⟩
def inR (a:Int):Prop:=-9223372036854775808≤a∧a≤9223372036854775807
theorem inR_of {x:Int} (h:(Lit.int .i64 x).wf=true):inR x:=by
 simp[Lit.wf,IntKind.min,IntKind.max,IntKind.bits,IntKind.signed] at h;unfold inR;omega
theorem wf_of {x:Int} (h:inR x):(Lit.int .i64 x).wf=true:=by
 unfold inR at h;simp[Lit.wf,IntKind.min,IntKind.max,IntKind.bits,IntKind.signed];omega
theorem blk2 (w:World) (o:Obj) (cur:Array Value) (e:TypeId):Blk ((w.alloc o).alloc (.cells cur e)) (w.heap.size+1) cur e:=by
 have:=Blk.new (w.alloc o) cur e
 simpa using this
theorem Blk.alloc {w:World} {b:Nat} {cur:Array Value} {e:TypeId} (h:Blk w b cur e) (o:Obj):Blk (w.alloc o) b cur e:=h.but (S:=No) ((But.refl _ _).alloc _) (fun f=>f)
theorem cell_keep {w1 w2:World} {b o:Nat} {v:Value} (h:w1.cell? ⟨b,o,none⟩=some v) (hb:But No w1 w2):w2.cell? ⟨b,o,none⟩=some v:=by
 rw[hb.cell (World.block_lt_of_cell? w1 _ h) (fun f=>f)];exact h
structure Rd (w:World) (A:Option Addr) (n:Nat) (zs:List Int):Prop where
 len:zs.length=n
 max:n≤9223372036854775807
 at_:0<n→∃ b off,A=some ⟨b,off,none⟩∧b<w.heap.size∧∀ k,k<n→w.cell? ⟨b,off+k,none⟩=some (.int .i64 (zs.getD k 0))
 fit:∀ k,inR (zs.getD k 0)
theorem Rd.no {w w':World} {A:Option Addr} {n:Nat} {zs:List Int} (h:Rd w A n zs) (hb:But No w w'):Rd w' A n zs :=
 ⟨h.len,h.max,fun hn=>by
  obtain⟨b,off,e,hl,hc⟩:=h.at_ hn
  exact⟨b,off,e,Nat.lt_of_lt_of_le hl hb.size,fun k hk=>by rw[hb.cell hl (fun f=>f)];exact hc k hk⟩,h.fit⟩
set_option maxRecDepth 100000 in
theorem rd_of {H:Type} {enc:TypeId × Value→H} {W:World} {base:Nat} {v:Value} {d:DataW H} {p:List MemPlace} (hv:Value.okWide Tryz.prog W .any base 26 v) (h:DataW.Trod enc Tryz.prog W 0 (fun _=>true) true 26 v d p) :
  ∃ (A:Option Addr) (n c:Nat) (zs:List Int),v=.slice A n c∧Rd W A n zs∧n≤c:=by
 obtain⟨a0,len,cap,rfl⟩:=okWide_slice Tryz.underlying26 hv
 obtain⟨fuel,hf⟩:=h
 refine⟨a0,len,cap,?_⟩
 rcases open_ints Tryz.underlying26 Tryz.underlying3 (by kernel_rfl) hf with⟨hcs,hx⟩ | ⟨a,len',cap',zs,hcs,_,hl,hm,hz,hx,hcell,hwz⟩
 ·simp[Value.cells] at hcs
  obtain⟨rfl,rfl,rfl⟩:=hcs
  exact⟨[],rfl,⟨rfl,by omega,fun h=>absurd h (by omega),fun k=>by simp[inR]⟩,Nat.le_refl _⟩
 ·simp[Value.cells] at hcs
  obtain⟨rfl,rfl,rfl⟩:=hcs
  simp only[if_true] at hz
  unfold maxLen at hm
  have hlen:(zs.take len).length=len:=by rw[List.length_take];omega
  refine⟨zs.take len,rfl,⟨hlen,by omega,fun hn=>?_,fun k=>?_⟩,hl⟩
  ·obtain⟨b,off,spot⟩:=a
   have hspot:spot=none:=by simpa [Addr.add] using World.cell?_spot (hcell 0 (by omega))
   subst hspot
   refine⟨b,off,rfl,World.block_lt_of_cell? W _ (hcell 0 (by omega)),fun k hk=>?_⟩
   rw[←add_plain,hcell k (by omega)]
   simp[List.getD,hk]
  ·by_cases hk:k<(zs.take len).length
   ·have:(zs.take len).getD k 0=(zs.take len)[k]:=by simp[List.getD,List.getElem?_eq_getElem hk]
    rw[this]
    exact inR_of (hwz _ (List.mem_of_mem_take (List.getElem_mem hk)))
   ·have:(zs.take len).getD k 0=0:=by simp only[List.getD];rw[List.getElem?_eq_none (by omega)];rfl
    rw[this];unfold inR;omega
theorem info_parts {e:TypeId} {z:Value} {n m:Nat} (h:(Tryz.prog.info? e).map (fun i=>(i.zero,i.size,i.bytes))=some (some z,n,m)):∃ i,Tryz.prog.info? e=some i∧i.zero=some z∧i.size=n∧i.bytes=m:=by
 cases hi:Tryz.prog.info? e with
 | none=>rw[hi] at h;cases h
 | some i =>
  rw[hi] at h
  simp at h
  exact⟨i,rfl,h.1,h.2.1,h.2.2⟩
def Vals (w:World) (b:Nat) (e:TypeId) (n:Nat) (f:Nat→Value):Prop:=Blk w b ((List.range n).map f).toArray e
theorem Vals.set {w:World} {b n k:Nat} {e:TypeId} {f:Nat→Value} (h:Vals w b e n f) (v:Value):Vals (w.setCell ⟨b,k,none⟩ v) b e n (fun j=>if j=k then v else f j):=by
 have h1:=Blk.set h k v
 have e:((((List.range n).map f)).toArray.setIfInBounds k v)=(((List.range n).map (fun j=>if j=k then v else f j))).toArray:=by
  apply Array.ext'
  apply List.ext_getElem?
  intro j
  simp only[List.setIfInBounds_toArray,List.getElem?_set,List.getElem?_map,List.length_map,List.length_range]
  by_cases hj:j<n
  ·by_cases e:j=k
   ·subst e;simp[hj]
   ·simp[hj,e,Ne.symm e]
  ·by_cases e:k=j
   ·subst e;simp[hj]
   ·simp[hj,e]
 show Blk _ _ _ _
 rw[←e];exact h1
theorem Vals.congr {w:World} {b n:Nat} {e:TypeId} {f g:Nat→Value} (h:Vals w b e n f) (he:∀ j,j<n→g j=f j):Vals w b e n g:=by
 have:(List.range n).map g=(List.range n).map f:=List.map_congr_left (fun j hj=>he j (List.mem_range.1 hj))
 unfold Vals;rw[this];exact h
theorem Vals.but {w w':World} {b n:Nat} {e:TypeId} {f:Nat→Value} {S:Nat→Prop} (h:Vals w b e n f) (hb:But S w w') (hs:¬S b):Vals w' b e n f:=Blk.but h hb hs
theorem Vals.cell {w:World} {b n:Nat} {e:TypeId} {f:Nat→Value} (h:Vals w b e n f) {k:Nat} (hk:k<n):w.cell? ⟨b,k,none⟩=some (f k):=by
 refine Blk.cell h ?_
 simp[hk]
theorem Vals.frozen {w:World} {b n:Nat} {e:TypeId} {f:Nat→Value} (h:Vals w b e n f) (k:Nat):w.frozen? ⟨b,k,none⟩=false:=Blk.frozen h k
theorem Vals.lt {w:World} {b n:Nat} {e:TypeId} {f:Nat→Value} (h:Vals w b e n f):b<w.heap.size:=Blk.lt h
theorem one_news (w:World) (x:Int):∀ j u, [Value.int .i64 x][j]? = some u→(w.alloc (.cells #[.int .i64 x] 3)).cell? ((⟨w.heap.size,0,none⟩:Addr).add j)=some u :=
 World.news_of_block (cs:=#[.int .i64 x]) (t:=3) (fr:=(0,0)) (Blk.new w _ _)
theorem ret_bool {a b:Bool} (h:a=b):Ending.returned (.bool a)=.returned (.bool b):=by rw[h]
theorem rd_block {w:World} {b:Nat} {zs:List Int} (h:Blk w b (zs.map (Value.int .i64)).toArray 3) (hl:zs.length≤1000) (hf:∀ k,inR (zs.getD k 0)):Rd w (some ⟨b,0,none⟩) zs.length zs :=
 ⟨rfl,by omega,fun _=>⟨b,0,rfl,h.lt,fun k hk=>by rw[Nat.zero_add];exact h.cell (by simp[hk])⟩,hf⟩
theorem laidOut : laidOutB Tryz.prog=true:=by kernel_rfl
theorem trodAll_stays {H:Type} {enc:TypeId × Value→H} {P:Program} (hl:laidOutB P=true) {W W':World} (hb:Below W.heap.size W W') :
  ∀ {ts:List TypeId} {vs:List Value} {ds:List (DataW H)} {p:List MemPlace},(ts.all fun t=>P.readableRec t && decide (t<P.types.size))=true →
   DataW.TrodAll enc P W 0 (fun _=>true) true ts vs ds p→(∀ x ∈ p,x.block<W.heap.size)→DataW.TrodAll enc P W' 0 (fun b=>decide (b<W.heap.size)) true ts vs ds p
 | [], [], [],_,_,h,_=>h
 | t :: ts,v :: vs,d :: ds,p,hr,h,hlt=>by
  obtain⟨p1,p2,h1,h2,rfl⟩:=h
  simp only[List.all_cons,Bool.and_eq_true,decide_eq_true_eq] at hr
  exact⟨p1,p2,Below.trod hl hr.1.1 hr.1.2 h1 hb (fun x hx=>hlt x (List.mem_append_left _ hx)),trodAll_stays hl hb hr.2 h2 (fun x hx=>hlt x (List.mem_append_right _ hx)),rfl⟩
 | [], [],_ :: _,_,_,h,_=>h.elim
 | [],_ :: _,_,_,_,h,_=>h.elim
 | _ :: _, [],_,_,_,h,_=>h.elim
 | _ :: _,_ :: _, [],_,_,h,_=>h.elim
theorem law_post {H:Type} {enc:TypeId × Value→H} {s:ChangeSpec} {f:Func} {W W':World} {args:Array Value} {ds gs:List (DataW H)} {before:List MemPlace}
  (hr:(f.params.toList.all fun t=>Tryz.prog.readableRec t && decide (t<Tryz.prog.types.size))=true) (hv:s.vars = []) (hres:f.resultTypes = #[4])
  (hW:DataW.Whole enc Tryz.prog f.params.toList s.vars false W args.toList ds gs before) (hfn:s.fn H ds = { results:=[.lit (.bool true)],args:=ds }) (hb:Below W.heap.size W W') :
  s.post enc Tryz.prog f false true false false W args (.bool true) W':=by
 have hlt:=hW.lt
 have hW':=hW
 obtain⟨p,q,hA,hV,rfl,_,_⟩:=hW
 rw[hv] at hV
 obtain⟨rfl,rfl⟩:=trodVars_none hV
 refine⟨ds, [],_, [],p, [],hW',?_,?_,?_,hb.frame _,fun h=>by cases h⟩
 ·rw[List.append_nil,hfn,hres]
  exact(trodAll_cons_mk (shut_bool Tryz.underlying4 _) trodAll_mk0)
 ·rw[List.append_nil,hfn]
  exact trodAll_stays laidOut hb hr hA (fun x hx=>hlt x (by simpa using hx))
 ·rw[List.append_nil,hfn,hv]
  exact rfl
theorem But.all {w w':World} (h:But No w w'):Below w.heap.size w w':=h.below (fun _ f=>f.elim) (Nat.le_refl _)
end Go.Proofs.YtikcigjbhohboaaGreat
end
section
namespace Go.Proofs.YtikcigjbhohboaaGreat
structure Tsk where
 p:Int
 d:Int
 w:Int
 secs:List (Int × Int × Int)
structure Sys where
 co:Int
 po:Int
 pr:Int
 re:Int
 sw:Int
 fi:Int
 la:Int
 rs:Int
 ts:List Tsk
def secN (x:Int × Int × Int):List Int:=[x.1,x.2.1,x.2.2]
def tskN (t:Tsk):List Int:=t.p :: t.d :: t.w :: (t.secs.length:Int) :: t.secs.flatMap secN
def nums (s:Sys):List Int:=1 :: s.co :: s.po :: s.pr :: s.re :: s.sw :: s.fi :: s.la :: s.rs :: (s.ts.length:Int) :: s.ts.flatMap tskN
def sys0 : Sys:=⟨0,0,0,0,0,0,0,0, []⟩
structure Fit (s:Sys):Prop where
 tasks:s.ts.length≤24
 secs:∀ t ∈ s.ts,t.secs.length≤4
 pos:∀ z ∈ nums s,0≤z
end Go.Proofs.YtikcigjbhohboaaGreat
end
section
namespace Go.Proofs.YtikcigjbhohboaaGreat
open Go.ChangeShapes Go.WideShapes Go.ChangeAt Go.RowKit Go.Deep
section
variable {H:Type} {enc:TypeId × Value→H} {P:Program} {w:World} {base:Nat} {spare:Nat→Bool} {held:Bool}
theorem open_slice_fields {t e:TypeId} {fs:Array Field} {fuel:Nat} {cs:List Value} {x:DataW H × List MemPlace} (ht:P.underlying t=some (.slice e)) (he:P.underlying e=some (.struct fs))
  (hone:oneCellFields P fs=true) (hC:P.cellsOf e=fs.size) (h:DataW.trod enc P w base spare held fuel t cs=some x) :
  (cs = [.slice none 0 0]∧x=(.nil, [])) ∨
  ∃ (a:Addr) (len cap m:Nat) (D:Nat→DataW H) (Pl:Nat→List MemPlace),cs = [.slice (some a) len cap]∧base≤a.block∧len≤cap∧cap≤maxLen∧m=(if spare a.block then cap else len) ∧
   x=(.slice ((List.range len).map D) ((List.range (m-len)).map fun j=>D (len+j)),MemPlace.row a (m*fs.size) ++ (List.range m).flatMap Pl) ∧
   ∀ i,i<m→∃ (ys:List (DataW H × List MemPlace)) (n:Nat),D i=.agg (ys.map (·.1))∧Pl i=ys.flatMap (·.2)∧ys.length=fs.size ∧
    ∀ (j:Nat) (f:Field),fs[j]? = some f→∃ (v:Value) (y:DataW H × List MemPlace),w.cell? (a.add (i*fs.size+j))=some v∧ys[j]? = some y∧DataW.trod enc P w base spare held n f.type [v]=some y:=by
 rcases open_slice ht h with h0 | ⟨a,len,cap,m,n,D,Pl,hcs,hb,hl,hm,hmm,hx,hi⟩
 ·exact .inl h0
 ·refine .inr ⟨a,len,cap,m,D,Pl,hcs,hb,hl,hm,hmm,by rw[hC] at hx;exact hx,fun i him=>?_⟩
  obtain⟨cs',hc,ht'⟩:=hi i him
  rw[hC] at hc
  obtain⟨ys,n',hn',hy,hlen,hyl,hf⟩:=DataW.trod_struct he ht'
  obtain⟨_,hcl,hat⟩:=World.cells?_some hc
  simp only[Prod.mk.injEq] at hy
  refine⟨ys,n',hy.1,hy.2,hyl,fun j f hj=>?_⟩
  obtain⟨ho,hk⟩:=hone_of hone j f hj
  have hjl:j<fs.size:=(Array.getElem?_eq_some_iff.1 hj).1
  have hcell:=hat j hjl
  have hv:cs'[j]? = some (cs'[j]'(by omega)):=List.getElem?_eq_getElem (by omega)
  have h1:=hf j f hj
  rw[ho,hk] at h1
  have hone':(cs'.drop j).take 1 = [cs'[j]'(by omega)]:=by
   rw[List.drop_eq_getElem_cons (by omega)]
   rfl
  rw[hone'] at h1
  have hys:ys[j]? = some (ys[j]'(by omega)):=List.getElem?_eq_getElem (by omega)
  refine⟨_,_,?_,hys,h1.trans hys⟩
  rw[←Go.Deep.add_add,hcell,hv]
theorem open_agg_fields {r:Reach} {b0:Nat} {t:TypeId} {fs:Array Field} {v:Value} {d:DataW H} {p:List MemPlace} (hs:P.underlying t=some (.struct fs)) (hone:oneCellFields P fs=true) (hC:P.cellsOf t=fs.size)
  (hv:Value.okWide P w r b0 t v) (h:DataW.Trod enc P w base spare held t v d p) :
  ∃ (l:List Value) (n:Nat),v=.agg l.toArray∧l.length=fs.size∧∀ (j:Nat) (f:Field),fs[j]? = some f→∃ (u:Value) (y:DataW H × List MemPlace),l[j]? = some u∧DataW.trod enc P w base spare held n f.type [u]=some y:=by
 obtain⟨cs,rfl,hsz⟩:=okWide_struct hs hv
 obtain⟨l⟩:=cs
 obtain⟨fuel,hf⟩:=h
 obtain⟨xs,n,_,hx,_,hlen,hg⟩:=DataW.trod_struct hs hf
 have hll:l.length=fs.size:=by rw[←hC,←hsz];rfl
 refine⟨l,n,rfl,hll,fun j f hj=>?_⟩
 obtain⟨ho,hk⟩:=hone_of hone j f hj
 have hjl:j<fs.size:=(Array.getElem?_eq_some_iff.1 hj).1
 have h1:=hg j f hj
 rw[ho,hk] at h1
 have hone':(l.drop j).take 1 = [l[j]'(by omega)]:=by
  rw[List.drop_eq_getElem_cons (by omega)]
  rfl
 have h2:DataW.trod enc P w base spare held n f.type [l[j]'(by omega)]=xs[j]?:=by rw[←hone'];simpa [Value.cells] using h1
 have hys:xs[j]? = some (xs[j]'(by omega)):=List.getElem?_eq_getElem (by omega)
 exact⟨_,_,List.getElem?_eq_getElem (by omega),h2.trans hys⟩
theorem type_at {fs:Array Field} {ts:Array TypeId} (h:fs.map (·.type)=ts) {j:Nat} {t:TypeId} (hj:ts[j]? = some t):∃ f,fs[j]? = some f∧f.type=t:=by
 rw[←h,Array.getElem?_map] at hj
 cases hf:fs[j]? with
 | none=>rw[hf] at hj;cases hj
 | some f=>rw[hf] at hj;exact⟨f,rfl,by simpa using hj⟩
theorem int_in {n:Nat} {v:Value} {y:DataW H × List MemPlace} (hi:P.underlying 3=some (.int .i64)) (h:DataW.trod enc P w base spare held n 3 [v]=some y):∃ z,v=.int .i64 z∧inR z:=by
 obtain⟨z,hz⟩:=DataW.trod_int hi h
 simp only[List.cons.injEq,and_true] at hz
 exact⟨z,hz.1,inR_of hz.2.2⟩
end
structure SysT (P:Program) (tS tT tt tC tc:TypeId) (fS ft fc:Array Field):Prop where
 uS:P.underlying tS=some (.struct fS)
 uT:P.underlying tT=some (.slice tt)
 ut:P.underlying tt=some (.struct ft)
 uC:P.underlying tC=some (.slice tc)
 uc:P.underlying tc=some (.struct fc)
 ui:P.underlying 3=some (.int .i64)
 oS:oneCellFields P fS=true
 ot:oneCellFields P ft=true
 oc:oneCellFields P fc=true
 cS:P.cellsOf tS=9
 ct:P.cellsOf tt=4
 cc:P.cellsOf tc=3
 yS:fS.map (·.type) = #[3,3,3,3,3,3,3,3,tT]
 yt:ft.map (·.type) = #[3,3,3,tC]
 yc:fc.map (·.type) = #[3,3,3]
structure RSec (w:World) (A:Option Addr) (n:Nat) (l:List (Int × Int × Int)):Prop where
 len:l.length=n
 max:n≤9223372036854775807
 at_:0<n→∃ b off,A=some ⟨b,off,none⟩∧b<w.heap.size∧∀ k x,l[k]? = some x→w.cell? ⟨b,off+k*3,none⟩=some (.int .i64 x.1)∧w.cell? ⟨b,off+k*3+1,none⟩=some (.int .i64 x.2.1)∧w.cell? ⟨b,off+k*3+2,none⟩=some (.int .i64 x.2.2)
 fit:∀ x ∈ l,inR x.1∧inR x.2.1∧inR x.2.2
theorem RSec.no {w w':World} {A:Option Addr} {n:Nat} {l:List (Int × Int × Int)} (h:RSec w A n l) (hb:But No w w'):RSec w' A n l :=
 ⟨h.len,h.max,fun hn=>by
  obtain⟨b,off,e,hl,hc⟩:=h.at_ hn
  exact⟨b,off,e,Nat.lt_of_lt_of_le hl hb.size,fun k x hx=>by rw[hb.cell hl (fun f=>f),hb.cell hl (fun f=>f),hb.cell hl (fun f=>f)];exact hc k x hx⟩,h.fit⟩
structure RTsk (w:World) (A:Option Addr) (n:Nat) (ts:List Tsk):Prop where
 len:ts.length=n
 max:n≤9223372036854775807
 at_:0<n→∃ b off,A=some ⟨b,off,none⟩∧b<w.heap.size∧∀ k t,ts[k]? = some t→w.cell? ⟨b,off+k*4,none⟩=some (.int .i64 t.p)∧w.cell? ⟨b,off+k*4+1,none⟩=some (.int .i64 t.d)∧w.cell? ⟨b,off+k*4+2,none⟩=some (.int .i64 t.w) ∧
  ∃ A' c',w.cell? ⟨b,off+k*4+3,none⟩=some (.slice A' t.secs.length c')∧t.secs.length≤c'∧RSec w A' t.secs.length t.secs
 fit:∀ t ∈ ts,inR t.p∧inR t.d∧inR t.w
theorem RTsk.no {w w':World} {A:Option Addr} {n:Nat} {ts:List Tsk} (h:RTsk w A n ts) (hb:But No w w'):RTsk w' A n ts :=
 ⟨h.len,h.max,fun hn=>by
  obtain⟨b,off,e,hl,hc⟩:=h.at_ hn
  refine⟨b,off,e,Nat.lt_of_lt_of_le hl hb.size,fun k x hx=>?_⟩
  obtain⟨h1,h2,h3,A',c',h4,h5,h6⟩:=hc k x hx
  rw[hb.cell hl (fun f=>f),hb.cell hl (fun f=>f),hb.cell hl (fun f=>f),hb.cell hl (fun f=>f)]
  exact⟨h1,h2,h3,A',c',h4,h5,h6.no hb⟩,h.fit⟩
def sysV (s:Sys) (A:Option Addr) (n c:Nat):Value:=.agg #[.int .i64 s.co,.int .i64 s.po,.int .i64 s.pr,.int .i64 s.re,.int .i64 s.sw,.int .i64 s.fi,.int .i64 s.la,.int .i64 s.rs,.slice A n c]
structure RSys (w:World) (A:Option Addr) (n c:Nat) (s:Sys):Prop where
 cap:n≤c
 ts:RTsk w A n s.ts
 fit:inR s.co∧inR s.po∧inR s.pr∧inR s.re∧inR s.sw∧inR s.fi∧inR s.la∧inR s.rs
theorem RSys.no {w w':World} {A:Option Addr} {n c:Nat} {s:Sys} (h:RSys w A n c s) (hb:But No w w'):RSys w' A n c s:=⟨h.cap,h.ts.no hb,h.fit⟩
section
variable {H:Type} {enc:TypeId × Value→H} {P:Program} {w:World} {base:Nat} {spare:Nat→Bool} {held:Bool} {tS tT tt tC tc:TypeId} {fS ft fc:Array Field}
theorem sec_of (T:SysT P tS tT tt tC tc fS ft fc) {n:Nat} {v:Value} {y:DataW H × List MemPlace} (h:DataW.trod enc P w base spare held n tC [v]=some y):∃ A l c,v=.slice A l.length c∧l.length≤c∧RSec w A l.length l:=by
 have hsz:fc.size=3:=by have:=congrArg Array.size T.yc;simpa using this
 rcases open_slice_fields T.uC T.uc T.oc (by rw[T.cc,hsz]) h with⟨hcs,_⟩ | ⟨a,len,cap,m,DD,Pl,hcs,_,hl,hm,hmm,_,hi⟩
 ·simp only[List.cons.injEq,and_true] at hcs
  exact⟨none, [],0,hcs,Nat.le_refl _,rfl,by simp,fun h=>absurd h (by simp),by simp⟩
 ·simp only[List.cons.injEq,and_true] at hcs
  unfold maxLen at hm
  have hlm:len≤m:=by rw[hmm];split <;> omega
  obtain⟨f0,g0,e0⟩:=type_at T.yc (j:=0) rfl
  obtain⟨f1,g1,e1⟩:=type_at T.yc (j:=1) rfl
  obtain⟨f2,g2,e2⟩:=type_at T.yc (j:=2) rfl
  obtain⟨F,hF⟩:=choose_lt (α:=Int × Int × Int) (n:=len) (p:=fun k z=>(w.cell? (a.add (k*3))=some (.int .i64 z.1)∧w.cell? (a.add (k*3+1))=some (.int .i64 z.2.1)∧w.cell? (a.add (k*3+2))=some (.int .i64 z.2.2))∧inR z.1∧inR z.2.1∧inR z.2.2) (fun k hk=>by
   obtain⟨ys,nn,_,_,_,hff⟩:=hi k (by omega)
   rw[hsz] at hff
   obtain⟨v0,y0,c0,_,t0⟩:=hff 0 f0 g0
   obtain⟨v1,y1,c1,_,t1⟩:=hff 1 f1 g1
   obtain⟨v2,y2,c2,_,t2⟩:=hff 2 f2 g2
   rw[e0] at t0
   rw[e1] at t1
   rw[e2] at t2
   obtain⟨z0,rfl,r0⟩:=int_in T.ui t0
   obtain⟨z1,rfl,r1⟩:=int_in T.ui t1
   obtain⟨z2,rfl,r2⟩:=int_in T.ui t2
   exact⟨(z0,z1,z2),⟨c0,c1,c2⟩,r0,r1,r2⟩)
  have hlen:((List.range len).map F).length=len:=by simp
  refine⟨some a,(List.range len).map F,cap,by rw[hlen];exact hcs,by rw[hlen];exact hl,rfl,by rw[hlen];omega,fun hn=>?_,fun x hx=>?_⟩
  ·rw[hlen] at hn
   obtain⟨b,off,spot⟩:=a
   have hspot:spot=none:=by simpa [Addr.add] using World.cell?_spot (hF 0 hn).1.1
   subst hspot
   refine⟨b,off,rfl,World.block_lt_of_cell? w _ (hF 0 hn).1.1,fun k x hx=>?_⟩
   have hk:k<len:=by have:=(List.getElem?_eq_some_iff.1 hx).1;rw[hlen] at this;exact this
   have hxe:F k=x:=by simpa [hk] using hx
   have:=(hF k hk).1
   rw[hxe] at this
   simp only[add_plain] at this
   simpa only[Nat.add_assoc] using this
  ·obtain⟨k,hk,rfl⟩:=List.mem_map.1 hx
   exact(hF k (List.mem_range.1 hk)).2
instance : Inhabited Tsk:=⟨⟨0,0,0, []⟩⟩
theorem tsk_of (T:SysT P tS tT tt tC tc fS ft fc) {n:Nat} {v:Value} {y:DataW H × List MemPlace} (h:DataW.trod enc P w base spare held n tT [v]=some y):∃ A l c,v=.slice A l.length c∧l.length≤c∧RTsk w A l.length l:=by
 have hsz:ft.size=4:=by have:=congrArg Array.size T.yt;simpa using this
 rcases open_slice_fields T.uT T.ut T.ot (by rw[T.ct,hsz]) h with⟨hcs,_⟩ | ⟨a,len,cap,m,DD,Pl,hcs,_,hl,hm,hmm,_,hi⟩
 ·simp only[List.cons.injEq,and_true] at hcs
  exact⟨none, [],0,hcs,Nat.le_refl _,rfl,by simp,fun h=>absurd h (by simp),by simp⟩
 ·simp only[List.cons.injEq,and_true] at hcs
  unfold maxLen at hm
  have hlm:len≤m:=by rw[hmm];split <;> omega
  obtain⟨f0,g0,e0⟩:=type_at T.yt (j:=0) rfl
  obtain⟨f1,g1,e1⟩:=type_at T.yt (j:=1) rfl
  obtain⟨f2,g2,e2⟩:=type_at T.yt (j:=2) rfl
  obtain⟨f3,g3,e3⟩:=type_at T.yt (j:=3) rfl
  obtain⟨F,hF⟩:=choose_lt (α:=Tsk) (n:=len) (p:=fun k z=>(w.cell? (a.add (k*4))=some (.int .i64 z.p)∧w.cell? (a.add (k*4+1))=some (.int .i64 z.d)∧w.cell? (a.add (k*4+2))=some (.int .i64 z.w)∧∃ A' c',w.cell? (a.add (k*4+3))=some (.slice A' z.secs.length c')∧z.secs.length≤c'∧RSec w A' z.secs.length z.secs)∧inR z.p∧inR z.d∧inR z.w) (fun k hk=>by
   obtain⟨ys,nn,_,_,_,hff⟩:=hi k (by omega)
   rw[hsz] at hff
   obtain⟨v0,y0,c0,_,t0⟩:=hff 0 f0 g0
   obtain⟨v1,y1,c1,_,t1⟩:=hff 1 f1 g1
   obtain⟨v2,y2,c2,_,t2⟩:=hff 2 f2 g2
   obtain⟨v3,y3,c3,_,t3⟩:=hff 3 f3 g3
   rw[e0] at t0
   rw[e1] at t1
   rw[e2] at t2
   rw[e3] at t3
   obtain⟨z0,rfl,r0⟩:=int_in T.ui t0
   obtain⟨z1,rfl,r1⟩:=int_in T.ui t1
   obtain⟨z2,rfl,r2⟩:=int_in T.ui t2
   obtain⟨A',l,c',rfl,q1,q2⟩:=sec_of T t3
   exact⟨⟨z0,z1,z2,l⟩,⟨c0,c1,c2,A',c',c3,q1,q2⟩,r0,r1,r2⟩)
  have hlen:((List.range len).map F).length=len:=by simp
  refine⟨some a,(List.range len).map F,cap,by rw[hlen];exact hcs,by rw[hlen];exact hl,rfl,by rw[hlen];omega,fun hn=>?_,fun x hx=>?_⟩
  ·rw[hlen] at hn
   obtain⟨b,off,spot⟩:=a
   have hspot:spot=none:=by simpa [Addr.add] using World.cell?_spot (hF 0 hn).1.1
   subst hspot
   refine⟨b,off,rfl,World.block_lt_of_cell? w _ (hF 0 hn).1.1,fun k x hx=>?_⟩
   have hk:k<len:=by have:=(List.getElem?_eq_some_iff.1 hx).1;rw[hlen] at this;exact this
   have hxe:F k=x:=by simpa [hk] using hx
   obtain⟨h1,h2,h3,A',c',h4,h5,h6⟩:=(hF k hk).1
   rw[hxe] at h1 h2 h3 h4 h5 h6
   simp only[add_plain] at h1 h2 h3 h4
   exact⟨h1,by rw[Nat.add_assoc];exact h2,by rw[Nat.add_assoc];exact h3,A',c',by rw[Nat.add_assoc];exact h4,h5,h6⟩
  ·obtain⟨k,hk,rfl⟩:=List.mem_map.1 hx
   exact(hF k (List.mem_range.1 hk)).2
theorem sys_of (T:SysT P tS tT tt tC tc fS ft fc) {r:Reach} {b0:Nat} {v:Value} {d:DataW H} {p:List MemPlace} (hv:Value.okWide P w r b0 tS v) (h:DataW.Trod enc P w base spare held tS v d p):∃ s A c,v=sysV s A s.ts.length c∧RSys w A s.ts.length c s:=by
 have hsz:fS.size=9:=by have:=congrArg Array.size T.yS;simpa using this
 obtain⟨l,n,rfl,hll,hg⟩:=open_agg_fields T.uS T.oS (by rw[T.cS,hsz]) hv h
 rw[hsz] at hll
 have num:∀ j,j<8→∃ z,l[j]? = some (.int .i64 z)∧inR z:=fun j hj=>by
  have hj':(#[3,3,3,3,3,3,3,3,tT]:Array TypeId)[j]? = some 3:=by
   have:j=0∨j=1∨j=2∨j=3∨j=4∨j=5∨j=6∨j=7:=by omega
   rcases this with rfl | rfl | rfl | rfl | rfl | rfl | rfl | rfl <;> rfl
  obtain⟨f,g,e⟩:=type_at T.yS hj'
  obtain⟨u,y,hu,ht⟩:=hg j f g
  rw[e] at ht
  obtain⟨z,rfl,hz⟩:=int_in T.ui ht
  exact⟨z,hu,hz⟩
 obtain⟨z0,a0,r0⟩:=num 0 (by omega)
 obtain⟨z1,a1,r1⟩:=num 1 (by omega)
 obtain⟨z2,a2,r2⟩:=num 2 (by omega)
 obtain⟨z3,a3,r3⟩:=num 3 (by omega)
 obtain⟨z4,a4,r4⟩:=num 4 (by omega)
 obtain⟨z5,a5,r5⟩:=num 5 (by omega)
 obtain⟨z6,a6,r6⟩:=num 6 (by omega)
 obtain⟨z7,a7,r7⟩:=num 7 (by omega)
 obtain⟨f8,g8,e8⟩:=type_at T.yS (j:=8) rfl
 obtain⟨u8,y8,a8,t8⟩:=hg 8 f8 g8
 rw[e8] at t8
 obtain⟨A,ts,c,rfl,q1,q2⟩:=tsk_of T t8
 have hl:l = [.int .i64 z0,.int .i64 z1,.int .i64 z2,.int .i64 z3,.int .i64 z4,.int .i64 z5,.int .i64 z6,.int .i64 z7,.slice A ts.length c]:=by
  apply List.ext_getElem?
  intro j
  by_cases hj:j<9
  ·have:j=0∨j=1∨j=2∨j=3∨j=4∨j=5∨j=6∨j=7∨j=8:=by omega
   rcases this with rfl | rfl | rfl | rfl | rfl | rfl | rfl | rfl | rfl
   ·exact a0
   ·exact a1
   ·exact a2
   ·exact a3
   ·exact a4
   ·exact a5
   ·exact a6
   ·exact a7
   ·exact a8
  ·rw[List.getElem?_eq_none (by omega),List.getElem?_eq_none (by simp;omega)]
 subst hl
 exact⟨⟨z0,z1,z2,z3,z4,z5,z6,z7,ts⟩,A,c,rfl,q1,q2,r0,r1,r2,r3,r4,r5,r6,r7⟩
end
end Go.Proofs.YtikcigjbhohboaaGreat
end
section
namespace Go.Proofs.YtikcigjbhohboaaGreat
open Go.ChangeShapes Go.WideShapes Go.ChangeAt Go.RowKit Go.Deep
theorem info3 : (Tryz.prog.info? 3).map (fun i=>(i.zero,i.size,i.bytes))=some (some (.int .i64 0),1,8):=by kernel_rfl
theorem owns_but {w w':World} {e:TypeId} {sz n:Nat} {v:Value} {xs:List Value} {S:Nat→Prop} (h:w.ownsRow 0 e sz v n xs) (hb:But S w w') (hs:∀ k,v.ownBlock=some k→¬S k):w'.ownsRow 0 e sz v n xs:=by
 have hl:=h.lt
 obtain⟨h1,h2⟩:=h
 refine⟨h1,?_⟩
 rcases h2 with h2 | ⟨g,cap,cur,hv,hg,hh,r⟩
 ·exact .inl h2
 ·refine .inr ⟨g,cap,cur,hv,hg,?_,r⟩
  have hk:v.ownBlock=some g:=by rw[hv];rfl
  rw[hb.block g (hl g hk).2 (hs g hk)];exact hh
structure Rl (w:World) (A:Option Addr) (n:Nat) (zs:List Int):Prop where
 len:zs.length=n
 max:n≤9223372036854775807
 at_:0<n→∃ b off,A=some ⟨b,off,none⟩∧b<w.heap.size∧∀ k,k<n→w.cell? ⟨b,off+k,none⟩=some (.int .i64 (zs.getD k 0))
theorem Rl.no {w w':World} {A:Option Addr} {n:Nat} {zs:List Int} (h:Rl w A n zs) (hb:But No w w'):Rl w' A n zs :=
 ⟨h.len,h.max,fun hn=>by
  obtain⟨b,off,e,hl,hc⟩:=h.at_ hn
  exact⟨b,off,e,Nat.lt_of_lt_of_le hl hb.size,fun k hk=>by rw[hb.cell hl (fun f=>f)];exact hc k hk⟩⟩
def Ov (w:World) (v:Value) (zs:List Int):Prop:=w.ownsRow 0 3 1 v zs.length (zs.map (Value.int .i64))
theorem Ov.nil (w:World):Ov w (.slice none 0 0) []:=World.ownsRow_nil _ _ _ _
theorem Ov.but {w w':World} {v:Value} {zs:List Int} {S:Nat→Prop} (h:Ov w v zs) (hb:But S w w') (hs:∀ k,v.ownBlock=some k→¬S k):Ov w' v zs:=owns_but h hb hs
theorem Ov.slice {w:World} {v:Value} {zs:List Int} (h:Ov w v zs):∃ A c,v=.slice A zs.length c∧zs.length≤c:=by
 obtain⟨h1,h2⟩:=h
 rcases h2 with⟨h2,e⟩ | ⟨g,cap,cur,hv,_,_,hc,_⟩
 ·exact⟨none,0,by rw[e];exact h2,by omega⟩
 ·exact⟨_,_,hv,hc⟩
theorem Ov.rl {w:World} {A:Option Addr} {n c:Nat} {zs:List Int} (h:Ov w (.slice A n c) zs) (hm:zs.length≤100000):Rl w A n zs∧n=zs.length:=by
 obtain⟨h1,h2⟩:=h
 rcases h2 with⟨h2,e⟩ | ⟨g,cap,cur,hv,_,hh,hc,_,hs,ht⟩
 ·cases h2
  exact⟨⟨e,by omega,fun h=>absurd h (by omega)⟩,e.symm⟩
 ·cases hv
  refine⟨⟨rfl,by omega,fun hn=>⟨g,0,rfl,Blk.lt hh,fun k hk=>?_⟩⟩,rfl⟩
  rw[Nat.zero_add]
  refine Blk.cell hh ?_
  have e:(cur.toList.take (zs.length*1))[k]? = some (.int .i64 (zs.getD k 0)):=by
   rw[ht];simp[hk]
  rw[List.getElem?_take,if_pos (by omega)] at e
  simpa using e
theorem retb {a b:Bool} (h:a=b):Ending.returned (.bool a)=.returned (.bool b):=by rw[h]
def Reads (w:World) (B size:Nat) (A:Option Addr) (n:Nat) (xs:List Value):Prop :=
 xs.length=n*size∧(0<n→∃ ad,A=some ad∧ad.block<B∧∀ j u,xs[j]? = some u→w.cell? (ad.add j)=some u)
section
variable {w w':World} {B B' size n:Nat} {A:Option Addr} {xs:List Value}
theorem Reads.none_ : Reads w B size A 0 []:=⟨by simp,fun h=>absurd h (by omega)⟩
end
section
variable {P:Program} (w:World)
theorem run_append_of_nil (base:Nat) (t ty e:TypeId) (i:TypeInfo) (size:Nat) (ht:P.underlying t=some (.slice e)) (hi:P.info? e=some i)
  (v:Value) (n:Nat) (xs:List Value) (hown:w.ownsRow base e size v n xs) (c:Nat):(Builtin.append_ #[t,t] ty #[v,.slice none 0 c]).run P w=.ok v w:=by
 rcases hown.2 with⟨rfl,rfl⟩ | ⟨g,cap,cur,rfl,_,_,hnc,_⟩
 ·simp[Builtin.append_,run_underlying ht,sizeOf,typeInfo,hi,Builtin.lenOf,Builtin.firstCells]
 ·simp[Builtin.append_,run_underlying ht,sizeOf,typeInfo,hi,Builtin.lenOf,Builtin.firstCells,hnc,storeCells]
theorem run_append_any (base:Nat) (t ty e:TypeId) (i:TypeInfo) (z:Value) (size bytes:Nat) (ht:P.underlying t=some (.slice e)) (hi:P.info? e=some i) (hz:i.zero=some z)
  (hsize:i.size=size) (hby:i.bytes=bytes) (hzs:z.cells.size=size) (hsz:0<size)
  (v:Value) (n:Nat) (xs:List Value) (hown:w.ownsRow base e size v n xs)
  (B:Nat) (A:Option Addr) (m c:Nat) (news:List Value) (hr:Reads w B size A m news) (h1:∀ u ∈ news,u.oneCell'=true)
  (h63:n+m≤maxLen) (hbytes:(n+m)*bytes≤140737488355328) (hbase:base≤w.heap.size) :
  ∃ v' w',(Builtin.append_ #[t,t] ty #[v,.slice A m c]).run P w=.ok v' w'∧w'.ownsRow base e size v' (n+m) (xs ++ news)∧w.grownBy w' v.ownBlock ∧
   (v'.ownBlock=v.ownBlock∨v'.ownBlock=some w.heap.size):=by
 rcases A with _ | ad
 ·have hm:m=0:=by
   rcases Nat.eq_zero_or_pos m with h0 | h0
   ·exact h0
   ·obtain⟨ad,h,_⟩:=hr.2 h0
    cases h
  subst hm
  have hn:news = []:=List.eq_nil_of_length_eq_zero (by simpa using hr.1)
  subst hn
  exact⟨v,w,run_append_of_nil w base t ty e i size ht hi v n xs hown c,by simpa using hown,World.grownBy.refl w _,.inl rfl⟩
 ·have hcells:∀ j u,news[j]? = some u→w.cell? (ad.add j)=some u:=by
   intro j u hu
   rcases Nat.eq_zero_or_pos m with h0 | h0
   ·subst h0
    have hn:news = []:=List.eq_nil_of_length_eq_zero (by simpa using hr.1)
    subst hn
    simp at hu
   ·obtain⟨ad',h,_,hc⟩:=hr.2 h0
    injection h with h
    subst h
    exact hc j u hu
  obtain⟨v',w',hrun,h2,h3,_,h5⟩:=run_append_own_at (P:=P) w base t ty e i z size bytes ht hi hz hsize hby hzs hsz v n xs hown ad m c news hr.1 hcells h1 h63 hbytes hbase
  exact⟨v',w',hrun,h2,h3,h5⟩
theorem wp_append_any {o:Oper} {a:Act} {K:Act→World→Prop} {Q:Exit→Act→World→Prop} (s x:Operand) (t:TypeId)
  (ho:o.op=.call { callee:=.builtin .append,args:=#[s,x],argTypes:=#[t,t] })
  (base:Nat) (e:TypeId) (i:TypeInfo) (z:Value) (size bytes:Nat) (ht:P.underlying t=some (.slice e)) (hi:P.info? e=some i) (hz:i.zero=some z)
  (hsize:i.size=size) (hby:i.bytes=bytes) (hzs:z.cells.size=size) (hsz:0<size)
  (v:Value) (n:Nat) (xs:List Value) (hs:a.eval s=v) (hown:w.ownsRow base e size v n xs)
  (B:Nat) (A:Option Addr) (m c:Nat) (news:List Value) (hx:a.eval x=.slice A m c) (hr:Reads w B size A m news) (h1:∀ u ∈ news,u.oneCell'=true)
  (h63:n+m≤maxLen) (hbytes:(n+m)*bytes≤140737488355328) (hbase:base≤w.heap.size)
  (h:∀ v' w',w'.ownsRow base e size v' (n+m) (xs ++ news)→w.grownBy w' v.ownBlock→(v'.ownBlock=v.ownBlock∨v'.ownBlock=some w.heap.size)→K (a.put o.dst v') w'):o.wp P a w K Q:=by
 obtain⟨v',w',hrun,h2,h3,h4⟩:=run_append_any (P:=P) w base t o.type e i z size bytes ht hi hz hsize hby hzs hsz v n xs hown B A m c news hr h1 h63 hbytes hbase
 unfold Oper.wp execOp
 simp only[ho,resolve,invoke,builtin,Sem.run_bind,Sem.run_pure,Result.andThen_ok,List.map_toArray,List.map_cons,List.map_nil,hs,hx,hrun]
 exact h v' w' h2 h3 h4
theorem wpList_append_any {ops:Array Oper} {rest:List Oper} {o:Oper} {a:Act} {Q:Exit→Act→World→Prop} (hgd:o.guard=none) (s x:Operand) (t:TypeId)
  (ho:o.op=.call { callee:=.builtin .append,args:=#[s,x],argTypes:=#[t,t] })
  (base:Nat) (e:TypeId) (i:TypeInfo) (z:Value) (size bytes:Nat) (ht:P.underlying t=some (.slice e)) (hi:P.info? e=some i) (hz:i.zero=some z)
  (hsize:i.size=size) (hby:i.bytes=bytes) (hzs:z.cells.size=size) (hsz:0<size)
  (v:Value) (n:Nat) (xs:List Value) (hs:a.eval s=v) (hown:w.ownsRow base e size v n xs)
  (B:Nat) (A:Option Addr) (m c:Nat) (news:List Value) (hx:a.eval x=.slice A m c) (hr:Reads w B size A m news) (h1:∀ u ∈ news,u.oneCell'=true)
  (h63:n+m≤maxLen) (hbytes:(n+m)*bytes≤140737488355328) (hbase:base≤w.heap.size)
  (h:∀ v' w',w'.ownsRow base e size v' (n+m) (xs ++ news)→w.grownBy w' v.ownBlock→(v'.ownBlock=v.ownBlock∨v'.ownBlock=some w.heap.size)→wpList P ops Q rest (a.put o.dst v') w'):wpList P ops Q (o :: rest) a w :=
 wpList_plain hgd fun _ hK=>wp_append_any w s x t ho base e i z size bytes ht hi hz hsize hby hzs hsz v n xs hs hown B A m c news hx hr h1 h63 hbytes hbase fun v' w' h2 h3 h4=>hK _ _ (h v' w' h2 h3 h4)
end
theorem owns_slice {w:World} {e:TypeId} {sz n:Nat} {v:Value} {xs:List Value} (h:w.ownsRow 0 e sz v n xs):∃ A c,v=.slice A n c:=by
 obtain⟨h1,h2⟩:=h
 rcases h2 with⟨h2,e⟩ | ⟨g,cap,cur,hv,_⟩
 ·exact⟨none,0,by rw[e];exact h2⟩
 ·exact⟨_,_,hv⟩
theorem wpList_append_sh {P:Program} (w:World) {ops:Array Oper} {rest:List Oper} {o:Oper} {a:Act} {Q:Exit→Act→World→Prop} (hgd:o.guard=none) (s x:Operand) (t:TypeId)
  (ho:o.op=.call { callee:=.builtin .append,args:=#[s,x],argTypes:=#[t,t] })
  (e:TypeId) (i:TypeInfo) (z:Value) (size bytes:Nat) (ht:P.underlying t=some (.slice e)) (hi:P.info? e=some i) (hz:i.zero=some z)
  (hsize:i.size=size) (hby:i.bytes=bytes) (hzs:z.cells.size=size) (hsz:0<size)
  (v:Value) (n:Nat) (xs:List Value) (hs:a.eval s=v) (hown:w.ownsRow 0 e size v n xs)
  (B:Nat) (A:Option Addr) (m c:Nat) (news:List Value) (hx:a.eval x=.slice A m c) (hr:Reads w B size A m news) (h1:∀ u ∈ news,u.oneCell'=true)
  (h63:n+m≤maxLen) (hbytes:(n+m)*bytes≤140737488355328)
  (h:∀ A' c' w',w'.ownsRow 0 e size (.slice A' (n+m) c') (n+m) (xs ++ news)→w.grownBy w' v.ownBlock→((Value.slice A' (n+m) c').ownBlock=v.ownBlock∨(Value.slice A' (n+m) c').ownBlock=some w.heap.size)→wpList P ops Q rest (a.put o.dst (.slice A' (n+m) c')) w'):wpList P ops Q (o :: rest) a w :=
 wpList_append_any w hgd s x t ho 0 e i z size bytes ht hi hz hsize hby hzs hsz v n xs hs hown B A m c news hx hr h1 h63 hbytes (Nat.zero_le _) (fun v' w' h2 h3 h4=>by
  obtain⟨A',c',rfl⟩:=owns_slice h2
  exact h A' c' w' h2 h3 h4)
theorem own_new {u v:Value} {M N:Nat} (hu:∀ j,u.ownBlock=some j→M≤j) (hat:v.ownBlock=u.ownBlock∨v.ownBlock=some N) (hN:M≤N):∀ j,v.ownBlock=some j→M≤j:=by
 intro j e
 rcases hat with h | h
 ·exact hu j (by rw[←h];exact e)
 ·rw[h] at e;cases e;exact hN
theorem own_none {M:Nat}:∀ j,(Value.slice none 0 0).ownBlock=some j→M≤j:=fun j e=>by simp[Value.ownBlock] at e
theorem step_append_sh {P:Program} {ops:Array Oper} {o:Oper} {a:Act} {w:World} {K:Act→World→Prop} {Q:Exit→Act→World→Prop} {E:Prop} (hgd:o.guard=none) (s x:Operand) (t:TypeId)
  (ho:o.op=.call { callee:=.builtin .append,args:=#[s,x],argTypes:=#[t,t] })
  (e:TypeId) (i:TypeInfo) (z:Value) (size bytes:Nat) (ht:P.underlying t=some (.slice e)) (hi:P.info? e=some i) (hz:i.zero=some z)
  (hsize:i.size=size) (hby:i.bytes=bytes) (hzs:z.cells.size=size) (hsz:0<size)
  (v:Value) (n:Nat) (xs:List Value) (hs:a.eval s=v) (hown:w.ownsRow 0 e size v n xs)
  (B:Nat) (A:Option Addr) (m c:Nat) (news:List Value) (hx:a.eval x=.slice A m c) (hr:Reads w B size A m news) (h1:∀ u ∈ news,u.oneCell'=true)
  (h63:n+m≤maxLen) (hbytes:(n+m)*bytes≤140737488355328)
  (h:∀ A' c' w',Hid (w'.ownsRow 0 e size (.slice A' (n+m) c') (n+m) (xs ++ news))→Hid (w.grownBy w' v.ownBlock)→Hid ((Value.slice A' (n+m) c').ownBlock=v.ownBlock∨(Value.slice A' (n+m) c').ownBlock=some w.heap.size)→K (a.put o.dst (.slice A' (n+m) c')) w') :
  if Region.wanted o (yielded ops a.tmps)=true then Oper.wp P o a w K Q else E:=by
 have hw:Region.wanted o (yielded ops a.tmps)=true:=by simp[Region.wanted,hgd]
 rw[if_pos hw]
 refine wp_append_any w s x t ho 0 e i z size bytes ht hi hz hsize hby hzs hsz v n xs hs hown B A m c news hx hr h1 h63 hbytes (Nat.zero_le _) (fun v' w' h2 h3 h4=>?_)
 obtain⟨A',c',rfl⟩:=owns_slice h2
 exact h A' c' w' h2 h3 h4
def pk (c n:Int):Int:=(if c<0 then -(c+1) else c) % n
theorem ret1 {a b:Int} (h:a=b):Ending.returned (.int .i64 a)=.returned (.int .i64 b):=by rw[h]
theorem inR_small {a:Int} (h : -1000≤a∧a≤1000):inR a:=by unfold inR;omega
theorem inR_nat {a:Nat} (h:a≤1000):inR a:=by unfold inR;omega
theorem one_reads (w:World) (a:Int):Reads (w.alloc (.cells #[.int .i64 a] 3)) (w.heap.size+1) 1 (some ⟨w.heap.size,0,none⟩) 1 [.int .i64 a] :=
 ⟨rfl,fun _=>⟨_,rfl,Nat.lt_succ_self _,one_news w a⟩⟩
theorem one_cell (a:Int):∀ u ∈ [Value.int .i64 a],u.oneCell'=true:=by simp[Value.oneCell']
theorem size_alloc1 (w:World) (o:Obj):(w.alloc o).heap.size=w.heap.size+1:=by simp
end Go.Proofs.YtikcigjbhohboaaGreat
end
