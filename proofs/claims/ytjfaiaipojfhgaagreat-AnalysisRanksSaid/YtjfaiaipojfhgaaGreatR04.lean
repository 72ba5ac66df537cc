/- Part 4 of a proof: ReW. -/
import Derived.ChangeSame
import Derived.Deep.Fields
import Derived.Deep.Slices
import Derived.OwnWalk
import Derived.SizedLaws
import Derived.Test.YtjfaiaipojfhgaaGreatR01
section
namespace Go.Proofs.YtjfaiaipojfhgaaGreat.rsp
open Go.ChangeShapes Go.WideShapes Go.ChangeAt Go.RowKit Go.Deep
section
variable {H:Type} {enc:TypeId × Value→H} {P:Program} {w:World} {base:Nat} {spare:Nat→Bool} {held:Bool}
theorem open_slice_fields {t e:TypeId} {fs:Array Field} {fuel:Nat} {cs:List Value} {x:DataW H × List MemPlace} (ht:P.underlying t=some (.slice e)) (he:P.underlying e=some (.struct fs))
  (hone:oneCellFields P fs=true) (hC:P.cellsOf e=fs.size) (h:DataW.trod enc P w base spare held fuel t cs=some x) :
  (cs = [.slice none 0 0]∧x=(.nil, [])) ∨
  ∃ (a:Addr) (len cap m:Nat) (D:Nat→DataW H) (Pl:Nat→List MemPlace),cs = [.slice (some a) len cap]∧base≤a.block∧len≤cap∧cap≤maxLen∧m=(if spare a.block then cap else len) ∧
   x=(.slice ((List.range len).map D) ((List.range (m-len)).map fun j=>D (len+j)),MemPlace.row a (m*fs.size) ++ (List.range m).flatMap Pl) ∧
   ∀ i,i<m→∃ (ys:List (DataW H × List MemPlace)) (n:Nat),D i=.agg (ys.map (·.1))∧Pl i=ys.flatMap (·.2)∧ys.length=fs.size ∧
    ∀ (j:Nat) (f:Field),fs[j]? = some f→∃ (v:Value) (y:DataW H × List MemPlace),w.cell? (a.add (i*fs.size+j))=some v∧ys[j]? = some y∧DataW.trod enc P w base spare held n f.type [v]=some y:=by
 rcases open_slice ht h with h0 | ⟨a,len,cap,m,n,D,Pl,hcs,hb,hl,hm,hmm,hx,hi⟩
 ·exact .inl h0
 ·refine .inr ⟨a,len,cap,m,D,Pl,hcs,hb,hl,hm,hmm,by rw[hC] at hx;exact hx,fun i him=>?_⟩
  obtain⟨cs',hc,ht'⟩:=hi i him
  rw[hC] at hc
  obtain⟨ys,n',hn',hy,hlen,hyl,hf⟩:=DataW.trod_struct he ht'
  obtain⟨_,hcl,hat⟩:=World.cells?_some hc
  simp only[Prod.mk.injEq] at hy
  refine⟨ys,n',hy.1,hy.2,hyl,fun j f hj=>?_⟩
  obtain⟨ho,hk⟩:=hone_of hone j f hj
  have hjl:j<fs.size:=(Array.getElem?_eq_some_iff.1 hj).1
  have hcell:=hat j hjl
  have hv:cs'[j]? = some (cs'[j]'(by omega)):=List.getElem?_eq_getElem (by omega)
  have h1:=hf j f hj
  rw[ho,hk] at h1
  have hone':(cs'.drop j).take 1 = [cs'[j]'(by omega)]:=by
   rw[List.drop_eq_getElem_cons (by omega)]
   rfl
  rw[hone'] at h1
  have hys:ys[j]? = some (ys[j]'(by omega)):=List.getElem?_eq_getElem (by omega)
  refine⟨_,_,?_,hys,h1.trans hys⟩
  rw[←Go.Deep.add_add,hcell,hv]
end
structure RLd (w:World) (A:Option Addr) (n:Nat) (l:List Ld):Prop where
 len:l.length=n
 max:n≤9223372036854775807
 at_:0<n→∃ b off,A=some ⟨b,off,none⟩∧b<w.heap.size∧∀ k x,l[k]? = some x→w.cell? ⟨b,off+k*3,none⟩=some (.int .i64 x.w)∧w.cell? ⟨b,off+k*3+1,none⟩=some (.int .i64 x.p)∧w.cell? ⟨b,off+k*3+2,none⟩=some (.int .i64 x.j)
 fit:∀ x ∈ l,inR x.w∧inR x.p∧inR x.j
theorem RLd.but {w w':World} {A:Option Addr} {n:Nat} {l:List Ld} {S:Nat→Prop} (h:RLd w A n l) (hb:But S w w') (hs:0<n→∀ b off,A=some ⟨b,off,none⟩→¬S b):RLd w' A n l :=
 ⟨h.len,h.max,fun hn=>by
  obtain⟨b,off,e,hl,hc⟩:=h.at_ hn
  have h9:=hs hn b off e
  exact⟨b,off,e,Nat.lt_of_lt_of_le hl hb.size,fun k x hx=>by rw[hb.cell hl h9,hb.cell hl h9,hb.cell hl h9];exact hc k x hx⟩,h.fit⟩
theorem RLd.no {w w':World} {A:Option Addr} {n:Nat} {l:List Ld} (h:RLd w A n l) (hb:But No w w'):RLd w' A n l:=h.but hb (fun _ _ _ _ f=>f)
theorem RLd.at1 {w:World} {A:Option Addr} {n:Nat} {l:List Ld} (h:RLd w A n l) {k:Nat} {x:Ld} (hx:l[k]? = some x) :
  ∃ b off,A=some ⟨b,off,none⟩∧b<w.heap.size∧w.cell? ⟨b,off+k*3,none⟩=some (.int .i64 x.w)∧w.cell? ⟨b,off+k*3+1,none⟩=some (.int .i64 x.p)∧w.cell? ⟨b,off+k*3+2,none⟩=some (.int .i64 x.j):=by
 have hk:k<l.length:=(List.getElem?_eq_some_iff.1 hx).1
 obtain⟨b,off,e,hl,hc⟩:=h.at_ (by rw[←h.len];omega)
 obtain⟨h1,h2,h3⟩:=hc k x hx
 exact⟨b,off,e,hl,h1,h2,h3⟩
theorem RLd.nil (w:World):RLd w none 0 []:=⟨rfl,by omega,fun h=>absurd h (by omega),by simp⟩
theorem RLd.take {w:World} {A:Option Addr} {n:Nat} {l:List Ld} (h:RLd w A n l) {i:Nat} (hi:i≤n):RLd w A i (l.take i):=by
 refine⟨by rw[List.length_take,h.len];omega,by have:=h.max;omega,fun h0=>?_,fun x hx=>h.fit x (List.mem_of_mem_take hx)⟩
 obtain⟨b,off,e,hl,hc⟩:=h.at_ (by omega)
 exact⟨b,off,e,hl,fun k x hx=>hc k x (by rw[List.getElem?_take] at hx;split at hx;exact hx;cases hx)⟩
theorem RLd.drop {w:World} {b off n i:Nat} {l:List Ld} (h:RLd w (some ⟨b,off,none⟩) n l) (hi:i≤n):RLd w (some ⟨b,off+i*3,none⟩) (n-i) (l.drop i):=by
 refine⟨by rw[List.length_drop,h.len],by have:=h.max;omega,fun h0=>?_,fun x hx=>h.fit x (List.mem_of_mem_drop hx)⟩
 obtain⟨b',off',e,hl,hc⟩:=h.at_ (by omega)
 cases e
 refine⟨b,off+i*3,rfl,hl,fun k x hx=>?_⟩
 rw[List.getElem?_drop] at hx
 have:=hc (i+k) x hx
 have e4:off+(i+k)*3=off+i*3+k*3:=by omega
 rw[e4] at this
 exact this
theorem int_of {H:Type} {enc:TypeId × Value→H} {W:World} {base n:Nat} {sp:Nat→Bool} {held:Bool} {v:Value} {y:DataW H × List MemPlace} (h:DataW.trod enc Tryz.prog W base sp held n 3 [v]=some y):∃ z,v=.int .i64 z∧inR z:=by
 obtain⟨z,hz⟩:=DataW.trod_int Tryz.underlying3 h
 simp only[List.cons.injEq,and_true] at hz
 exact⟨z,hz.1,inR_of hz.2.2⟩
def ldC (x:Ld):List Value:=[.int .i64 x.w,.int .i64 x.p,.int .i64 x.j]
def OLd (w:World) (e:TypeId) (v:Value) (l:List Ld):Prop:=w.ownsRow 0 e 3 v l.length (l.flatMap ldC)
theorem OLd.nil (w:World) (e:TypeId):OLd w e (.slice none 0 0) []:=World.ownsRow_nil _ _ _ _
theorem OLd.but {w w':World} {e:TypeId} {v:Value} {l:List Ld} {S:Nat→Prop} (h:OLd w e v l) (hb:But S w w') (hs:∀ k,v.ownBlock=some k→¬S k):OLd w' e v l:=owns_but h hb hs
theorem ldC_at {l:List Ld} {k:Nat} {x:Ld} (h:l[k]? = some x):(l.flatMap ldC)[k*3]? = some (.int .i64 x.w)∧(l.flatMap ldC)[k*3+1]? = some (.int .i64 x.p)∧(l.flatMap ldC)[k*3+2]? = some (.int .i64 x.j):=by
 induction l generalizing k with
 | nil=>cases h
 | cons y l ih =>
  rw[List.flatMap_cons]
  cases k with
  | zero =>
   have e:y=x:=by simpa using h
   subst e
   exact⟨rfl,rfl,rfl⟩
  | succ k =>
   have:=ih (k:=k) (by simpa using h)
   have e:(ldC y).length=3:=rfl
   refine⟨?_,?_,?_⟩ <;> rw[List.getElem?_append_right (by rw[e];omega),e]
   ·rw[show (k+1)*3-3=k*3 by omega];exact this.1
   ·rw[show (k+1)*3+1-3=k*3+1 by omega];exact this.2.1
   ·rw[show (k+1)*3+2-3=k*3+2 by omega];exact this.2.2
theorem OLd.rd {w:World} {e:TypeId} {v:Value} {l:List Ld} (h:OLd w e v l) (hm:l.length≤9223372036854775807) (hf:∀ x ∈ l,inR x.w∧inR x.p∧inR x.j):∃ A c,v=.slice A l.length c∧RLd w A l.length l:=by
 obtain⟨h1,h2⟩:=h
 rcases h2 with⟨hv,hn⟩ | ⟨g,cap,cur,hv,_,hh,_,_,hs,ht⟩
 ·exact⟨none,0,by rw[hv,hn],by obtain rfl:=List.length_eq_zero_iff.1 hn;exact RLd.nil w⟩
 ·refine⟨some ⟨g,0,none⟩,cap,hv,rfl,hm,fun hn=>⟨g,0,rfl,Blk.lt hh,fun k x hx=>?_⟩,hf⟩
  have hk:k<l.length:=(List.getElem?_eq_some_iff.1 hx).1
  obtain⟨a0,a1,a2⟩:=ldC_at hx
  have at_:∀ (j:Nat) (u:Value),j<l.length*3→(l.flatMap ldC)[j]? = some u→w.cell? ⟨g,j,none⟩=some u:=fun j u hj hu=>by
   rw[←ht,List.getElem?_take,if_pos hj] at hu
   exact Blk.cell hh (by simpa using hu)
  rw[Nat.zero_add]
  exact⟨at_ _ _ (by omega) a0,at_ _ _ (by omega) a1,at_ _ _ (by omega) a2⟩
end Go.Proofs.YtjfaiaipojfhgaaGreat.rsp
end
